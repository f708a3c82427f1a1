import Derived.Test.YtmmbfoncpjjonabO2
namespace Go.Proofs.Ytmmbfoncpjjonab
open Go.RowKit

theorem owns_touch' {w w' : World} {B e s n lo hi : Nat} {v : Value} {xs : List Value} (h : w.ownsRow B e s v n xs) (ht : Touch lo hi w w') (hd : hi ≤ B) : w'.ownsRow B e s v n xs := by
  refine ⟨h.1, ?_⟩
  rcases h.2 with hv | ⟨g, cap, cur, hv, hb, hg, rest⟩
  · exact .inl hv
  · exact .inr ⟨g, cap, cur, hv, hb, (ht.block g (Array.getElem?_eq_some_iff.1 hg).1 (by omega)).trans hg, rest⟩

set_option maxRecDepth 10000 in
set_option maxHeartbeats 4000000 in
theorem lawOidBytes_walk (a : Option Addr) (n c : Nat) (zs : List Int) (w : World) (h : Row64 w a n zs) (hmax : n ≤ 9223372036854775807) :
    Calls Try.prog 3 #[.slice a n c] w fun e w' => e = .returned (.bool true) ∧ Below w.heap.size w w' := by
  have H0 : Hid (Row64 w a n zs) := h
  clear h
  by_cases hbig : 1048576 < n
  · go_enter Try.func3, Try.ntmps3
    go_wp2
    go_ret
    exact ⟨rfl, Below.refl _ _⟩
  · have hn : n ≤ 1048576 := by omega
    have hm : 1000 ≤ maxLen := by unfold maxLen; omega
    go_enter Try.func3, Try.ntmps3
    go_wp2_with fail
    refine (toInt64S_any a n c zs _ H0.out hn).mono ?_
    rintro e w1 ⟨a1, rfl, ho1, hb1⟩
    go_wp2_with fail
    refine (specOidBytes_any a1 n n zs _ ho1.toRow hn).mono ?_
    rintro e w2 ⟨aw, nw, cw, bs, ok, rfl, hr1, hlw, how, hb2⟩
    have B2 : Below w.heap.size w w2 := hb1.trans (hb2.mono hb1.size)
    have HR1 : Hid (oidRes zs bs ok) := hr1
    have HOW : Hid (_) := how
    clear hr1 ho1 hb1 hb2 how
    go_wp2_with fail
    refine (toInt64S_any a n c zs _ (H0.out.kept B2) hn).mono ?_
    rintro e w3 ⟨a3, rfl, ho3, hb3⟩
    have B3 : Below w.heap.size w w3 := B2.trans (hb3.mono B2.size)
    have hs3 := hb3.size
    have HO3 : Hid (Own64 w2.heap.size w3.heap.size w3 a3 n n zs) := ho3
    have HB3 : Hid (Below w2.heap.size w2 w3) := hb3
    clear ho3 hb3
    go_wp2_with fail
    refine (implOidBytes_any a3 n n zs _ HO3.out.toRow hn (Nat.le_refl _) (by omega)).mono ?_
    rintro e w4 ⟨ag, ng, cg, bs2, ok2, rfl, hr2, hlg, hog, hb4⟩
    obtain ⟨e1, e2⟩ := oidRes_one hr2 HR1.out
    subst e1
    subst e2
    have hl1 := HOW.out.length
    have hl2 := hog.length
    have hnn : ng = nw := by omega
    subst hnn
    clear hl1 hl2 hr2
    have B4 : Below w.heap.size w w4 := B3.trans (hb4.mono B3.size)
    have D4 : Below w2.heap.size w2 w4 := HB3.out.trans (hb4.mono hs3)
    have HO4 : Hid (Own64 w2.heap.size w3.heap.size w4 a3 n n zs) := HO3.out.kept hb4
    have HG4 : Hid (Own w3.heap.size w4 ag ng cg bs2) := hog
    have hs4 := hb4.size
    clear HO3 hb4 hog
    have t0 : (ok2 != ok2) = false := by simp
    go_wp2_with fail
    refine (eqByteS_any ag aw ng ng cg cw bs2 bs2 _ HG4.out.toRow (HOW.out.kept D4).toRow (by omega) (by omega)).mono ?_
    rintro e w5 ⟨rfl, hb5⟩
    rw [decide_eq_true (rfl : bs2 = bs2)]
    have B5 : Below w.heap.size w w5 := B4.trans (hb5.mono B4.size)
    have hs5 := hb5.size
    go_wp2_with fail
    refine (toInt64S_any a n c zs _ (H0.out.kept B5) hn).mono ?_
    rintro e w6 ⟨a6, rfl, ho6, hb6⟩
    have D6 : Below w4.heap.size w4 w6 := hb5.trans (hb6.mono hs5)
    have HO6 : Hid (Row64 w6 a6 n zs) := ho6.toRow
    clear ho6 hb5 hb6
    go_wp2_with fail
    refine (eqInt64S_same a3 a6 n n n zs _ (HO4.out.kept D6).toRow HO6.out (by omega)).mono ?_
    rintro e w7 ⟨rfl, hb7⟩
    have D7 : Below w4.heap.size w4 w7 := D6.trans (hb7.mono D6.size)
    have B7 : Below w.heap.size w w7 := B4.trans (D7.mono B4.size)
    have hs7 := D7.size
    clear D6 hb7 HO6
    go_wp2_with fail
    refine (markInt64S_any w2.heap.size w3.heap.size a3 n n 1 zs _ (HO4.out.kept D7) (by omega) (by decide)).mono ?_
    rintro e w8 ⟨rfl, ht8⟩
    have hsw2 := B2.size
    have hs8 := ht8.size
    have B8 : Below w.heap.size w w8 := B7.trans (ht8.below (by omega) (by omega))
    have HG8 : Hid (Own w3.heap.size w8 ag ng cg bs2) := ⟨owns_touch' (HG4.out.kept D7).row ht8 (Nat.le_refl _), HG4.out.byte⟩
    have HW8 : Hid (Row w8 aw ng bs2) := ((HOW.out.kept D4).kept D7).toRow.touch HOW.out.in_ (.inl (Nat.le_refl _)) ht8
    clear HG4 D4 D7 ht8 HO4
    have k0 : ¬ (((1 + n : Nat) : Int) < 0) := by omega
    obtain ⟨kk, hkk⟩ : ∃ kk : Int, kk = ((1 + n : Nat) : Int) := ⟨_, rfl⟩
    rw [← hkk] at k0 ⊢
    clear hkk
    go_wp2_with fail
    refine (eqByteS_any ag aw ng ng cg cw bs2 bs2 _ HG8.out.toRow HW8.out (by omega) (by omega)).mono ?_
    rintro e w9 ⟨rfl, hb9⟩
    rw [decide_eq_true (rfl : bs2 = bs2)]
    have B9 : Below w.heap.size w w9 := B8.trans (hb9.mono B8.size)
    have hs9 := hb9.size
    have ho9 := HG8.out.kept hb9
    have HW9 : Hid (Row w9 aw ng bs2) := HW8.out.kept hb9
    clear HG8 HW8 hb9
    go_wp2_with fail
    refine (markByteS_int w3.heap.size ag ng cg 1 bs2 _ ho9 (by omega) (by decide) (by decide)).mono ?_
    rintro e w10 ⟨rfl, ho10, hg10⟩
    have hr10 : Row w10 aw ng bs2 := HW9.out.grown (fun b off hab h0 => by have := HOW.out.in_ b off hab h0; omega) ho9 hg10
    have B10 : Below w.heap.size w w10 := B9.grown hg10 (by have := B9.size; omega) (fun k hk => by have := (ho9.row.lt k hk).1; omega)
    have HM10 : Hid (_) := ho10.toRow
    have HW10 : Hid (_) := hr10
    clear hr10 ho10 hg10 ho9 HW9
    go_wp2_with fail
    refine (heldByteS_int ag ng cg 1 _ HM10.out (by omega) (by decide) (by decide)).mono ?_
    rintro e w11 ⟨rfl, hw11⟩
    subst hw11
    have t1 : ((1 : Int) + (ng : Int) != 1 + (ng : Int)) = false := by simp
    go_wp2_with fail
    refine (toInt64S_any a n c zs _ (H0.out.kept B10) hn).mono ?_
    rintro e w12 ⟨a12, rfl, ho12, hb12⟩
    go_wp2_with fail
    refine (implOidBytes_any a12 n n zs _ ho12.toRow hn (Nat.le_refl _) (by omega)).mono ?_
    rintro e w13 ⟨ar, nr, cr, bs3, ok3, rfl, hr3, hlr, hor, hb13⟩
    obtain ⟨e1, e2⟩ := oidRes_one hr3 HR1.out
    subst e1
    subst e2
    have hl1 := HOW.out.length
    have hl2 := hor.length
    have hnn : nr = ng := by omega
    subst hnn
    have D13 : Below w11.heap.size w11 w13 := hb12.trans (hb13.mono hb12.size)
    clear hl1 hl2 hr3 hb12 hb13 ho12
    go_wp2_with fail
    refine (eqByteS_any ar aw nr nr cr cw bs3 bs3 _ hor.toRow (HW10.out.kept D13) (by omega) (by omega)).mono ?_
    rintro e w14 ⟨rfl, hb14⟩
    rw [decide_eq_true (rfl : bs3 = bs3)]
    have D14 : Below w11.heap.size w11 w14 := D13.trans (hb14.mono D13.size)
    go_wp2_with fail
    refine (heldByteS_int ag nr cg 1 _ (HM10.out.kept D14) (by omega) (by decide) (by decide)).mono ?_
    rintro e w15 ⟨rfl, hw15⟩
    subst hw15
    go_wp2_with fail
    go_ret
    exact ⟨rfl, B10.trans (D14.mono B10.size)⟩

end Go.Proofs.Ytmmbfoncpjjonab
