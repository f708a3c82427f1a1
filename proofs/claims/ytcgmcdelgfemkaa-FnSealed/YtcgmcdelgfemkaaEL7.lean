import Derived.Test.YtcgmcdelgfemkaaEL6
namespace Go.Proofs.Ytcgmcdelgfemkaa
open Go.RowKit

theorem touch_grownS {w w' : World} {r : Option Nat} {lo hi : Nat} (hg : w.grownBy w' r) (hr : ∀ k, r = some k → lo ≤ k ∧ k < hi) : Touch lo hi w w' :=
  ⟨hg.os, hg.tape, hg.output, hg.size, fun k hk ho => hg.block k hk (fun e => by have := hr k e.symm; omega)⟩
theorem results_three {fn : Func} {t0 t1 t2 : Tmp} (h : fn.results = #[.tmp t0, .tmp t1, .tmp t2]) (tmps : Array Value) (v0 v1 v2 : Value) (h0 : tmps.getD t0 undef = v0) (h1 : tmps.getD t1 undef = v1) (h2 : tmps.getD t2 undef = v2) (w : World) : (results fn tmps).run Try.prog w = .ok (.tuple #[v0, v1, v2]) w := by
  have e0 : tmps[t0]?.getD undef = v0 := by rw [← h0]; simp
  have e1 : tmps[t1]?.getD undef = v1 := by rw [← h1]; simp
  have e2 : tmps[t2]?.getD undef = v2 := by rw [← h2]; simp
  simp [results, h, go_sem, e0, e1, e2]
theorem OwnPu.rd {B g : Nat} {w w' : World} {a a2 : Option Addr} {n cap n2 cap2 : Nat} {bs2 : List Int} {ps : List (Int × Int × Int)} (h : OwnPu B w a n cap ps) (hp : RdPost w g a2 n2 cap2 bs2 w') (hg : g < B) : OwnPu B w' a n cap ps := ⟨owns_touch h.row hp.2 (by omega), h.rng⟩

/-- What DrawSealMsg draws. -/
def DsR (w : World) (e : Ending) (w' : World) : Prop :=
  ∃ (a1 : Option Addr) (n1 c1 : Nat) (xs : List Int) (v : Value) (x : Int), e = .returned (.tuple #[.slice a1 n1 c1, v, .int .i64 x]) ∧ n1 ≤ 4001 ∧ Row w' a1 n1 xs ∧ (a1 = none → c1 = 0) ∧ -1 ≤ x ∧ x ≤ 1000000007 ∧ Below w.heap.size w w'

set_option maxRecDepth 10000 in
set_option maxHeartbeats 4000000 in
theorem drawSealMsg_any (a : Option Addr) (n cap : Nat) (bs : List Int) (w : World) (h : Row w a n bs) (hn : n ≤ 1000000000) :
    Calls Try.prog 13 #[.slice a n cap] w (DsR w) := by
  obtain ⟨i0, hi, hz0, hz1, hz2⟩ := info_parts Try.infoPu
  have H : Hid (Row w a n bs) := h
  clear h
  go_enter Try.func13, Try.ntmps13
  go_wp2_with fail
  refine (open_any a n cap bs _ H.out hn).mono ?_
  rintro e w1 ⟨rfl, hr1, hb1⟩
  have hg : w.heap.size < w1.heap.size := hr1.lt
  have HB1 : Hid (Below w.heap.size w w1) := hb1
  obtain ⟨g, hgg⟩ : ∃ g, g = w.heap.size := ⟨_, rfl⟩
  have HG : Hid (g = w.heap.size) := hgg
  have hgl : g < w1.heap.size := by omega
  rw [← hgg] at hr1 ⊢
  clear hgg hb1
  go_wp2_with fail
  refine (drawContent_any g a n cap bs _ hr1).mono ?_
  rintro e w2 ⟨a3, k3, c3, xs, rfl, hk3, ho2, p2⟩
  have q2 := p2.2.size
  have hoe : OwnPu w2.heap.size (w2.alloc (.cells #[] 48)) (some ⟨w2.heap.size, 0, none⟩) 0 0 [] := ⟨World.ownsRow_lit w2 #[] 0 (Nat.le_refl _) (Nat.zero_le _) rfl, UPu.nil⟩
  have hpe : RdPost w2 g a n cap bs (w2.alloc (.cells #[] 48)) := RdPost.alloc ⟨p2.1, Touch.same _ _ _⟩ _
  have HC2 : Hid (Own w1.heap.size w2 a3 k3 c3 xs) := ho2
  have HP2 : Hid (RdPost w1 g a n cap bs w2) := p2
  have HOE : Hid (OwnPu w2.heap.size (w2.alloc (.cells #[] 48)) (some ⟨w2.heap.size, 0, none⟩) 0 0 []) := hoe
  have HPE : Hid (RdPost w2 g a n cap bs (w2.alloc (.cells #[] 48))) := hpe
  clear ho2 p2 hoe hpe hr1
  go_wp2_with fail
  refine (below_any g a n cap bs 3 _ HPE.out.1 (by decide)).mono ?_
  rintro e w3 ⟨v3, rfl, hv0, hv1, p3⟩
  obtain ⟨u0, rfl⟩ := Int.eq_ofNat_of_zero_le hv0
  have hu0 : u0 ≤ 2 := by omega
  have HO3 : Hid (OwnPu w2.heap.size w3 (some ⟨w2.heap.size, 0, none⟩) 0 0 []) := HOE.out.rd p3 (by omega)
  have HP3 : Hid (RdPost w2 g a n cap bs w3) := HPE.out.step p3
  have HU : Hid ((1 : Int) + (u0 : Int) = ((1 + u0 : Nat) : Int)) := by show _ = _; omega
  obtain ⟨u, hu⟩ : ∃ u, u = 1 + u0 := ⟨_, rfl⟩
  have hu3 : u ≤ 3 := by omega
  rw [← hu] at HU
  clear HOE HPE p3 hv0 hv1 hu hu0
  go_wp2
  have hw64 : wrap64 (u : Int) = (u : Int) := by have h3 : (u : Int) ≤ 3 := by omega
                                                 (first | (simp only [wrap64]; omega) | (unfold wrap64; omega) | (rw [wrap64_eq] <;> omega))
  rw [HU.out, hw64]
  clear hw64
  go_loopw [7, 9] (fun o i wr => ∃ (k c' : Nat) (a' : Option Addr) (ps : List (Int × Int × Int)), k ≤ u ∧ i = .int .i64 k ∧ o = .slice a' k c' ∧ Hid (OwnPu w2.heap.size wr a' k c' ps) ∧ Hid (RdPost w2 g a n cap bs wr) ∧ w2.heap.size ≤ wr.heap.size) (fun _ i _ => u - (intOf i).toNat)
  case atStart => exact ⟨0, 0, _, [], Nat.zero_le _, rfl, rfl, HO3.out, HP3.out, HP3.out.2.size⟩
  case round =>
    obtain ⟨k, c', a', ps, hk, rfl, rfl, HOR, HPR, hsr⟩ := hrel
    clear HO3 HP3
    by_cases hlt : k < u
    · have hlti : (k : Int) < (u : Int) := by omega
      go_wp2_with fail
      refine (below_any g a n cap bs 3 _ HPR.out.1 (by decide)).mono ?_
      rintro e w4 ⟨v4, rfl, hv0, hv1, p4⟩
      obtain ⟨u4, rfl⟩ := Int.eq_ofNat_of_zero_le hv0
      have hu4 : u4 ≤ 3 := by omega
      have HO4 : Hid (OwnPu w2.heap.size w4 a' k c' ps) := HOR.out.rd p4 (by omega)
      have HP4 : Hid (RdPost w2 g a n cap bs w4) := HPR.out.step p4
      have q4 := p4.2.size
      clear HOR HPR p4 hv0 hv1
      go_wp2_with fail
      refine (l9Key_any u4 _ hu4).mono ?_
      rintro e w5 ⟨⟨p0, p1, pp⟩, rfl, hpb, b5⟩
      have HO6 : Hid (OwnPu w2.heap.size (w5.alloc (.cells #[.int .i64 p0, .int .u64 p1, .int .i64 pp] 48)) a' k c' ps) := (HO4.out.kept b5).kept ((Below.refl _ _).alloc (Nat.le_refl _) _)
      have HP6 : Hid (RdPost w2 g a n cap bs (w5.alloc (.cells #[.int .i64 p0, .int .u64 p1, .int .i64 pp] 48))) := (HP4.out.of_below b5).alloc _
      have hcl := cell_onePu w5 (p0, p1, pp)
      have q5 := b5.size
      have hs6 : w2.heap.size ≤ (w5.alloc (.cells #[.int .i64 p0, .int .u64 p1, .int .i64 pp] 48)).heap.size := HP6.out.2.size
      clear b5
      go_wp2_with (first | (at_builtin; refine wpList_append_own _ rfl (.tmp 23) (.tmp 27) 36 rfl w2.heap.size 48 i0 _ 3 24 Try.underlying36 hi hz0 hz1 hz2 rfl (by decide) _ k _ rfl HO6.out.row ⟨w5.heap.size, 0, none⟩ 1 1 (flPu [(p0, p1, pp)]) rfl rfl hcl (flPu_one _) (by unfold maxLen; omega) (by omega) (by exact hs6) ?_; intro v7 w7 hv7 hg7 _))
      obtain ⟨a7, c7, rfl, ho7⟩ := ownPu_appended HO6.out.rng (UPu.one hpb) hv7
      have hT : Touch w2.heap.size (w5.alloc (.cells #[.int .i64 p0, .int .u64 p1, .int .i64 pp] 48)).heap.size (w5.alloc (.cells #[.int .i64 p0, .int .u64 p1, .int .i64 pp] 48)) w7 := touch_grownS hg7 (fun l hl => HO6.out.row.lt l hl)
      have hp7 : RdPost w2 g a n cap bs w7 := HP6.out.grown hT (by omega) (Nat.le_refl _)
      go_roundw
      case rel => exact ⟨k + 1, c7, a7, ps ++ [(p0, p1, pp)], by omega, by go_num, rfl, ho7, hp7, hp7.2.size⟩
      case measure => simp [intOf]; omega
    · have hnl : ¬ ((k : Int) < (u : Int)) := by omega
      have hk20 : k ≤ 20 := by omega
      clear hlt hk
      go_wp2_with fail
      refine (once_any g a n cap bs 12 _ HPR.out.1 (by decide) (by decide)).mono ?_
      rintro e w4 ⟨v4, rfl, p4⟩
      have HO4 : Hid (OwnPu w2.heap.size w4 a' k c' ps) := HOR.out.rd p4 (by omega)
      have HP4 : Hid (RdPost w2 g a n cap bs w4) := HPR.out.step p4
      have q4 := p4.2.size
      clear HOR HPR p4 hnl
      cases v4 with
      | false =>
        go_wp2_with fail
        refine (once_any g a n cap bs 15 _ HP4.out.1 (by decide) (by decide)).mono ?_
        rintro e w8 ⟨v8, rfl, p8⟩
        have HP8 : Hid (RdPost w2 g a n cap bs w8) := HP4.out.step p8
        clear HP4 p8
        cases v8 with
        | false =>
          go_wp2_with fail
          refine (drawExp_any g a n cap bs _ HP8.out.1).mono ?_
          rintro e w10 ⟨x, rfl, hx0, hx1, p10⟩
          have P10 := HP8.out.step p10
          have hfin : Below w.heap.size w w10 := RdPost.below HB1.out (by rw [← HG.out]; exact HP2.out.step P10)
          have HR : Hid (Own w1.heap.size w10 a3 k3 c3 xs) := HC2.out.rd P10 hgl
          have HF : Hid (Below w.heap.size w w10) := hfin
          clear P10 p10 hfin HP8
          go_wp2
          try simp only [Exit.inBlock, Exit.then]
          exact bodyPost_ret (results_three rfl _ _ _ _ rfl rfl rfl _) rfl ⟨a3, k3, c3, xs, _, x, rfl, hk3, HR.out.toRow, HR.out.nil, hx0, hx1, HF.out⟩
        | true =>
          have HP9 : Hid (RdPost w2 g a n cap bs (w8.alloc (.cells #[] 48))) := HP8.out.alloc _
          clear HP8
          go_wp2_with fail
          refine (drawExp_any g a n cap bs _ HP9.out.1).mono ?_
          rintro e w10 ⟨x, rfl, hx0, hx1, p10⟩
          have P10 := HP9.out.step p10
          have hfin : Below w.heap.size w w10 := RdPost.below HB1.out (by rw [← HG.out]; exact HP2.out.step P10)
          have HR : Hid (Own w1.heap.size w10 a3 k3 c3 xs) := HC2.out.rd P10 hgl
          have HF : Hid (Below w.heap.size w w10) := hfin
          clear P10 p10 hfin HP9
          go_wp2
          try simp only [Exit.inBlock, Exit.then]
          exact bodyPost_ret (results_three rfl _ _ _ _ rfl rfl rfl _) rfl ⟨a3, k3, c3, xs, _, x, rfl, hk3, HR.out.toRow, HR.out.nil, hx0, hx1, HF.out⟩
      | true =>
        go_wp2_with fail
        refine (l9Key_any 3 _ (by decide)).mono ?_
        rintro e w5 ⟨⟨p0, p1, pp⟩, rfl, hpb, b5⟩
        have HO6 : Hid (OwnPu w2.heap.size (w5.alloc (.cells #[.int .i64 p0, .int .u64 p1, .int .i64 pp] 48)) a' k c' ps) := (HO4.out.kept b5).kept ((Below.refl _ _).alloc (Nat.le_refl _) _)
        have HP6 : Hid (RdPost w2 g a n cap bs (w5.alloc (.cells #[.int .i64 p0, .int .u64 p1, .int .i64 pp] 48))) := (HP4.out.of_below b5).alloc _
        have hcl := cell_onePu w5 (p0, p1, pp)
        have q5 := b5.size
        have hs6 : w2.heap.size ≤ (w5.alloc (.cells #[.int .i64 p0, .int .u64 p1, .int .i64 pp] 48)).heap.size := HP6.out.2.size
        clear b5
        go_wp2_with (first | (at_builtin; refine wpList_append_own _ rfl (.tmp 31) (.tmp 33) 36 rfl w2.heap.size 48 i0 _ 3 24 Try.underlying36 hi hz0 hz1 hz2 rfl (by decide) _ k _ rfl HO6.out.row ⟨w5.heap.size, 0, none⟩ 1 1 (flPu [(p0, p1, pp)]) rfl rfl hcl (flPu_one _) (by unfold maxLen; omega) (by omega) (by exact hs6) ?_; intro v7 w7 hv7 hg7 _))
        obtain ⟨a7, c7, rfl, ho7⟩ := ownPu_appended HO6.out.rng (UPu.one hpb) hv7
        have hT : Touch w2.heap.size (w5.alloc (.cells #[.int .i64 p0, .int .u64 p1, .int .i64 pp] 48)).heap.size (w5.alloc (.cells #[.int .i64 p0, .int .u64 p1, .int .i64 pp] 48)) w7 := touch_grownS hg7 (fun l hl => HO6.out.row.lt l hl)
        have hp7 : RdPost w2 g a n cap bs w7 := HP6.out.grown hT (by omega) (Nat.le_refl _)
        have HPX : Hid (RdPost w2 g a n cap bs w7) := hp7
        clear hp7 ho7 HO4 HP4
        go_wp2_with fail
        refine (once_any g a n cap bs 15 _ HPX.out.1 (by decide) (by decide)).mono ?_
        rintro e w8 ⟨v8, rfl, p8⟩
        have HP8 : Hid (RdPost w2 g a n cap bs w8) := HPX.out.step p8
        clear HPX p8
        cases v8 with
        | false =>
          go_wp2_with fail
          refine (drawExp_any g a n cap bs _ HP8.out.1).mono ?_
          rintro e w10 ⟨x, rfl, hx0, hx1, p10⟩
          have P10 := HP8.out.step p10
          have hfin : Below w.heap.size w w10 := RdPost.below HB1.out (by rw [← HG.out]; exact HP2.out.step P10)
          have HR : Hid (Own w1.heap.size w10 a3 k3 c3 xs) := HC2.out.rd P10 hgl
          have HF : Hid (Below w.heap.size w w10) := hfin
          clear P10 p10 hfin HP8
          go_wp2
          try simp only [Exit.inBlock, Exit.then]
          exact bodyPost_ret (results_three rfl _ _ _ _ rfl rfl rfl _) rfl ⟨a3, k3, c3, xs, _, x, rfl, hk3, HR.out.toRow, HR.out.nil, hx0, hx1, HF.out⟩
        | true =>
          have HP9 : Hid (RdPost w2 g a n cap bs (w8.alloc (.cells #[] 48))) := HP8.out.alloc _
          clear HP8
          go_wp2_with fail
          refine (drawExp_any g a n cap bs _ HP9.out.1).mono ?_
          rintro e w10 ⟨x, rfl, hx0, hx1, p10⟩
          have P10 := HP9.out.step p10
          have hfin : Below w.heap.size w w10 := RdPost.below HB1.out (by rw [← HG.out]; exact HP2.out.step P10)
          have HR : Hid (Own w1.heap.size w10 a3 k3 c3 xs) := HC2.out.rd P10 hgl
          have HF : Hid (Below w.heap.size w w10) := hfin
          clear P10 p10 hfin HP9
          go_wp2
          try simp only [Exit.inBlock, Exit.then]
          exact bodyPost_ret (results_three rfl _ _ _ _ rfl rfl rfl _) rfl ⟨a3, k3, c3, xs, _, x, rfl, hk3, HR.out.toRow, HR.out.nil, hx0, hx1, HF.out⟩

end Go.Proofs.Ytcgmcdelgfemkaa
