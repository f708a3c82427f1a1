import Derived.Test.YtddopoadpbbpoaaTS4
namespace Go.Proofs.Ytddopoadpbbpoaa
open Go.RowKit

structure Bxs (K sB gB : Nat) (seed h next : Int) (t : SgV) (b1 : Option Addr) (d1 : Nat) (b2 : Option Addr) (d2 : Nat) (a1 : Option Addr) (c1 : Nat) (a2 : Option Addr) (c2 : Nat) (W : World) : Prop where
  k : W.heap[K]? = some (.cells #[.int .u64 seed, .int .i64 h, .int .i64 next] 24)
  s : W.heap[sB]? = some (.cells #[.int .i64 t.leaf, .slice b1 t.ez.length d1, .slice b2 t.pz.length d2] 28)
  sk : W.heap[sB + 1]? = some (.cells #[.int .u64 t.seed, .int .i64 t.h, .int .i64 t.next] 29)
  g : W.heap[gB]? = some (.cells #[.int .i64 t.leaf, .slice a1 t.ez.length c1, .slice a2 t.pz.length c2] 28)
  gk : W.heap[gB + 1]? = some (.cells #[.int .u64 t.seed, .int .i64 t.h, .int .i64 t.next] 29)
theorem Bxs.touch {K sB gB : Nat} {seed h next : Int} {t : SgV} {b1 : Option Addr} {d1 : Nat} {b2 : Option Addr} {d2 : Nat} {a1 : Option Addr} {c1 : Nat} {a2 : Option Addr} {c2 : Nat} {W W' : World} {lo hi : Nat} (b : Bxs K sB gB seed h next t b1 d1 b2 d2 a1 c1 a2 c2 W) (ht : Touch lo hi W W') (h1 : K < lo ∨ hi ≤ K) (h2 : sB + 1 < lo ∨ hi ≤ sB) (h3 : gB + 1 < lo ∨ hi ≤ gB) : Bxs K sB gB seed h next t b1 d1 b2 d2 a1 c1 a2 c2 W' :=
  ⟨(ht.block _ (Array.getElem?_eq_some_iff.1 b.k).1 h1).trans b.k, (ht.block _ (Array.getElem?_eq_some_iff.1 b.s).1 (by omega)).trans b.s, (ht.block _ (Array.getElem?_eq_some_iff.1 b.sk).1 (by omega)).trans b.sk, (ht.block _ (Array.getElem?_eq_some_iff.1 b.g).1 (by omega)).trans b.g, (ht.block _ (Array.getElem?_eq_some_iff.1 b.gk).1 (by omega)).trans b.gk⟩
theorem Bxs.kept {K sB gB : Nat} {seed h next : Int} {t : SgV} {b1 : Option Addr} {d1 : Nat} {b2 : Option Addr} {d2 : Nat} {a1 : Option Addr} {c1 : Nat} {a2 : Option Addr} {c2 : Nat} {W W' : World} (b : Bxs K sB gB seed h next t b1 d1 b2 d2 a1 c1 a2 c2 W) (hb : Below W.heap.size W W') : Bxs K sB gB seed h next t b1 d1 b2 d2 a1 c1 a2 c2 W' :=
  ⟨(hb.block _ (Array.getElem?_eq_some_iff.1 b.k).1).trans b.k, (hb.block _ (Array.getElem?_eq_some_iff.1 b.s).1).trans b.s, (hb.block _ (Array.getElem?_eq_some_iff.1 b.sk).1).trans b.sk, (hb.block _ (Array.getElem?_eq_some_iff.1 b.g).1).trans b.g, (hb.block _ (Array.getElem?_eq_some_iff.1 b.gk).1).trans b.gk⟩
theorem OwnU.touchH {B lo hi : Nat} {w w' : World} {a : Option Addr} {n cap : Nat} {zs : List Int} (h : OwnU B w a n cap zs) (hB : hi ≤ B) (ht : Touch lo hi w w') : OwnU B w' a n cap zs := by
  refine ⟨⟨h.row.1, ?_⟩, h.rng⟩
  rcases h.row.2 with h | ⟨g', cap', cur, hv, hb, hh, r⟩
  · exact .inl h
  · exact .inr ⟨g', cap', cur, hv, hb, (ht.block g' (Array.getElem?_eq_some_iff.1 hh).1 (by omega)).trans hh, r⟩
theorem cells3 {W : World} {g : Nat} {x y z : Value} {t : TypeId} (h : W.heap[g]? = some (.cells #[x, y, z] t (0, 0))) : W.cell? ⟨g, 0, none⟩ = some x ∧ W.cell? ⟨g, 1, none⟩ = some y ∧ W.cell? ⟨g, 2, none⟩ = some z :=
  ⟨(cell_of_row _ _ 0 _ t (0, 0) h).trans rfl, (cell_of_row _ _ 1 _ t (0, 0) h).trans rfl, (cell_of_row _ _ 2 _ t (0, 0) h).trans rfl⟩

set_option maxRecDepth 10000 in
set_option maxHeartbeats 16000000 in
theorem lawTreeSign_walk (HSPEC : ∀ (seed h next : Int) (am : Option Addr) (n c : Nat) (bs : List Int) (w : World), U64 seed → Row w am n bs → n ≤ 1000000000000 → Calls Try.prog 8 #[tkv seed h next, .slice am n c] w fun e w' => ∃ v, e = .returned v ∧ SgR seed h next bs w.heap.size w' v ∧ Below w.heap.size w w')
    (seed h next : Int) (a : Option Addr) (n c : Nat) (bs : List Int) (w : World) (hx : U64 seed) (hr : Row w a n bs) (hmax : n ≤ 9223372036854775807) :
    Calls Try.prog 3 #[tkv seed h next, .slice a n c] w fun e w' => e = .returned (.bool true) ∧ Below w.heap.size w w' := by
  obtain ⟨wb, hwb⟩ : ∃ wb, wb = w.alloc (.cells #[.int .u64 seed, .int .i64 h, .int .i64 next] 24) := ⟨_, rfl⟩
  have hbb : Below w.heap.size w wb := by rw [hwb]; exact (Below.refl _ _).alloc (Nat.le_refl _) _
  have hK : wb.heap[w.heap.size]? = some (.cells #[.int .u64 seed, .int .i64 h, .int .i64 next] 24) := by rw [hwb]; exact heap_alloc_new w _
  have HW : Hid (_ = _) := hwb
  have H0 : Hid (Row w a n bs) := hr
  clear hwb hr
  rw [tkv]
  by_cases hbig : 1048576 < n
  · go_enter Try.func3, Try.ntmps3
    go_upto_region 1 with fail
    rw [← HW.out]
    clear HW
    go_wp2
    go_ret
    exact ⟨rfl, hbb⟩
  have hn : n ≤ 1048576 := by omega
  clear hmax
  obtain ⟨q0, q1, q2⟩ := cells3 hK
  go_enter Try.func3, Try.ntmps3
  go_upto_region 1 with fail
  rw [← HW.out]
  clear HW
  go_wp2_with fail
  refine (toTreeKey_any seed h next _).mono ?_
  rintro e w2 ⟨rfl, hb2⟩
  clear q0 q1 q2
  go_wp2_with fail
  refine (toByteS_any a n c bs _ (H0.out.kept (keepT hbb hb2)) hn).mono ?_
  rintro e w3 ⟨a3, rfl, ho3, hb3⟩
  go_wp2_with fail
  refine (HSPEC seed h next a3 n n bs _ hx ho3.toRow (by omega)).mono ?_
  rintro e w4 ⟨v, rfl, hs4, hb4⟩
  obtain ⟨b1, d1, b2, d2, M1, hX⟩ := sgX_of hb4.size hs4
  obtain ⟨t, ht⟩ : ∃ t, t = sgV seed h next bs := ⟨_, rfl⟩
  have HT : Hid (sgV seed h next bs = t) := ht.symm
  have hlen := sgV_len seed h next bs
  rw [← ht] at hX hlen
  obtain ⟨hl1, hl2⟩ := hlen
  rw [hX.val]
  have hR1 := hX.o1.toRow
  have hR2 := hX.o2.toRow
  clear ht hs4 hX ho3
  obtain ⟨w5, hw5⟩ : ∃ w5, w5 = (w4.alloc (.cells #[.int .i64 t.leaf, .slice b1 t.ez.length d1, .slice b2 t.pz.length d2] 28)).alloc (.cells #[.int .u64 t.seed, .int .i64 t.h, .int .i64 t.next] 29) := ⟨_, rfl⟩
  have hb45 : Below w4.heap.size w4 w5 := by rw [hw5]; exact ((Below.refl _ _).alloc (Nat.le_refl _) _).alloc (by simp) _
  have hS5 : w5.heap[w4.heap.size]? = some (.cells #[.int .i64 t.leaf, .slice b1 t.ez.length d1, .slice b2 t.pz.length d2] 28) := by rw [hw5]; exact heap_alloc2_old w4 _ _
  have hSK5 : w5.heap[w4.heap.size + 1]? = some (.cells #[.int .u64 t.seed, .int .i64 t.h, .int .i64 t.next] 29) := by rw [hw5]; exact heap_alloc2_new w4 _ _
  have hbK5 : Below wb.heap.size wb w5 := keepT hb2 (keepT hb3 (keepT hb4 hb45))
  have HW5 : Hid (_ = _) := hw5
  have HR15 : Hid (RowU w5 b1 t.ez.length t.ez) := hR1.kept hb45
  have HR25 : Hid (RowU w5 b2 t.pz.length t.pz) := hR2.kept hb45
  have hK5 := (hbK5.block _ (Array.getElem?_eq_some_iff.1 hK).1).trans hK
  have hw4s : wb.heap.size ≤ w4.heap.size := (keepT hb2 (keepT hb3 hb4)).size
  have hw5s : w4.heap.size + 1 < w5.heap.size := (Array.getElem?_eq_some_iff.1 hSK5).1
  have hKl : w.heap.size < wb.heap.size := (Array.getElem?_eq_some_iff.1 hK).1
  clear hw5 hR1 hR2 hb2 hb3 hb4 hb45
  rw [tsv, tkv]
  go_upto_region 4 with fail
  rw [← HW5.out]
  clear HW5
  have hbw5 := keepT hbb hbK5
  go_wp2_with fail
  refine (toByteS_any a n c bs _ (H0.out.kept hbw5) hn).mono ?_
  rintro e w6 ⟨a6, rfl, ho6, hb6⟩
  have hK6 := (hb6.block _ (Array.getElem?_eq_some_iff.1 hK5).1).trans hK5
  obtain ⟨q0, q1, q2⟩ := cells3 hK6
  go_wp2_with fail
  refine (toTreeKey_any seed h next _).mono ?_
  rintro e w7 ⟨rfl, hb7⟩
  clear q0 q1 q2
  have ho7 := ho6.kept hb7
  go_wp2_with fail
  refine (implTreeSign_any seed h next a6 n n bs _ hx ho7.toRow (by omega)).mono ?_
  rintro e w8 ⟨v, rfl, hs8, hb8⟩
  obtain ⟨a1, c1, a2, c2, M, hX⟩ := sgX_of hb8.size hs8
  rw [HT.out] at hX
  rw [hX.val]
  obtain ⟨w9, hw9⟩ : ∃ w9, w9 = (w8.alloc (.cells #[.int .i64 t.leaf, .slice a1 t.ez.length c1, .slice a2 t.pz.length c2] 28)).alloc (.cells #[.int .u64 t.seed, .int .i64 t.h, .int .i64 t.next] 29) := ⟨_, rfl⟩
  have hb89 : Below w8.heap.size w8 w9 := by rw [hw9]; exact ((Below.refl _ _).alloc (Nat.le_refl _) _).alloc (by simp) _
  have hb59 : Below w5.heap.size w5 w9 := keepT hb6 (keepT hb7 (keepT hb8 hb89))
  have hBX9 : Bxs w.heap.size w4.heap.size w8.heap.size seed h next t b1 d1 b2 d2 a1 c1 a2 c2 w9 :=
    ⟨(hb59.block _ (Array.getElem?_eq_some_iff.1 hK5).1).trans hK5, (hb59.block _ (Array.getElem?_eq_some_iff.1 hS5).1).trans hS5, (hb59.block _ (Array.getElem?_eq_some_iff.1 hSK5).1).trans hSK5, by rw [hw9]; exact heap_alloc2_old w8 _ _, by rw [hw9]; exact heap_alloc2_new w8 _ _⟩
  have HW9 : Hid (_ = _) := hw9
  have hX1 := hX.o1.kept hb89
  have hX2 := hX.o2.kept hb89
  have hT1 : ∀ g, (Value.slice a1 t.ez.length c1).ownBlock = some g → g < w8.heap.size := fun g hg => (hX.o1.row.lt g hg).2
  have hT2 : ∀ g, (Value.slice a2 t.pz.length c2).ownBlock = some g → g < w8.heap.size := fun g hg => (hX.o2.row.lt g hg).2
  have hlt := hX.lt
  have hle := hX.le
  have hle2 := hX.le2
  have ho9 : Own w5.heap.size w9 a6 n n bs := ho7.kept (keepT hb8 hb89)
  have HR19 : Hid (RowU w9 b1 t.ez.length t.ez) := HR15.out.kept hb59
  have HR29 : Hid (RowU w9 b2 t.pz.length t.pz) := HR25.out.kept hb59
  have hs56 := hb6.size
  have hs67 := hb7.size
  have hs78 := hb8.size
  have hs89 : w8.heap.size ≤ w9.heap.size := hb89.size
  have hbw9 := keepT hbw5 hb59
  have hown6 : ∀ g, (Value.slice a6 n n).ownBlock = some g → w5.heap.size ≤ g ∧ g < w6.heap.size := fun g hg => ho6.row.lt g hg
  have HR15' : Hid (RowU w5 b1 t.ez.length t.ez) := HR15
  have HR25' : Hid (RowU w5 b2 t.pz.length t.pz) := HR25
  have HBX9 : Hid (Bxs w.heap.size w4.heap.size w8.heap.size seed h next t b1 d1 b2 d2 a1 c1 a2 c2 w9) := hBX9
  clear hw9 hs8 hX ho6 ho7 hK6 hK5 hS5 hSK5 HR15 HR25 hb6 hb7 hb8 hb89
  rw [tsv, tkv]
  go_upto_region 6 with fail
  rw [← HW9.out]
  clear HW9
  have zc : (t.code != t.code) = false := by simp
  obtain ⟨g0, g1, g2⟩ := cells3 hBX9.g
  obtain ⟨s0, s1, s2⟩ := cells3 hBX9.s
  clear hBX9
  go_wp2_with fail
  refine (eqTreeSig_same t.leaf a1 t.ez.length c1 a2 t.pz.length c2 b1 d1 b2 d2 t.ez t.pz _ hX1.toRow hX2.toRow HR19.out HR29.out (by omega) (by omega)).mono ?_
  rintro e w10 ⟨rfl, hb10⟩
  clear g0 g1 g2 s0 s1 s2
  have hBX10 := HBX9.out.kept hb10
  obtain ⟨g0, g1, g2⟩ := cells3 hBX10.gk
  obtain ⟨s0, s1, s2⟩ := cells3 hBX10.sk
  go_wp2_with fail
  refine (eqTreeKey_same t.seed t.h t.next _).mono ?_
  rintro e w11 ⟨rfl, hb11⟩
  clear g0 g1 g2 s0 s1 s2 hBX10
  have hb911 := keepT hb10 hb11
  go_wp2_with fail
  refine (toByteS_any a n c bs _ (H0.out.kept (keepT hbw9 hb911)) hn).mono ?_
  rintro e w12 ⟨a12, rfl, ho12, hb12⟩
  have hb912 := keepT hb911 hb12
  go_wp2_with fail
  refine (eqByteS_any a6 a12 n n n n bs bs _ (ho9.kept hb912).toRow ho12.toRow (by unfold maxLen; omega) (by unfold maxLen; omega)).mono ?_
  rintro e w13 ⟨rfl, hb13⟩
  rw [decide_eq_true (rfl : bs = bs)]
  have hb913 := keepT hb912 hb13
  have ho13 := ho9.kept hb913
  have hB513 : Below w5.heap.size w5 w13 := keepT hb59 hb913
  have HX113 : Hid (OwnU w7.heap.size w13 a1 t.ez.length c1 t.ez) := hX1.kept hb913
  have HX213 : Hid (OwnU M w13 a2 t.pz.length c2 t.pz) := hX2.kept hb913
  have HBX13 : Hid (Bxs w.heap.size w4.heap.size w8.heap.size seed h next t b1 d1 b2 d2 a1 c1 a2 c2 w13) := HBX9.out.kept hb913
  have hbw13 := keepT hbw9 hb913
  clear hb10 hb11 hb911 hb12 hb912 hb13 ho12 hX1 hX2 ho9
  go_wp2_with fail
  refine (markByteS_int w5.heap.size a6 n n 1 bs _ ho13 (by omega) (by decide) (by decide)).mono ?_
  rintro e w14 ⟨rfl, _, hg14⟩
  have ht14 : Touch w5.heap.size w6.heap.size w13 w14 := ⟨hg14.os, hg14.tape, hg14.output, hg14.size, fun k hk ho => hg14.block k hk (fun e => by have := hown6 k e.symm; omega)⟩
  have hB514 : Below w5.heap.size w5 w14 := hB513.trans (ht14.below (Nat.le_refl _) hB513.size)
  have hbw14 : Below w.heap.size w w14 := hbw13.trans (ht14.below hbw5.size hbw13.size)
  have hX114 : OwnU w7.heap.size w14 a1 t.ez.length c1 t.ez := HX113.out.touchH (by omega) ht14
  have hX214 : OwnU M w14 a2 t.pz.length c2 t.pz := HX213.out.touchH (by omega) ht14
  have hBX14 : Bxs w.heap.size w4.heap.size w8.heap.size seed h next t b1 d1 b2 d2 a1 c1 a2 c2 w14 := HBX13.out.touch ht14 (by omega) (by omega) (by omega)
  have HBX14 : Hid (Bxs w.heap.size w4.heap.size w8.heap.size seed h next t b1 d1 b2 d2 a1 c1 a2 c2 w14) := hBX14
  have hs14 : w9.heap.size ≤ w14.heap.size := Nat.le_trans hb913.size ht14.size
  clear hg14 ho13 HX113 HX213 HBX13 ht14
  obtain ⟨g0, g1, g2⟩ := cells3 hBX14.g
  obtain ⟨s0, s1, s2⟩ := cells3 hBX14.s
  clear hBX14
  go_wp2_with fail
  refine (eqTreeSig_same t.leaf a1 t.ez.length c1 a2 t.pz.length c2 b1 d1 b2 d2 t.ez t.pz _ hX114.toRow hX214.toRow (HR15'.out.kept hB514) (HR25'.out.kept hB514) (by omega) (by omega)).mono ?_
  rintro e w15 ⟨rfl, hb15⟩
  clear g0 g1 g2 s0 s1 s2
  have hBX15 := HBX14.out.kept hb15
  obtain ⟨g0, g1, g2⟩ := cells3 hBX15.gk
  obtain ⟨s0, s1, s2⟩ := cells3 hBX15.sk
  go_wp2_with fail
  refine (eqTreeKey_same t.seed t.h t.next _).mono ?_
  rintro e w16 ⟨rfl, hb16⟩
  clear g0 g1 g2 s0 s1 s2 hBX15
  have hb1416 := keepT hb15 hb16
  have hBX16 := HBX14.out.kept hb1416
  have hX116 := hX114.kept hb1416
  have hX216 := hX214.kept hb1416
  obtain ⟨g0, g1, g2⟩ := cells3 hBX16.g
  go_wp2_with fail
  refine (markTreeSig_any w7.heap.size M t.leaf a1 t.ez.length c1 a2 t.pz.length c2 t.ez t.pz _ hX116 hlt hX216 hle (by have := hb1416.size; omega) (by omega) (by omega) w8.heap.size hT1 hT2).mono ?_
  rintro e w17 ⟨rfl, hm1, hm2, ht17⟩
  obtain ⟨m0, hm0⟩ : ∃ m0, m0 = 1 + t.ez.length + t.pz.length := ⟨_, rfl⟩
  have HM0 : Hid (1 + t.ez.length + t.pz.length = m0) := hm0.symm
  rw [← hm0]
  clear hm0 g0 g1 g2
  have zm : ((m0 : Int) != (m0 : Int)) = false := by simp
  have hB517 : Below w5.heap.size w5 w17 := (keepT hB514 hb1416).trans (ht17.below (by omega) (keepT hB514 hb1416).size)
  have hbw17 : Below w.heap.size w w17 := (keepT hbw14 hb1416).trans (ht17.below (by have := hbw5.size; omega) (keepT hbw14 hb1416).size)
  have HBX17 : Hid (Bxs w.heap.size w4.heap.size w8.heap.size seed h next t b1 d1 b2 d2 a1 c1 a2 c2 w17) := hBX16.touch ht17 (by omega) (by omega) (by omega)
  have HM1 : Hid (OwnU w7.heap.size w17 a1 t.ez.length c1 (marksU 1 t.ez.length)) := hm1
  have HM2 : Hid (OwnU M w17 a2 t.pz.length c2 (marksU (1 + t.ez.length) t.pz.length)) := hm2
  clear hX116 hX216 hX114 hX214 hBX16 hm1 hm2 ht17 hb15 hb16 hb1416
  obtain ⟨g0, g1, g2⟩ := cells3 HBX17.out.g
  go_wp2_with fail
  refine (heldTreeSig_any t.leaf a1 t.ez.length c1 a2 t.pz.length c2 _ HM1.out.toRow HM2.out.toRow (by omega) (by omega)).mono ?_
  rintro e w18 ⟨rfl, hb18⟩
  rw [HM0.out]
  clear g0 g1 g2
  obtain ⟨q0, q1, q2⟩ := cells3 (HBX17.out.kept hb18).k
  go_wp2_with fail
  refine (toTreeKey_any seed h next _).mono ?_
  rintro e w19 ⟨rfl, hb19⟩
  clear q0 q1 q2
  have hb1719 := keepT hb18 hb19
  go_wp2_with fail
  refine (toByteS_any a n c bs _ (H0.out.kept (keepT hbw17 hb1719)) hn).mono ?_
  rintro e w20 ⟨a20, rfl, ho20, hb20⟩
  have hb1720 := keepT hb1719 hb20
  go_wp2_with fail
  refine (implTreeSign_any seed h next a20 n n bs _ hx ho20.toRow (by omega)).mono ?_
  rintro e w21 ⟨v, rfl, hs21, hb21⟩
  obtain ⟨e1, f1, e2, f2, M3, hX3⟩ := sgX_of hb21.size hs21
  rw [HT.out] at hX3
  rw [hX3.val]
  have hb1721 := keepT hb1720 hb21
  obtain ⟨w22, hw22⟩ : ∃ w22, w22 = (w21.alloc (.cells #[.int .i64 t.leaf, .slice e1 t.ez.length f1, .slice e2 t.pz.length f2] 28)).alloc (.cells #[.int .u64 t.seed, .int .i64 t.h, .int .i64 t.next] 29) := ⟨_, rfl⟩
  have hb2122 : Below w21.heap.size w21 w22 := by rw [hw22]; exact ((Below.refl _ _).alloc (Nat.le_refl _) _).alloc (by simp) _
  have hS22 : w22.heap[w21.heap.size]? = some (.cells #[.int .i64 t.leaf, .slice e1 t.ez.length f1, .slice e2 t.pz.length f2] 28) := by rw [hw22]; exact heap_alloc2_old w21 _ _
  have hK22 : w22.heap[w21.heap.size + 1]? = some (.cells #[.int .u64 t.seed, .int .i64 t.h, .int .i64 t.next] 29) := by rw [hw22]; exact heap_alloc2_new w21 _ _
  have HW22 : Hid (_ = _) := hw22
  have hb1722 := keepT hb1721 hb2122
  have HBX22 : Hid (Bxs w.heap.size w4.heap.size w8.heap.size seed h next t b1 d1 b2 d2 a1 c1 a2 c2 w22) := HBX17.out.kept hb1722
  have HE1 : Hid (RowU w22 e1 t.ez.length t.ez) := hX3.o1.toRow.kept hb2122
  have HE2 : Hid (RowU w22 e2 t.pz.length t.pz) := hX3.o2.toRow.kept hb2122
  have hB522 := keepT hB517 hb1722
  have HK22 : Hid (w22.heap[w21.heap.size + 1]? = some (.cells #[.int .u64 t.seed, .int .i64 t.h, .int .i64 t.next] 29)) := hK22
  obtain ⟨g0, g1, g2⟩ := cells3 hS22
  obtain ⟨s0, s1, s2⟩ := cells3 HBX22.out.s
  clear hw22 hs21 hX3 ho20 hb18 hb19 hb1719 hb20 hb1720 hb21 hb1721 hb2122 hS22 hK22
  rw [tsv, tkv]
  go_upto_region 23 with fail
  rw [← HW22.out]
  clear HW22
  go_wp2_with fail
  refine (eqTreeSig_same t.leaf e1 t.ez.length f1 e2 t.pz.length f2 b1 d1 b2 d2 t.ez t.pz _ HE1.out HE2.out (HR15'.out.kept hB522) (HR25'.out.kept hB522) (by omega) (by omega)).mono ?_
  rintro e w23 ⟨rfl, hb23⟩
  clear g0 g1 g2 s0 s1 s2
  obtain ⟨g0, g1, g2⟩ := cells3 ((hb23.block _ (Array.getElem?_eq_some_iff.1 HK22.out).1).trans HK22.out)
  obtain ⟨s0, s1, s2⟩ := cells3 (HBX22.out.kept hb23).sk
  go_wp2_with fail
  refine (eqTreeKey_same t.seed t.h t.next _).mono ?_
  rintro e w24 ⟨rfl, hb24⟩
  clear g0 g1 g2 s0 s1 s2
  have hb2224 := keepT hb23 hb24
  have hb1724 := keepT hb1722 hb2224
  obtain ⟨g0, g1, g2⟩ := cells3 (HBX22.out.kept hb2224).g
  go_wp2_with fail
  refine (heldTreeSig_any t.leaf a1 t.ez.length c1 a2 t.pz.length c2 _ (HM1.out.kept hb1724).toRow (HM2.out.kept hb1724).toRow (by omega) (by omega)).mono ?_
  rintro e w25 ⟨rfl, hb25⟩
  rw [HM0.out]
  go_wp2
  go_ret
  exact ⟨rfl, keepT (keepT hbw17 hb1724) hb25⟩

end Go.Proofs.Ytddopoadpbbpoaa
