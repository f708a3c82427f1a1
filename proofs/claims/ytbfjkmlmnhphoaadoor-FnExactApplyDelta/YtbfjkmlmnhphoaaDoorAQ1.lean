import Derived.Test.YtbfjkmlmnhphoaaDoorGK6MD2
import Derived.Test.YtbfjkmlmnhphoaaDoorGMDCWI64
import Derived.Laws.Tables
import Derived.Laws.Rows
import Derived.Great.BuildSlice
import Derived.Great.Walk
import Derived.Deep.Cut
namespace Go.Proofs.YtbfjkmlmnhphoaaDoor
open Go.RowKit

/-- What holds, whatever is done to the blocks below B. -/
def Keeps (B : Nat) (W : World) (Q : World → Prop) : Prop := ∃ R : World → Prop, Stab B R ∧ R W ∧ ∀ W', R W' → Q W'
theorem Keeps.now {B : Nat} {W : World} {Q : World → Prop} (h : Keeps B W Q) : Q W := by
  obtain ⟨R, _, hr, hq⟩ := h
  exact hq _ hr
theorem Keeps.mono {B B' : Nat} {W : World} {Q : World → Prop} (h : Keeps B' W Q) (hB : B ≤ B') : Keeps B W Q := by
  obtain ⟨R, hs, hr, hq⟩ := h
  exact ⟨R, fun W W' e s r => hs W W' (fun l hl => e l (by omega)) s r, hr, hq⟩
theorem stab_keeps (B : Nat) (Q : World → Prop) : Stab B (fun W => Keeps B W Q) := fun W W' e s h => by
  obtain ⟨R, hs, hr, hq⟩ := h
  exact ⟨R, hs, hs W W' e s hr, hq⟩
theorem keeps_of {B : Nat} {W : World} {Q : World → Prop} (hs : Stab B Q) (h : Q W) : Keeps B W Q := ⟨Q, hs, h, fun _ h => h⟩
theorem Keeps.map {B : Nat} {W : World} {Q P : World → Prop} (h : Keeps B W Q) (f : ∀ W, Q W → P W) : Keeps B W P := by
  obtain ⟨R, hs, hr, hq⟩ := h
  exact ⟨R, hs, hr, fun W h => f W (hq W h)⟩
theorem stab_owns {B t m n : Nat} {v : Value} {vs : List Value} : Stab B (fun W => W.ownsRow B t m v n vs) := fun W W' e s h => by
  refine ⟨h.1, ?_⟩
  rcases h.2 with q | ⟨g, c, cur, h1, hb, hg, r⟩
  · exact .inl q
  · exact .inr ⟨g, c, cur, h1, hb, (e g (by omega) (Array.getElem?_eq_some_iff.1 hg).1).trans hg, r⟩
theorem stab_64 {lo hi : Nat} {a : Option Addr} {n cap : Nat} {zs : List Int} : Stab lo (fun W => Own64 lo hi W a n cap zs) := fun W W' e s h => ⟨stab_owns W W' e s h.row, h.lt⟩

theorem infoSizeCrl : (Tryd.prog.info? 36).map (·.size) = some 9 := by kernel_rfl

theorem below_dq {B : Nat} {w w' : World} (h : Below B w w') (n : Nat) : Below B w (w'.drewN n) := by
  induction n with
  | zero => simpa [World.drewN] using h
  | succ n ih => exact ih.drew

/-- The slice at a reads as the digests zs. -/
structure RowV (w : World) (a : Option Addr) (n : Nat) (zs : List Int) : Prop where
  len : zs.length = n
  get : ∀ k, k < n → ∃ b off, a = some ⟨b, off, none⟩ ∧ b < w.heap.size ∧ w.cell? ⟨b, off + k, none⟩ = some (.int .u64 (zs.getD k 0))
theorem RowV.kept {w w' : World} {a : Option Addr} {n : Nat} {zs : List Int} (h : RowV w a n zs) (hb : Below w.heap.size w w') : RowV w' a n zs := by
  refine ⟨h.len, fun k hk => ?_⟩
  obtain ⟨b, off, ha, hlt, hc⟩ := h.get k hk
  exact ⟨b, off, ha, Nat.lt_of_lt_of_le hlt hb.size, (hb.cell (p := ⟨b, off + k, none⟩) hlt).trans hc⟩
theorem owns_rowV {B g n cap : Nat} {w : World} {zs : List Int} (h : w.ownsRow B 128 1 (.slice (some ⟨g, 0, none⟩) n cap) n (zs.map (Value.int .u64))) : RowV w (some ⟨g, 0, none⟩) n zs := by
  have hl : zs.length = n := by simpa using h.1
  refine ⟨hl, fun k hk => ⟨g, 0, rfl, (h.lt _ rfl).2, ?_⟩⟩
  rw [Nat.zero_add, World.ownsRow.cellAt h k (by omega)]
  simp [show k < zs.length by omega]
theorem Tryd.infoV : (Tryd.prog.info? 128).map (fun i => (i.zero, i.size, i.bytes)) = some (some (.int .u64 0), 1, 8) := by kernel_rfl
theorem madeV {B n : Nat} {w : World} {v : Value} (h : w.ownsRow B 128 1 v n (madeCells (Value.int .u64 0).cells (n * 1)).toList) : w.ownsRow B 128 1 v n ((List.replicate n (0 : Int)).map (Value.int .u64)) := by
  have e : (madeCells (Value.int .u64 0).cells (n * 1)).toList = (List.replicate n (0 : Int)).map (Value.int .u64) := by
    rw [List.map_replicate, Nat.mul_one]; exact toList_madeCells_one _ _
  rwa [e] at h

set_option maxRecDepth 10000 in
set_option maxHeartbeats 4000000 in
theorem toCrl_k (a1 : Option Addr) (n1 c1 : Nat) (a2 : Option Addr) (n2 c2 : Nat) (a3 : Option Addr) (n3 c3 : Nat) (x : CP) (w : World) (h : Crs w a1 n1 a2 n2 a3 n3 x) (hz : CpOk n1 n2 n3 x) :
    Calls Tryd.prog 9 #[crv a1 n1 c1 a2 n2 c2 a3 n3 c3 x] w fun e w' => ∃ b1 b2 b3, e = .returned (crv b1 n1 n1 b2 n2 n2 b3 n3 n3 x) ∧ Keeps w.heap.size w' (fun W => Crs W b1 n1 b2 n2 b3 n3 x) ∧ Below w.heap.size w w' := by
  have HK : Hid (Crs w a1 n1 a2 n2 a3 n3 x) := h
  have HZ : Hid (CpOk n1 n2 n3 x) := hz
  clear h hz
  unfold crv
  obtain ⟨W0, hW0⟩ : ∃ W0, W0 = (((w.alloc (.cells #[.slice a1 n1 c1, .int .i64 x.num, .int .i64 x.base, .int .i64 x.tm, .int .i64 x.next, .int .i64 x.scope, .bool x.ind, .slice a2 n2 c2, .slice a3 n3 c3] 28)).alloc (.cells #[.slice none 0 0, .int .i64 0, .int .i64 0, .int .i64 0, .int .i64 0, .int .i64 0, .bool false, .slice none 0 0, .slice none 0 0] 36)).alloc (.cells #[.slice none 0 0, .int .i64 0, .int .i64 0, .int .i64 0, .int .i64 0, .int .i64 0, .bool false, .slice none 0 0, .slice none 0 0] 36)) := ⟨_, rfl⟩
  have hB0 : Below w.heap.size w W0 := by rw [hW0]; exact three_below _ _ _ _
  have hS0 : W0.heap.size = w.heap.size + 3 := by rw [hW0]; simp
  obtain ⟨b0, b1, b2⟩ := three_blocks' w (.cells #[.slice a1 n1 c1, .int .i64 x.num, .int .i64 x.base, .int .i64 x.tm, .int .i64 x.next, .int .i64 x.scope, .bool x.ind, .slice a2 n2 c2, .slice a3 n3 c3] 28) (.cells #[.slice none 0 0, .int .i64 0, .int .i64 0, .int .i64 0, .int .i64 0, .int .i64 0, .bool false, .slice none 0 0, .slice none 0 0] 36) (.cells #[.slice none 0 0, .int .i64 0, .int .i64 0, .int .i64 0, .int .i64 0, .int .i64 0, .bool false, .slice none 0 0, .slice none 0 0] 36)
  rw [← hW0] at b0 b1 b2
  go_enter Tryd.func9, Tryd.ntmps9
  go_wp2_with fail
  rw [← hW0]
  clear hW0
  refine (toName_at a1 n1 c1 x.parts _ (HK.out.kept hB0).nm HZ.out.1).mono ?_
  rintro e w1 ⟨g1, rfl, hg1, ho1, hb1⟩
  have hs1 := hb1.size
  have T1 : Hid (TC w w1 a1 n1 c1 a2 n2 c2 a3 n3 c3 x (fun W => Pts W (some ⟨g1, 0, none⟩) n1 x.parts) #[.slice none 0 0, .int .i64 0, .int .i64 0, .int .i64 0, .int .i64 0, .int .i64 0, .bool false, .slice none 0 0, .slice none 0 0]) := ⟨heap_kept' hb1 (by omega) b0, heap_kept' hb1 (by omega) b1, heap_kept' hb1 (by omega) b2, stab_pts (by omega), ho1, hB0.trans (hb1.mono (by omega)), by omega⟩
  clear b0 b1 b2 ho1 hb1 hB0 hg1 hs1 hS0
  unfold nmv
  obtain ⟨o0, f0, l0⟩ := T1.out.out 0
  have o0 : w1.cell? ⟨w.heap.size + 1 + 1, 0, none⟩ = some (.slice none 0 0) := o0
  have l0 : w1.cell? ⟨w.heap.size, 0, none⟩ = some (.slice a1 n1 c1) := l0
  have m0 := T1.out.lt
  obtain ⟨w2, hw2⟩ : ∃ W, W = w1.setCell ⟨w.heap.size + 1 + 1, 0, none⟩ (.slice (some ⟨g1, 0, none⟩) n1 n1) := ⟨_, rfl⟩
  have T2 : Hid (TC w w2 a1 n1 c1 a2 n2 c2 a3 n3 c3 x (fun W => Pts W (some ⟨g1, 0, none⟩) n1 x.parts) #[.slice (some ⟨g1, 0, none⟩) n1 n1, .int .i64 0, .int .i64 0, .int .i64 0, .int .i64 0, .int .i64 0, .bool false, .slice none 0 0, .slice none 0 0]) := by rw [hw2]; exact T1.out.set 0 _ rfl
  have HW2 : Hid (_ = _) := hw2
  clear hw2
  go_upto_region 3 with fail
  rw [← HW2.out]
  clear HW2 o0 f0 l0 m0 T1
  obtain ⟨o1, f1, l1⟩ := T2.out.out 1
  have o1 : w2.cell? ⟨w.heap.size + 1 + 1, 1, none⟩ = some (.int .i64 0) := o1
  have l1 : w2.cell? ⟨w.heap.size, 1, none⟩ = some (.int .i64 x.num) := l1
  have m1 := T2.out.lt
  obtain ⟨w3, hw3⟩ : ∃ W, W = w2.setCell ⟨w.heap.size + 1 + 1, 1, none⟩ (.int .i64 x.num) := ⟨_, rfl⟩
  have T3 : Hid (TC w w3 a1 n1 c1 a2 n2 c2 a3 n3 c3 x (fun W => Pts W (some ⟨g1, 0, none⟩) n1 x.parts) #[.slice (some ⟨g1, 0, none⟩) n1 n1, .int .i64 x.num, .int .i64 0, .int .i64 0, .int .i64 0, .int .i64 0, .bool false, .slice none 0 0, .slice none 0 0]) := by rw [hw3]; exact T2.out.set 1 _ rfl
  have HW3 : Hid (_ = _) := hw3
  clear hw3
  go_upto_region 4 with fail
  rw [← HW3.out]
  clear HW3 o1 f1 l1 m1 T2
  obtain ⟨o2, f2, l2⟩ := T3.out.out 2
  have o2 : w3.cell? ⟨w.heap.size + 1 + 1, 2, none⟩ = some (.int .i64 0) := o2
  have l2 : w3.cell? ⟨w.heap.size, 2, none⟩ = some (.int .i64 x.base) := l2
  have m2 := T3.out.lt
  obtain ⟨w4, hw4⟩ : ∃ W, W = w3.setCell ⟨w.heap.size + 1 + 1, 2, none⟩ (.int .i64 x.base) := ⟨_, rfl⟩
  have T4 : Hid (TC w w4 a1 n1 c1 a2 n2 c2 a3 n3 c3 x (fun W => Pts W (some ⟨g1, 0, none⟩) n1 x.parts) #[.slice (some ⟨g1, 0, none⟩) n1 n1, .int .i64 x.num, .int .i64 x.base, .int .i64 0, .int .i64 0, .int .i64 0, .bool false, .slice none 0 0, .slice none 0 0]) := by rw [hw4]; exact T3.out.set 2 _ rfl
  have HW4 : Hid (_ = _) := hw4
  clear hw4
  go_upto_region 5 with fail
  rw [← HW4.out]
  clear HW4 o2 f2 l2 m2 T3
  obtain ⟨o3, f3, l3⟩ := T4.out.out 3
  have o3 : w4.cell? ⟨w.heap.size + 1 + 1, 3, none⟩ = some (.int .i64 0) := o3
  have l3 : w4.cell? ⟨w.heap.size, 3, none⟩ = some (.int .i64 x.tm) := l3
  have m3 := T4.out.lt
  obtain ⟨w5, hw5⟩ : ∃ W, W = w4.setCell ⟨w.heap.size + 1 + 1, 3, none⟩ (.int .i64 x.tm) := ⟨_, rfl⟩
  have T5 : Hid (TC w w5 a1 n1 c1 a2 n2 c2 a3 n3 c3 x (fun W => Pts W (some ⟨g1, 0, none⟩) n1 x.parts) #[.slice (some ⟨g1, 0, none⟩) n1 n1, .int .i64 x.num, .int .i64 x.base, .int .i64 x.tm, .int .i64 0, .int .i64 0, .bool false, .slice none 0 0, .slice none 0 0]) := by rw [hw5]; exact T4.out.set 3 _ rfl
  have HW5 : Hid (_ = _) := hw5
  clear hw5
  go_upto_region 6 with fail
  rw [← HW5.out]
  clear HW5 o3 f3 l3 m3 T4
  obtain ⟨o4, f4, l4⟩ := T5.out.out 4
  have o4 : w5.cell? ⟨w.heap.size + 1 + 1, 4, none⟩ = some (.int .i64 0) := o4
  have l4 : w5.cell? ⟨w.heap.size, 4, none⟩ = some (.int .i64 x.next) := l4
  have m4 := T5.out.lt
  obtain ⟨w6, hw6⟩ : ∃ W, W = w5.setCell ⟨w.heap.size + 1 + 1, 4, none⟩ (.int .i64 x.next) := ⟨_, rfl⟩
  have T6 : Hid (TC w w6 a1 n1 c1 a2 n2 c2 a3 n3 c3 x (fun W => Pts W (some ⟨g1, 0, none⟩) n1 x.parts) #[.slice (some ⟨g1, 0, none⟩) n1 n1, .int .i64 x.num, .int .i64 x.base, .int .i64 x.tm, .int .i64 x.next, .int .i64 0, .bool false, .slice none 0 0, .slice none 0 0]) := by rw [hw6]; exact T5.out.set 4 _ rfl
  have HW6 : Hid (_ = _) := hw6
  clear hw6
  go_upto_region 7 with fail
  rw [← HW6.out]
  clear HW6 o4 f4 l4 m4 T5
  obtain ⟨o5, f5, l5⟩ := T6.out.out 5
  have o5 : w6.cell? ⟨w.heap.size + 1 + 1, 5, none⟩ = some (.int .i64 0) := o5
  have l5 : w6.cell? ⟨w.heap.size, 5, none⟩ = some (.int .i64 x.scope) := l5
  have m5 := T6.out.lt
  obtain ⟨w7, hw7⟩ : ∃ W, W = w6.setCell ⟨w.heap.size + 1 + 1, 5, none⟩ (.int .i64 x.scope) := ⟨_, rfl⟩
  have T7 : Hid (TC w w7 a1 n1 c1 a2 n2 c2 a3 n3 c3 x (fun W => Pts W (some ⟨g1, 0, none⟩) n1 x.parts) #[.slice (some ⟨g1, 0, none⟩) n1 n1, .int .i64 x.num, .int .i64 x.base, .int .i64 x.tm, .int .i64 x.next, .int .i64 x.scope, .bool false, .slice none 0 0, .slice none 0 0]) := by rw [hw7]; exact T6.out.set 5 _ rfl
  have HW7 : Hid (_ = _) := hw7
  clear hw7
  go_upto_region 8 with fail
  rw [← HW7.out]
  clear HW7 o5 f5 l5 m5 T6
  obtain ⟨o6, f6, l6⟩ := T7.out.out 6
  have o6 : w7.cell? ⟨w.heap.size + 1 + 1, 6, none⟩ = some (.bool false) := o6
  have l6 : w7.cell? ⟨w.heap.size, 6, none⟩ = some (.bool x.ind) := l6
  have m6 := T7.out.lt
  obtain ⟨w8, hw8⟩ : ∃ W, W = w7.setCell ⟨w.heap.size + 1 + 1, 6, none⟩ (.bool x.ind) := ⟨_, rfl⟩
  have T8 : Hid (TC w w8 a1 n1 c1 a2 n2 c2 a3 n3 c3 x (fun W => Pts W (some ⟨g1, 0, none⟩) n1 x.parts) #[.slice (some ⟨g1, 0, none⟩) n1 n1, .int .i64 x.num, .int .i64 x.base, .int .i64 x.tm, .int .i64 x.next, .int .i64 x.scope, .bool x.ind, .slice none 0 0, .slice none 0 0]) := by rw [hw8]; exact T7.out.set 6 _ rfl
  have HW8 : Hid (_ = _) := hw8
  clear hw8
  go_upto_region 9 with fail
  rw [← HW8.out]
  clear HW8 o6 f6 l6 m6 T7
  obtain ⟨_, _, l7⟩ := T8.out.out 7
  have l7 : w8.cell? ⟨w.heap.size, 7, none⟩ = some (.slice a2 n2 c2) := l7
  have m7 := T8.out.lt
  go_wp2_with fail
  refine (toGoneS_at a2 n2 c2 x.ents _ (HK.out.kept T8.out.below).en HZ.out.2.2.1 HZ.out.2.2.2.1).mono ?_
  rintro e w9 ⟨rfl, hp9, hl9, hb9⟩
  obtain ⟨g2, hg2⟩ : ∃ g2, g2 = w8.heap.size := ⟨_, rfl⟩
  rw [← hg2] at hp9 hl9 ⊢
  have hg23 : w.heap.size + 3 ≤ g2 := by omega
  have T9 : Hid (TC w w9 a1 n1 c1 a2 n2 c2 a3 n3 c3 x (fun W => Pts W (some ⟨g1, 0, none⟩) n1 x.parts ∧ (GoPre W g2 n2 x.ents ∧ g2 < W.heap.size)) #[.slice (some ⟨g1, 0, none⟩) n1 n1, .int .i64 x.num, .int .i64 x.base, .int .i64 x.tm, .int .i64 x.next, .int .i64 x.scope, .bool x.ind, .slice none 0 0, .slice none 0 0]) := (T8.out.on hb9).more (stab_and T8.out.st (stab_and (stab_go hg23) (stab_lt _ _))) ⟨(T8.out.on hb9).r, hp9, hl9⟩
  clear hb9 hp9 hl9 hg2 T8 l7 m7
  obtain ⟨o7, f7, l7⟩ := T9.out.out 7
  have o7 : w9.cell? ⟨w.heap.size + 1 + 1, 7, none⟩ = some (.slice none 0 0) := o7
  have l7 : w9.cell? ⟨w.heap.size, 7, none⟩ = some (.slice a2 n2 c2) := l7
  have m7 := T9.out.lt
  obtain ⟨w10, hw10⟩ : ∃ W, W = w9.setCell ⟨w.heap.size + 1 + 1, 7, none⟩ (.slice (some ⟨g2, 0, none⟩) n2 n2) := ⟨_, rfl⟩
  have T10 : Hid (TC w w10 a1 n1 c1 a2 n2 c2 a3 n3 c3 x (fun W => Pts W (some ⟨g1, 0, none⟩) n1 x.parts ∧ (GoPre W g2 n2 x.ents ∧ g2 < W.heap.size)) #[.slice (some ⟨g1, 0, none⟩) n1 n1, .int .i64 x.num, .int .i64 x.base, .int .i64 x.tm, .int .i64 x.next, .int .i64 x.scope, .bool x.ind, .slice (some ⟨g2, 0, none⟩) n2 n2, .slice none 0 0]) := by rw [hw10]; exact T9.out.set 7 _ rfl
  have HW10 : Hid (_ = _) := hw10
  clear hw10
  go_upto_region 10 with fail
  rw [← HW10.out]
  clear HW10 o7 f7 l7 m7 T9
  obtain ⟨_, _, l8⟩ := T10.out.out 8
  have l8 : w10.cell? ⟨w.heap.size, 8, none⟩ = some (.slice a3 n3 c3) := l8
  have m8 := T10.out.lt
  go_wp2_with fail
  refine (toByteS_any a3 n3 c3 x.sig _ (HK.out.kept T10.out.below).sg HZ.out.2.2.2.2).mono ?_
  rintro e w11 ⟨s3, rfl, ho11, hb11⟩
  obtain ⟨s3b, hs3b⟩ : ∃ s3b, s3b = w10.heap.size := ⟨_, rfl⟩
  rw [← hs3b] at ho11
  have hs33 : w.heap.size + 3 ≤ s3b := by omega
  have T11 : Hid (TC w w11 a1 n1 c1 a2 n2 c2 a3 n3 c3 x (fun W => (Pts W (some ⟨g1, 0, none⟩) n1 x.parts ∧ (GoPre W g2 n2 x.ents ∧ g2 < W.heap.size)) ∧ Own s3b W s3 n3 n3 x.sig) #[.slice (some ⟨g1, 0, none⟩) n1 n1, .int .i64 x.num, .int .i64 x.base, .int .i64 x.tm, .int .i64 x.next, .int .i64 x.scope, .bool x.ind, .slice (some ⟨g2, 0, none⟩) n2 n2, .slice none 0 0]) := (T10.out.on hb11).more (stab_and T10.out.st (stab_own hs33)) ⟨(T10.out.on hb11).r, ho11⟩
  clear hb11 ho11 hs3b T10 l8 m8
  obtain ⟨o8, f8, l8⟩ := T11.out.out 8
  have o8 : w11.cell? ⟨w.heap.size + 1 + 1, 8, none⟩ = some (.slice none 0 0) := o8
  have l8 : w11.cell? ⟨w.heap.size, 8, none⟩ = some (.slice a3 n3 c3) := l8
  have m8 := T11.out.lt
  obtain ⟨w12, hw12⟩ : ∃ W, W = w11.setCell ⟨w.heap.size + 1 + 1, 8, none⟩ (.slice s3 n3 n3) := ⟨_, rfl⟩
  have T12 : Hid (TC w w12 a1 n1 c1 a2 n2 c2 a3 n3 c3 x (fun W => (Pts W (some ⟨g1, 0, none⟩) n1 x.parts ∧ (GoPre W g2 n2 x.ents ∧ g2 < W.heap.size)) ∧ Own s3b W s3 n3 n3 x.sig) #[.slice (some ⟨g1, 0, none⟩) n1 n1, .int .i64 x.num, .int .i64 x.base, .int .i64 x.tm, .int .i64 x.next, .int .i64 x.scope, .bool x.ind, .slice (some ⟨g2, 0, none⟩) n2 n2, .slice s3 n3 n3]) := by rw [hw12]; exact T11.out.set 8 _ rfl
  have HW12 : Hid (_ = _) := hw12
  clear hw12
  go_upto_region 11 with fail
  rw [← HW12.out]
  clear HW12 o8 f8 l8 m8 T11
  have HLN : Hid (x.ents.length = n2 ∧ n2 ≤ 9223372036854775807) := ⟨HK.out.en.len, HK.out.en.max⟩
  have HMX : Hid (n3 ≤ 9223372036854775807) := HK.out.mx
  clear HK
  have hlF := T12.out.lt
  rename_i K0 hK0
  apply wp_region_lit
  refine wpList_load_row rfl 36 _ rfl (w.heap.size + 1 + 1) rfl 36 #[.slice (some ⟨g1, 0, none⟩) n1 n1, .int .i64 x.num, .int .i64 x.base, .int .i64 x.tm, .int .i64 x.next, .int .i64 x.scope, .bool x.ind, .slice (some ⟨g2, 0, none⟩) n2 n2, .slice s3 n3 n3] (0, 0) _ T12.out.b2 Tryd.underlying36 rfl infoSizeCrl ?_
  refine wpList_store_rowTo rfl 36 _ _ rfl rfl (w.heap.size + 1) #[.slice (some ⟨g1, 0, none⟩) n1 n1, .int .i64 x.num, .int .i64 x.base, .int .i64 x.tm, .int .i64 x.next, .int .i64 x.scope, .bool x.ind, .slice (some ⟨g2, 0, none⟩) n2 n2, .slice s3 n3 n3] rfl rfl 36 #[.slice none 0 0, .int .i64 0, .int .i64 0, .int .i64 0, .int .i64 0, .int .i64 0, .bool false, .slice none 0 0, .slice none 0 0] T12.out.b1 infoSizeCrl rfl (by simp [Value.oneCell']) ?_
  apply wpList_nil
  refine hK0 _ _ ?_
  clear hK0 K0
  have hrow : (w12.setRow (w.heap.size + 1) #[.slice (some ⟨g1, 0, none⟩) n1 n1, .int .i64 x.num, .int .i64 x.base, .int .i64 x.tm, .int .i64 x.next, .int .i64 x.scope, .bool x.ind, .slice (some ⟨g2, 0, none⟩) n2 n2, .slice s3 n3 n3]).heap[w.heap.size + 1]? = some (.cells #[.slice (some ⟨g1, 0, none⟩) n1 n1, .int .i64 x.num, .int .i64 x.base, .int .i64 x.tm, .int .i64 x.next, .int .i64 x.scope, .bool x.ind, .slice (some ⟨g2, 0, none⟩) n2 n2, .slice s3 n3 n3] 36 (0, 0)) := setRow_heap _ _ _ _ _ _ T12.out.b1
  have hoth : ∀ l, l ≠ w.heap.size + 1 → (w12.setRow (w.heap.size + 1) #[.slice (some ⟨g1, 0, none⟩) n1 n1, .int .i64 x.num, .int .i64 x.base, .int .i64 x.tm, .int .i64 x.next, .int .i64 x.scope, .bool x.ind, .slice (some ⟨g2, 0, none⟩) n2 n2, .slice s3 n3 n3]).heap[l]? = w12.heap[l]? := fun l hl => setRow_other _ _ _ _ hl
  have hsz : (w12.setRow (w.heap.size + 1) #[.slice (some ⟨g1, 0, none⟩) n1 n1, .int .i64 x.num, .int .i64 x.base, .int .i64 x.tm, .int .i64 x.next, .int .i64 x.scope, .bool x.ind, .slice (some ⟨g2, 0, none⟩) n2 n2, .slice s3 n3 n3]).heap.size = w12.heap.size := by simp
  have hbF : Below w.heap.size w (w12.setRow (w.heap.size + 1) #[.slice (some ⟨g1, 0, none⟩) n1 n1, .int .i64 x.num, .int .i64 x.base, .int .i64 x.tm, .int .i64 x.next, .int .i64 x.scope, .bool x.ind, .slice (some ⟨g2, 0, none⟩) n2 n2, .slice s3 n3 n3]) := ⟨T12.out.below.os, T12.out.below.tape, T12.out.below.output, by rw [hsz]; exact T12.out.below.size, fun l hl => (hoth l (by omega)).trans (T12.out.below.block l hl)⟩
  have hr := T12.out.st w12 (w12.setRow (w.heap.size + 1) #[.slice (some ⟨g1, 0, none⟩) n1 n1, .int .i64 x.num, .int .i64 x.base, .int .i64 x.tm, .int .i64 x.next, .int .i64 x.scope, .bool x.ind, .slice (some ⟨g2, 0, none⟩) n2 n2, .slice s3 n3 n3]) (fun l hl hl2 => hoth l (by omega)) (Nat.le_of_eq hsz.symm) T12.out.r
  go_wp2
  try simp only [Exit.inBlock, Exit.then]
  refine bodyPost_ret (results_cell_row rfl _ _ (w.heap.size + 1) 36 _ (0, 0) _ rfl hrow Tryd.underlying36 rfl infoSizeCrl) rfl ⟨_, _, _, rfl, Keeps.mono ⟨_, T12.out.st, hr, fun W hr => ⟨hr.1.1, hr.1.2.1.gns HLN.out.1 HLN.out.2 hr.1.2.2, hr.2.toRow, HMX.out⟩⟩ (by omega), hbF⟩

end Go.Proofs.YtbfjkmlmnhphoaaDoor
