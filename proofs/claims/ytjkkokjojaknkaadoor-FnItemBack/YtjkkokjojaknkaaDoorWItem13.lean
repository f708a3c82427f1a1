import Derived.Test.YtjkkokjojaknkaaDoorWItem12
namespace Go.Proofs.YtjkkokjojaknkaaDoor
open Go.RowKit

/-- A variable that holds an item: its type, its block. -/
structure BoxT (t g : Nat) (W : World) (x : It) (ab : Option Addr) (nb cb : Nat) (ak : Option Addr) (nk ck : Nat) : Prop where
  heap : W.heap[g]? = some (.cells #[.int .i64 x.cls, .int .i64 x.tag, .bool x.cons, .slice ab nb cb, .slice ak nk ck] t (0, 0))
theorem boxT_new (t : Nat) (w : World) (x : It) (ab : Option Addr) (nb cb : Nat) (ak : Option Addr) (nk ck : Nat) : BoxT t w.heap.size (w.alloc (.cells #[.int .i64 x.cls, .int .i64 x.tag, .bool x.cons, .slice ab nb cb, .slice ak nk ck] t)) x ab nb cb ak nk ck := ⟨heap_alloc_new w _⟩
theorem BoxT.kept {t g : Nat} {W W' : World} {x : It} {ab : Option Addr} {nb cb : Nat} {ak : Option Addr} {nk ck : Nat} (h : BoxT t g W x ab nb cb ak nk ck) (hb : Below W.heap.size W W') : BoxT t g W' x ab nb cb ak nk ck := ⟨(hb.block _ (Array.getElem?_eq_some_iff.1 h.heap).1).trans h.heap⟩
theorem BoxT.lt {t g : Nat} {W : World} {x : It} {ab : Option Addr} {nb cb : Nat} {ak : Option Addr} {nk ck : Nat} (h : BoxT t g W x ab nb cb ak nk ck) : g < W.heap.size := (Array.getElem?_eq_some_iff.1 h.heap).1
theorem BoxT.cells {t g : Nat} {W : World} {x : It} {ab : Option Addr} {nb cb : Nat} {ak : Option Addr} {nk ck : Nat} (h : BoxT t g W x ab nb cb ak nk ck) :
    W.cell? ⟨g, 0, none⟩ = some (.int .i64 x.cls) ∧ W.cell? ⟨g, 1, none⟩ = some (.int .i64 x.tag) ∧ W.cell? ⟨g, 2, none⟩ = some (.bool x.cons) ∧ W.cell? ⟨g, 3, none⟩ = some (.slice ab nb cb) ∧ W.cell? ⟨g, 4, none⟩ = some (.slice ak nk ck) :=
  ⟨(cell_of_row _ g 0 _ t (0, 0) h.heap).trans rfl, (cell_of_row _ g 1 _ t (0, 0) h.heap).trans rfl, (cell_of_row _ g 2 _ t (0, 0) h.heap).trans rfl, (cell_of_row _ g 3 _ t (0, 0) h.heap).trans rfl, (cell_of_row _ g 4 _ t (0, 0) h.heap).trans rfl⟩

theorem sizV_nonneg (o : Option (List Int)) : decide (sizV o ≥ 0) = o.isSome := by
  cases o with
  | none => rfl
  | some l => simp [sizV]

set_option maxRecDepth 10000 in
set_option maxHeartbeats 1000000 in
theorem specItemOk_any (d : Nat) (x : It) (ab : Option Addr) (nb cb : Nat) (ak : Option Addr) (nk ck : Nat) (w : World) (hrow : Row w ab nb x.body) (hnb : nb ≤ 1048576) (hk : Kids d w ak nk x.kids) (hwt : wtS d x.kids ≤ 1048576) :
    Calls Tryd.prog 11 #[itv x ab nb cb ak nk ck] w fun e w' => e = .returned (.bool (enc 12 x).isSome) ∧ Below w.heap.size w w' := by
  have hbl : Below w.heap.size w (w.alloc (.cells #[.int .i64 x.cls, .int .i64 x.tag, .bool x.cons, .slice ab nb cb, .slice ak nk ck] 26)) := (Below.refl _ _).alloc (Nat.le_refl _) _
  have HS : Hid (_) := sizeAt_all d 12 1 x ab nb cb ak nk ck _ (by decide) (by decide) (hrow.kept hbl) hnb (hk.kept hbl) hwt
  clear hrow hk hwt hnb
  unfold itv
  go_enter Tryd.func11, Tryd.ntmps11
  go_wp2_with fail
  refine Calls.mono HS.out ?_
  rintro e w1 ⟨rfl, hb1⟩
  have hb1' : Below w.heap.size w w1 := hbl.trans (hb1.mono hbl.size)
  have HV : Hid (_ = _) := sizV_nonneg (enc 12 x)
  obtain ⟨v, hv⟩ : ∃ v, v = sizV (enc 12 x) := ⟨_, rfl⟩
  have HW : Hid (v = sizV (enc 12 x)) := hv
  rw [← hv]
  clear hv hb1
  go_wp2
  go_ret
  exact ⟨by rw [← HV.out, ← HW.out]; rfl, hb1'⟩

set_option maxRecDepth 10000 in
set_option maxHeartbeats 1000000 in
theorem implItemBytes_any (d : Nat) (x : It) (ab : Option Addr) (nb cb : Nat) (ak : Option Addr) (nk ck : Nat) (w : World) (hrow : Row w ab nb x.body) (hnil : ab = none → cb = 0) (hnb : nb ≤ 9223372036854775807) (hk : Kids d w ak nk x.kids) :
    Calls Tryd.prog 10 #[itv x ab nb cb ak nk ck] w fun e w' => Ans w.heap.size (enc 12 x) e w' ∧ Below w.heap.size w w' := by
  have hbl : Below w.heap.size w (w.alloc (.cells #[.int .i64 x.cls, .int .i64 x.tag, .bool x.cons, .slice ab nb cb, .slice ak nk ck] 26)) := (Below.refl _ _).alloc (Nat.le_refl _) _
  have HS : Hid (_) := bytesAt_all d 12 1 x ab nb cb ak nk ck _ (by decide) (by decide) (hrow.kept hbl) hnil hnb (hk.kept hbl)
  clear hrow hk hnb hnil
  unfold itv
  go_enter Tryd.func10, Tryd.ntmps10
  go_wp2_with fail
  refine Calls.mono HS.out ?_
  rintro e w1 ⟨hans, hb1⟩
  have hb1' : Below w.heap.size w w1 := hbl.trans (hb1.mono hbl.size)
  clear hb1
  rcases hans with ⟨a2, n2, c2, bs2, rfl, he2, ho2⟩ | ⟨rfl, he2⟩
  · have HO : Hid (Own w.heap.size w1 a2 n2 c2 bs2) := ho2.mono hbl.size
    clear ho2
    go_wp2
    go_ret2
    exact ⟨.inl ⟨a2, n2, c2, bs2, rfl, he2, HO⟩, hb1'⟩
  · go_wp2
    go_ret2
    exact ⟨.inr ⟨rfl, he2⟩, hb1'⟩

set_option maxRecDepth 10000 in
set_option maxHeartbeats 1000000 in
theorem implItemOk_any (d : Nat) (x : It) (ab : Option Addr) (nb cb : Nat) (ak : Option Addr) (nk ck : Nat) (w : World) (hrow : Row w ab nb x.body) (hnil : ab = none → cb = 0) (hnb : nb ≤ 9223372036854775807) (hk : Kids d w ak nk x.kids) :
    Calls Tryd.prog 12 #[itv x ab nb cb ak nk ck] w fun e w' => e = .returned (.bool (enc 12 x).isSome) ∧ Below w.heap.size w w' := by
  have hbl : Below w.heap.size w (w.alloc (.cells #[.int .i64 x.cls, .int .i64 x.tag, .bool x.cons, .slice ab nb cb, .slice ak nk ck] 26)) := (Below.refl _ _).alloc (Nat.le_refl _) _
  have HS : Hid (_) := implItemBytes_any d x ab nb cb ak nk ck _ (hrow.kept hbl) hnil hnb (hk.kept hbl)
  clear hrow hk hnb hnil
  unfold itv
  go_enter Tryd.func12, Tryd.ntmps12
  go_wp2_with fail
  refine Calls.mono HS.out ?_
  rintro e w1 ⟨hans, hb1⟩
  have hb1' : Below w.heap.size w w1 := hbl.trans (hb1.mono hbl.size)
  clear hb1
  rcases hans with ⟨a2, n2, c2, bs2, rfl, he2, ho2⟩ | ⟨rfl, he2⟩
  · clear ho2
    go_wp2
    go_ret
    exact ⟨by rw [he2.out]; rfl, hb1'⟩
  · go_wp2
    go_ret
    exact ⟨by rw [he2.out]; rfl, hb1'⟩

end Go.Proofs.YtjkkokjojaknkaaDoor
