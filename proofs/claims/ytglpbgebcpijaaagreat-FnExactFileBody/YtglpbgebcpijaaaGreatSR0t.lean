import Derived.Test.YtglpbgebcpijaaaGreatTB0
import Derived.Test.YtglpbgebcpijaaaGreatRJ
namespace Go.Proofs.YtglpbgebcpijaaaGreat
open Go.RowKit Go.Sort

theorem heap_alloc2_newH (w : World) (o0 o1 o2 : Obj) : (((w.alloc o0).alloc o1).alloc o2).heap[w.heap.size]? = some o0 ∧ (((w.alloc o0).alloc o1).alloc o2).heap[w.heap.size + 1]? = some o1 ∧ (((w.alloc o0).alloc o1).alloc o2).heap[w.heap.size + 1 + 1]? = some o2 := by
  have s1 : (w.alloc o0).heap.size = w.heap.size + 1 := by simp
  have s2 : ((w.alloc o0).alloc o1).heap.size = w.heap.size + 1 + 1 := by simp
  refine ⟨(alloc_oldT _ _ _ (by simp; omega)).trans ((alloc_oldT _ _ _ (by simp)).trans (heap_alloc_new w o0)), (alloc_oldT _ _ _ (by simp)).trans (by rw [← s1]; exact heap_alloc_new _ o1), by rw [← s2]; exact heap_alloc_new _ o2⟩

set_option maxRecDepth 10000 in
set_option maxHeartbeats 400000 in
theorem szByteS_gen (a : Option Addr) (n cap : Nat) (l : Int) (w : World) (hn : n ≤ 9223372036854775807) (h0 : 0 ≤ l) (h1 : l ≤ 1048576) :
    Calls Tryz.prog 116 #[.slice a n cap, .int .i64 l] w fun e w' => ∃ r, e = .returned (.int .i64 r) ∧ (r < 0 ∨ (0 ≤ r ∧ r ≤ 1048576 ∧ n ≤ 1048576)) ∧ w = w' := by
  by_cases hlt : (n : Int) ≤ l
  · have h1 : ¬ l - (n : Int) < 0 := by omega
    go_enter Tryz.func116, Tryz.ntmps116
    go_wp2
    go_ret
    exact ⟨_, rfl, .inr (by omega), rfl⟩
  · have h1 : l - (n : Int) < 0 := by omega
    go_enter Tryz.func116, Tryz.ntmps116
    go_wp2
    go_ret
    exact ⟨_, rfl, .inl (by decide), rfl⟩

theorem touch_kept {W W' : World} {lo hi g : Nat} {o : Obj} (ht : Touch lo hi W W') (h : W.heap[g]? = some o) (ho : g < lo ∨ hi ≤ g) : W'.heap[g]? = some o := (ht.block g (Array.getElem?_eq_some_iff.1 h).1 ho).trans h
/-- What holds, whatever is done to the blocks below B. -/
def KeepB (B : Nat) (w : World) (Q : World → Prop) : Prop := ∀ W, Touch 0 B w W → Q W
theorem KeepB.now {B : Nat} {w : World} {Q : World → Prop} (h : KeepB B w Q) : Q w := h w ⟨rfl, rfl, rfl, Nat.le_refl _, fun _ _ _ => rfl⟩
theorem KeepB.touch {B lo hi : Nat} {w w' : World} {Q : World → Prop} (h : KeepB B w Q) (ht : Touch lo hi w w') (hd : hi ≤ B) : KeepB B w' Q := fun W hW => h W ((ht.mono (Nat.zero_le _) hd).trans hW)
theorem KeepB.kept {B : Nat} {w w' : World} {Q : World → Prop} (h : KeepB B w Q) (hb : Below w.heap.size w w') : KeepB B w' Q := fun W hW => h W ((show Touch 0 B w w' from ⟨hb.os, hb.tape, hb.output, hb.size, fun k hk _ => hb.block k hk⟩).trans hW)
theorem KeepB.mono {B B' : Nat} {w : World} {Q : World → Prop} (h : KeepB B w Q) (hB : B' ≤ B) : KeepB B' w Q := fun W hW => h W (hW.mono (Nat.le_refl _) hB)
theorem KeepB.map {B : Nat} {w : World} {Q P : World → Prop} (h : KeepB B w Q) (f : ∀ W, Q W → P W) : KeepB B w P := fun W hW => f W (h W hW)

end Go.Proofs.YtglpbgebcpijaaaGreat
