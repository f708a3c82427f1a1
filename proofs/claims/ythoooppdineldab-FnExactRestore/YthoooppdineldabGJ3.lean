import Derived.Test.YthoooppdineldabGJ1
namespace Go.Proofs.Ythoooppdineldab
open Go.RowKit

theorem results_sh {fn : Func} {t : Tmp} (h : fn.results = #[.cell t 59]) (tmps : Array Value) (g : Nat) (ht : tmps.getD t undef = .pointer (some ⟨g, 0, none⟩)) (w : World) (p : Int × Int)
    (hb : BoxS 59 g w p) : (results fn tmps).run Try.prog w = .ok (sigv p) w := by
  have d0 := hb.c0
  have d1 := hb.c1
  clear hb
  have ht' : tmps[t]?.getD undef = .pointer (some ⟨g, 0, none⟩) := by rw [← ht]; simp
  simp [results, h, go_sem, ht', d0, d1, sigv]

set_option maxHeartbeats 1000000 in
theorem toShare_any (p : Int × Int) (w : World) :
    Calls Try.prog 51 #[sigv p] w fun e w' => e = .returned (sigv p) ∧ Below w.heap.size w w' := by
  obtain ⟨a, b⟩ := p
  have b1 : ((((w.alloc (.cells #[.int .i64 a, .int .i64 b] 65)).alloc (.cells #[.int .i64 a, .int .i64 b] 59)).alloc (.cells #[.int .i64 a, .int .i64 b] 59))).heap[w.heap.size + 1]? = some (.cells #[.int .i64 a, .int .i64 b] 59) := by
    have s1 : (w.alloc (.cells #[.int .i64 a, .int .i64 b] 65)).heap.size = w.heap.size + 1 := by simp
    exact (alloc_old2 _ _ _ (by simp)).trans (by rw [← s1]; exact heap_alloc_new _ _)
  have HB1 : Hid (_ = _) := b1
  clear b1
  unfold sigv
  go_enter Try.func51, Try.ntmps51
  go_wp2
  try simp only [Exit.inBlock, Exit.then]
  exact bodyPost_ret (results_sh (p := (a, b)) rfl _ (w.heap.size + 1) rfl _ ⟨HB1.out⟩) rfl ⟨rfl, (((Below.refl _ _).alloc (Nat.le_refl _) _).alloc (by simp) _).alloc (by simp; omega) _⟩

def partP (p : Int × Int) (zs : List Int) (k e : Int) : Prop := (lamR zs p.1).2 = true ∧ expP p.2 ∧ expP e ∧ secP k
instance (p : Int × Int) (zs : List Int) (k e : Int) : Decidable (partP p zs k e) := by unfold partP; infer_instance
def partR (p : Int × Int) (zs : List Int) (k e : Int) : Int × Bool := if partP p zs k e then ((k + e * ((lamR zs p.1).1 * p.2 % 500000003)) % 500000003, true) else (0, false)
theorem lamR_bd (zs : List Int) (i : Int) : 0 ≤ (lamR zs i).1 ∧ (lamR zs i).1 < 500000003 := by
  unfold lamR
  split
  · exact lamL_bd zs i
  · decide
theorem part_same (k e l v : Int) : (k + e * l % 500000003 * v) % 500000003 = (k + e * (l * v % 500000003)) % 500000003 := by
  rw [Int.add_emod, Int.mul_emod, Int.emod_emod_of_dvd _ (Int.dvd_refl _), ← Int.mul_emod, ← Int.add_emod]
  rw [Int.add_emod k (e * (l * v % 500000003)), Int.mul_emod e, Int.emod_emod_of_dvd _ (Int.dvd_refl _), ← Int.mul_emod, ← Int.add_emod, Int.mul_assoc]

end Go.Proofs.Ythoooppdineldab
