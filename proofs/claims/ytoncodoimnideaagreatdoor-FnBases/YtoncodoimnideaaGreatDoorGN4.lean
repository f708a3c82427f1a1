import Derived.Test.YtoncodoimnideaaGreatDoorGN2
import Derived.Test.YtoncodoimnideaaGreatDoorGN3
namespace Go.Proofs.YtoncodoimnideaaGreatDoor
open Go.RowKit

/-- A variable that holds a general name. -/
structure BoxG (t b : Nat) (W : World) (g : GT) (a : Option Addr) (n c : Nat) : Prop where
  heap : W.heap[b]? = some (.cells #[.int .i64 g.kind, .string g.text, .int .i64 g.addr, .int .i64 g.bits, .slice a n c] t (0, 0))
theorem BoxG.cells {t b : Nat} {W : World} {g : GT} {a : Option Addr} {n c : Nat} (h : BoxG t b W g a n c) :
    W.cell? ⟨b, 0, none⟩ = some (.int .i64 g.kind) ∧ W.cell? ⟨b, 1, none⟩ = some (.string g.text) ∧ W.cell? ⟨b, 2, none⟩ = some (.int .i64 g.addr) ∧ W.cell? ⟨b, 3, none⟩ = some (.int .i64 g.bits) ∧ W.cell? ⟨b, 4, none⟩ = some (.slice a n c) :=
  ⟨(cell_of_row _ b 0 _ t (0, 0) h.heap).trans rfl, (cell_of_row _ b 1 _ t (0, 0) h.heap).trans rfl, (cell_of_row _ b 2 _ t (0, 0) h.heap).trans rfl, (cell_of_row _ b 3 _ t (0, 0) h.heap).trans rfl, (cell_of_row _ b 4 _ t (0, 0) h.heap).trans rfl⟩
theorem BoxG.kept {t b : Nat} {W W' : World} {g : GT} {a : Option Addr} {n c : Nat} (h : BoxG t b W g a n c) (hb : Below W.heap.size W W') : BoxG t b W' g a n c := ⟨(hb.block _ (Array.getElem?_eq_some_iff.1 h.heap).1).trans h.heap⟩
theorem boxG_new (t : Nat) (w : World) (g : GT) (a : Option Addr) (n c : Nat) : BoxG t w.heap.size (w.alloc (.cells #[.int .i64 g.kind, .string g.text, .int .i64 g.addr, .int .i64 g.bits, .slice a n c] t)) g a n c := ⟨heap_alloc_new w _⟩

theorem empty_iff (s : ByteArray) : s.toList.isEmpty = true ↔ s.size = 0 := by
  rw [ByteArray.toList_eq, Lib.size_eq]
  cases s.data.toList with
  | nil => simp
  | cons a l => simp

def bareB (g : GT) (n : Nat) : Bool := (g.text.toList.isEmpty || g.kind == 1 || g.kind == 2) && (g.addr == 0 || g.kind == 3) && ((n : Int) == 0 || g.kind == 4)

def genP (g : GT) (xs : List PT) : Prop :=
  (g.kind = 1 ∧ (g.addr = 0 ∧ g.bits = 0 ∧ xs.length = 0) ∧ hostP g.text true) ∨
  (g.kind = 2 ∧ (g.addr = 0 ∧ g.bits = 0 ∧ xs.length = 0) ∧ mailP g.text) ∨
  (g.kind = 3 ∧ (g.text.size = 0 ∧ xs.length = 0) ∧ (0 ≤ g.addr ∧ g.addr ≤ 4294967295) ∧ g.bits = 0) ∨
  (g.kind = 4 ∧ (g.text.size = 0 ∧ g.addr = 0 ∧ g.bits = 0) ∧ nameP xs ∧ 0 < xs.length)
def mbaseP (s : ByteArray) : Prop := mailP s ∨ hostP s false ∨ (0 < s.size ∧ cAt s 0 = 46 ∧ hostP (s.extract 1 s.size) false)
def baseP (g : GT) (xs : List PT) : Prop :=
  (g.kind = 1 ∧ (g.addr = 0 ∧ g.bits = 0 ∧ xs.length = 0) ∧ hostP g.text false) ∨
  (g.kind = 2 ∧ (g.addr = 0 ∧ g.bits = 0 ∧ xs.length = 0) ∧ mbaseP g.text) ∨
  (g.kind = 3 ∧ (g.text.size = 0 ∧ xs.length = 0) ∧ (0 ≤ g.addr ∧ g.addr ≤ 4294967295) ∧ (0 ≤ g.bits ∧ g.bits ≤ 32) ∧ g.addr % (2 : Int) ^ (32 - g.bits).toNat = 0) ∨
  (g.kind = 4 ∧ (g.text.size = 0 ∧ g.addr = 0 ∧ g.bits = 0) ∧ nameP xs)

theorem bare_f {g : GT} {xs : List PT} (h : bareB g xs.length = false) : ¬ genP g xs ∧ ¬ baseP g xs := by
  have key : ∀ (P : Prop), ((g.kind = 1 ∧ g.addr = 0 ∧ xs.length = 0) ∨ (g.kind = 2 ∧ g.addr = 0 ∧ xs.length = 0) ∨ (g.kind = 3 ∧ g.text.size = 0 ∧ xs.length = 0) ∨ (g.kind = 4 ∧ g.text.size = 0 ∧ g.addr = 0)) → P := by
    intro P q
    exfalso
    unfold bareB at h
    rcases q with ⟨q1, q2, q3⟩ | ⟨q1, q2, q3⟩ | ⟨q1, q2, q3⟩ | ⟨q1, q2, q3⟩
    · simp [q1, q2, q3] at h
    · simp [q1, q2, q3] at h
    · rw [(empty_iff g.text).2 q2] at h; simp [q1, q3] at h
    · rw [(empty_iff g.text).2 q2] at h; simp [q1, q3] at h
  constructor
  · rintro (⟨q1, ⟨q2, _, q3⟩, _⟩ | ⟨q1, ⟨q2, _, q3⟩, _⟩ | ⟨q1, ⟨q2, q3⟩, _⟩ | ⟨q1, ⟨q2, q3, _⟩, _⟩)
    · exact key _ (.inl ⟨q1, q2, q3⟩)
    · exact key _ (.inr (.inl ⟨q1, q2, q3⟩))
    · exact key _ (.inr (.inr (.inl ⟨q1, q2, q3⟩)))
    · exact key _ (.inr (.inr (.inr ⟨q1, q2, q3⟩)))
  · rintro (⟨q1, ⟨q2, _, q3⟩, _⟩ | ⟨q1, ⟨q2, _, q3⟩, _⟩ | ⟨q1, ⟨q2, q3⟩, _⟩ | ⟨q1, ⟨q2, q3, _⟩, _⟩)
    · exact key _ (.inl ⟨q1, q2, q3⟩)
    · exact key _ (.inr (.inl ⟨q1, q2, q3⟩))
    · exact key _ (.inr (.inr (.inl ⟨q1, q2, q3⟩)))
    · exact key _ (.inr (.inr (.inr ⟨q1, q2, q3⟩)))
theorem bare_12 {g : GT} {n : Nat} (h : bareB g n = true) (hk : g.kind = 1 ∨ g.kind = 2) : g.addr = 0 ∧ n = 0 := by
  unfold bareB at h
  rcases hk with hk | hk <;> simp [hk] at h <;> exact ⟨h.1, by omega⟩
theorem bare_3 {g : GT} {n : Nat} (h : bareB g n = true) (hk : g.kind = 3) : g.text.size = 0 ∧ n = 0 := by
  unfold bareB at h
  simp only [hk] at h
  have e1 : ((3 : Int) == 1) = false := by decide
  have e2 : ((3 : Int) == 2) = false := by decide
  have e3 : ((3 : Int) == 4) = false := by decide
  rw [e1, e2, e3] at h
  simp only [Bool.or_false, Bool.and_eq_true, beq_iff_eq] at h
  exact ⟨(empty_iff g.text).1 h.1.1, by omega⟩
theorem bare_4 {g : GT} {n : Nat} (h : bareB g n = true) (hk : g.kind = 4) : g.text.size = 0 ∧ g.addr = 0 := by
  unfold bareB at h
  simp only [hk] at h
  have e1 : ((4 : Int) == 1) = false := by decide
  have e2 : ((4 : Int) == 2) = false := by decide
  have e3 : ((4 : Int) == 3) = false := by decide
  rw [e1, e2, e3] at h
  simp only [Bool.or_false, Bool.and_eq_true, beq_iff_eq] at h
  exact ⟨(empty_iff g.text).1 h.1.1, h.1.2⟩

set_option maxRecDepth 10000 in
set_option maxHeartbeats 4000000 in
theorem l6Bare_any (g : GT) (a : Option Addr) (n c : Nat) (w : World) : Calls Tryz.prog 39 #[gnv g a n c] w fun e w' => e = .returned (.bool (bareB g n)) ∧ Below w.heap.size w w' := by
  obtain ⟨B, hB⟩ : ∃ B, B = bareB g n := ⟨_, rfl⟩
  rw [← hB]
  have HB : Hid (B = bareB g n) := hB
  clear hB
  have hbl : Below w.heap.size w (w.alloc (.cells #[.int .i64 g.kind, .string g.text, .int .i64 g.addr, .int .i64 g.bits, .slice a n c] 30)) := (Below.refl _ _).alloc (Nat.le_refl _) _
  obtain ⟨k, t, ad, bi⟩ := g
  unfold gnv
  unfold bareB at HB
  dsimp only at HB hbl ⊢
  have hk : ((k == 1) = true ∧ (k == 2) = false ∧ (k == 3) = false ∧ (k == 4) = false) ∨ ((k == 1) = false ∧ (k == 2) = true ∧ (k == 3) = false ∧ (k == 4) = false) ∨ ((k == 1) = false ∧ (k == 2) = false ∧ (k == 3) = true ∧ (k == 4) = false) ∨ ((k == 1) = false ∧ (k == 2) = false ∧ (k == 3) = false ∧ (k == 4) = true) ∨ ((k == 1) = false ∧ (k == 2) = false ∧ (k == 3) = false ∧ (k == 4) = false) := by
    simp only [beq_iff_eq, beq_eq_false_iff_ne]
    omega
  cases h1 : t.toList.isEmpty <;> cases h2 : (ad == 0) <;> cases h3 : ((n : Int) == 0) <;> rcases hk with ⟨k1, k2, k3, k4⟩ | ⟨k1, k2, k3, k4⟩ | ⟨k1, k2, k3, k4⟩ | ⟨k1, k2, k3, k4⟩ | ⟨k1, k2, k3, k4⟩
  all_goals
    rw [h1, h2, h3, k1, k2, k3, k4] at HB
    go_enter Tryz.func39, Tryz.ntmps39
    go_wp2
    go_ret
    exact ⟨by rw [HB.out]; rfl, hbl⟩

end Go.Proofs.YtoncodoimnideaaGreatDoor
