import Derived.Test.YtaiflnccpgcklaaDoorS1
import Derived.Test.YtaiflnccpgcklaaDoorDI
import Derived.Lib.Join
namespace Go.Proofs.YtaiflnccpgcklaaDoor
open Go.RowKit

/-! The text of a schema. -/

def wordsL : List (List UInt8) := [[], [98, 111, 111, 108], [105, 110, 116], [98, 121, 116, 101, 115], [116, 101, 120, 116], [101, 110, 117, 109], [115, 101, 113], [108, 105, 115, 116], [99, 104, 111, 105, 99, 101], [111, 112, 101, 110]]
def kword (k : Nat) : ByteArray := ⟨(wordsL.getD k []).toArray⟩
def kLo (k : Nat) : Bool := k == 2 || k == 3 || k == 4 || k == 7 || k == 9
def kHi (k : Nat) : Bool := k == 2 || k == 3 || k == 4 || k == 5 || k == 7
def extB : ByteArray := ⟨#[101, 120, 116]⟩
def optB : ByteArray := ⟨#[111, 112, 116]⟩
def boundW (x : ST) : List ByteArray := (if kLo x.kind.toNat then [num x.lo] else []) ++ (if kHi x.kind.toNat then [num x.hi] else [])
def kidW (x : ST) (j : Nat) : List ByteArray := boundW x ++ (x.kids.take j).map num
def extW (x : ST) : List ByteArray := kidW x x.kids.length ++ (if x.ext then [extB] else [])
def restW (x : ST) : List ByteArray := extW x ++ (if x.opt then [optB] else [])
def tailL (ws : List ByteArray) : List UInt8 := Lib.joinTail [32] (ws.map (·.data.toList))
theorem tailL_nil : tailL [] = [] := rfl
theorem tailL_app (a b : List ByteArray) : tailL (a ++ b) = tailL a ++ tailL b := by simp [tailL, Lib.joinTail]
theorem tailL_one (b : ByteArray) : tailL [b] = 32 :: b.data.toList := by simp [tailL, Lib.joinTail]
theorem tailL_snoc (ws : List ByteArray) (b : ByteArray) : tailL (ws ++ [b]) = tailL ws ++ 32 :: b.data.toList := by rw [tailL_app, tailL_one]
def headL (t : Nat) (x : ST) : List UInt8 := (num t).data.toList ++ 32 :: (kword x.kind.toNat).data.toList
def lineL (t : Nat) (x : ST) : List UInt8 := headL t x ++ tailL (restW x) ++ [10]
def showL (xs : List ST) : Nat → List UInt8
  | 0 => []
  | k + 1 => showL xs k ++ lineL k (xs.getD k default)
theorem kidW_next (x : ST) (j : Nat) (h : j < x.kids.length) : kidW x (j + 1) = kidW x j ++ [num (x.kids.getD j 0)] := by
  unfold kidW
  rw [List.take_succ_eq_append_getElem h, List.map_append, List.append_assoc]
  simp [h]
/-- The line as its words joined. -/
theorem line_join (t : Nat) (x : ST) : Lib.join ((num t :: kword x.kind.toNat :: restW x).map (·.data.toList)) [32] ++ [10] = lineL t x := by
  unfold lineL headL tailL
  rw [List.map_cons, List.map_cons, Lib.join_cons]
  simp [Lib.joinTail]

/-- What a schema that is right says of its types' numbers. -/
structure Small (x : ST) : Prop where
  k1 : 1 ≤ x.kind
  k9 : x.kind ≤ 9
  lo0 : -1000000000000000 ≤ x.lo
  lo1 : x.lo ≤ 1000000000000000
  hi0 : -1000000000000000 ≤ x.hi
  hi1 : x.hi ≤ 1000000000000000
  len : x.kids.length ≤ 12
  kid : ∀ j, j < x.kids.length → 0 ≤ x.kids.getD j 0 ∧ x.kids.getD j 0 ≤ 40
def wsz (ws : List ByteArray) : Prop := ∀ b ∈ ws, b.size ≤ 20
theorem tailL_len {ws : List ByteArray} (h : wsz ws) : (tailL ws).length ≤ 21 * ws.length := by
  induction ws with
  | nil => simp [tailL_nil]
  | cons b r ih =>
    have e : tailL (b :: r) = tailL [b] ++ tailL r := by rw [← tailL_app]; rfl
    have h1 := h b (List.mem_cons_self)
    have h2 := ih (fun c hc => h c (List.mem_cons_of_mem _ hc))
    rw [e, tailL_one, List.length_append, List.length_cons, List.length_cons, ← Lib.size_eq]
    omega
theorem wsz_app {a b : List ByteArray} (h1 : wsz a) (h2 : wsz b) : wsz (a ++ b) := fun c hc => by
  rcases List.mem_append.1 hc with h | h
  · exact h1 c h
  · exact h2 c h
theorem wsz_one {b : ByteArray} (h : b.size ≤ 20) : wsz [b] := fun c hc => by rw [List.mem_singleton.1 hc]; exact h
theorem wsz_nil : wsz [] := fun _ hc => by cases hc
theorem wsz_bound {x : ST} (h : Small x) : wsz (boundW x) ∧ (boundW x).length ≤ 2 := by
  obtain ⟨_, _, a, b, c, d, _, _⟩ := h
  have n1 := num_size x.lo (by omega) (by omega)
  have n2 := num_size x.hi (by omega) (by omega)
  unfold boundW
  refine ⟨wsz_app ?_ ?_, ?_⟩
  · split
    · exact wsz_one n1
    · exact wsz_nil
  · split
    · exact wsz_one n2
    · exact wsz_nil
  · rw [List.length_append]
    split <;> split <;> simp
theorem wsz_kid {x : ST} (h : Small x) (j : Nat) : wsz (kidW x j) ∧ (kidW x j).length ≤ 14 := by
  obtain ⟨h1, h2⟩ := wsz_bound h
  unfold kidW
  refine ⟨wsz_app h1 (fun b hb => ?_), ?_⟩
  · obtain ⟨v, hv, rfl⟩ := List.mem_map.1 hb
    obtain ⟨i, hi, e⟩ := List.getElem_of_mem (List.mem_of_mem_take hv)
    have hk := h.kid i hi
    have e2 : x.kids.getD i 0 = v := by simp [hi, e]
    rw [e2] at hk
    exact num_size v (by omega) (by omega)
  · have := h.len
    rw [List.length_append, List.length_map, List.length_take]
    omega
theorem wsz_rest {x : ST} (h : Small x) : wsz (restW x) ∧ (restW x).length ≤ 16 := by
  obtain ⟨h1, h2⟩ := wsz_kid h x.kids.length
  unfold restW extW
  refine ⟨wsz_app (wsz_app h1 ?_) ?_, ?_⟩
  · split
    · exact wsz_one (by decide)
    · exact wsz_nil
  · split
    · exact wsz_one (by decide)
    · exact wsz_nil
  · rw [List.length_append, List.length_append]
    split <;> split <;> simp <;> omega
theorem word_len (k : Nat) (hk : k ≤ 9) : (kword k).size ≤ 6 := by
  have : k = 0 ∨ k = 1 ∨ k = 2 ∨ k = 3 ∨ k = 4 ∨ k = 5 ∨ k = 6 ∨ k = 7 ∨ k = 8 ∨ k = 9 := by omega
  rcases this with rfl | rfl | rfl | rfl | rfl | rfl | rfl | rfl | rfl | rfl <;> decide
theorem head_len (t : Nat) (x : ST) (ht : t ≤ 40) (h : Small x) : (headL t x).length ≤ 30 := by
  have n1 := num_size t (by omega) (by omega)
  have n2 := word_len x.kind.toNat (by have := h.k9; omega)
  unfold headL
  rw [List.length_append, List.length_cons, ← Lib.size_eq, ← Lib.size_eq]
  omega
theorem line_len (t : Nat) (x : ST) (ht : t ≤ 40) (h : Small x) : (lineL t x).length ≤ 400 := by
  have h1 := head_len t x ht h
  obtain ⟨h2, h3⟩ := wsz_rest h
  have h4 := tailL_len h2
  unfold lineL
  rw [List.length_append, List.length_append]
  simp
  omega
end Go.Proofs.YtaiflnccpgcklaaDoor
