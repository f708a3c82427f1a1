import Derived.Test.YtlcojjcgaibbiaaKI1
import Derived.Test.YtlcojjcgaibbiaaHW3
set_option linter.unusedVariables false
namespace Go.Proofs.Ytlcojjcgaibbiaa
open Go.RowKit

theorem encK_all (f : It → Option (List Int)) (L : Nat) : ∀ (xs : List It) (acc : List Int), (∀ x ∈ xs, ∃ p, f x = some p ∧ p.length ≤ L) → acc.length + xs.length * L ≤ 20000 → ∃ l, encK f acc xs = some l ∧ l.length ≤ acc.length + xs.length * L
  | [], acc, _, _ => ⟨acc, rfl, by simp⟩
  | x :: xs, acc, h, hl => by
    obtain ⟨p, hp, hpl⟩ := h x (List.mem_cons_self ..)
    have hm : (xs.length + 1) * L = xs.length * L + L := Nat.succ_mul _ _
    have hl2 : acc.length + (xs.length * L + L) ≤ 20000 := by rw [← hm]; exact hl
    obtain ⟨l, h1, h2⟩ := encK_all f L xs (acc ++ p) (fun y hy => h y (List.mem_cons_of_mem _ hy)) (by rw [List.length_append]; omega)
    refine ⟨l, ?_, ?_⟩
    · rw [encK, hp]
      simp only
      rw [if_pos (by omega)]
      exact h1
    · rw [List.length_append] at h2
      show _ ≤ _ + (xs.length + 1) * L
      omega
theorem enc_boxL (r : Nat) (cls tag : Int) (ks : List It) (L : Nat) (hc : cls = 0 ∨ cls = 1) (h0 : 1 ≤ tag) (h1 : tag ≤ 30) (hk : ∀ x ∈ ks, ∃ p, enc r x = some p ∧ p.length ≤ L) (hl : ks.length * L ≤ 19900) : ∃ l, enc (r + 1) (.mk cls tag true [] ks) = some l ∧ l.length ≤ ks.length * L + 20 := by
  have hs : It.shape (.mk cls tag true [] ks) = true := by
    unfold It.shape
    simp [It.cls, It.tag, It.cons, It.body]
    omega
  obtain ⟨l, e1, e2⟩ := encK_all (enc r) L ks [] hk (by simpa using Nat.le_trans hl (by decide))
  have hi : innerBy (enc r) (.mk cls tag true [] ks) = some l := by
    unfold innerBy
    rw [if_pos (show (It.mk cls tag true [] ks).cons = true from rfl)]
    exact e1
  have hh := headL_len (.mk cls tag true [] ks) l.length ⟨by simp [It.tag]; omega, by simp [It.tag]; omega⟩
  simp only [List.length_nil, Nat.zero_add] at e2
  exact ⟨_, enc_some r _ _ hs hi (by rw [List.length_append]; omega), by rw [List.length_append]; omega⟩
theorem enc_leafL (r : Nat) (t : Int) (bs : List Int) (L : Nat) (h0 : 1 ≤ t) (h1 : t ≤ 30) (hb : bs.length ≤ L) (hL : L ≤ 19900) : ∃ l, enc (r + 1) (.mk 0 t false bs []) = some l ∧ l.length ≤ L + 20 := by
  have hs : It.shape (.mk 0 t false bs []) = true := by
    unfold It.shape
    simp [It.cls, It.tag, It.cons, It.kids]
    omega
  have hi : innerBy (enc r) (.mk 0 t false bs []) = some bs := by
    unfold innerBy
    rw [if_neg (by simp [It.cons]), if_pos (by simp [It.body]; omega)]
    rfl
  have hh := headL_len (.mk 0 t false bs []) bs.length ⟨by simp [It.tag]; omega, by simp [It.tag]; omega⟩
  exact ⟨_, enc_some r _ bs hs hi (by rw [List.length_append]; omega), by rw [List.length_append]; omega⟩
/-- A struct, a list, an entry, the body of a list. -/
def strI (ks : List It) : It := .mk 0 16 true [] ks
def lstI (ks : List It) : It := .mk 0 17 true [] ks
def enI (k u : Int) : It := strI [bytI (eightI k), numI u]
def lbI (v e : Int) (es : List (Int × Int)) : It := boxI 15 [numI v, numI e, lstI (es.map fun p => enI p.1 p.2)]
theorem numI_enc (r : Nat) (n : Int) : ∃ l, enc (r + 1) (numI n) = some l ∧ l.length ≤ 30 := by
  refine enc_leafL r 2 (wbL n) 10 (by decide) (by decide) ?_ (by decide)
  rw [wbL_len]; have := (wsz_bd n).2; omega
theorem eigI_enc (r : Nat) (k : Int) : ∃ l, enc (r + 1) (bytI (eightI k)) = some l ∧ l.length ≤ 28 := enc_leafL r 4 (eightI k) 8 (by decide) (by decide) (by rw [eightI_len]; exact Nat.le_refl _) (by decide)
theorem enI_enc (r : Nat) (k u : Int) : ∃ l, enc (r + 2) (enI k u) = some l ∧ l.length ≤ 80 := by
  refine enc_boxL (r + 1) 0 16 _ 30 (.inl rfl) (by decide) (by decide) (fun x hx => ?_) (by simp)
  simp only [List.mem_cons, List.not_mem_nil, or_false] at hx
  rcases hx with rfl | rfl
  · obtain ⟨l, h1, h2⟩ := eigI_enc r k
    exact ⟨l, h1, by omega⟩
  · exact numI_enc r u
theorem lbI_enc (v e : Int) (es : List (Int × Int)) (h : es.length ≤ 20) : ∃ l, enc 12 (lbI v e es) = some l ∧ l.length ≤ 5000 := by
  have hn : ∀ n, ∃ p, enc 11 (numI n) = some p ∧ p.length ≤ 1620 := fun n => by
    obtain ⟨l, h1, h2⟩ := numI_enc 10 n
    exact ⟨l, h1, by omega⟩
  obtain ⟨l, h1, h2⟩ := enc_boxL 11 1 15 [numI v, numI e, lstI (es.map fun p => enI p.1 p.2)] 1620 (.inr rfl) (by decide) (by decide) (fun x hx => by
    simp only [List.mem_cons, List.not_mem_nil, or_false] at hx
    rcases hx with rfl | rfl | rfl
    · exact hn v
    · exact hn e
    · obtain ⟨l, h1, h2⟩ := enc_boxL 10 0 17 (es.map fun p => enI p.1 p.2) 80 (.inl rfl) (by decide) (by decide) (fun x hx => by
        obtain ⟨p, _, rfl⟩ := List.mem_map.1 hx
        exact enI_enc 8 p.1 p.2) (by rw [List.length_map]; omega)
      rw [List.length_map] at h2
      exact ⟨l, h1, by omega⟩) (by simp)
  exact ⟨l, h1, Nat.le_trans h2 (by simp)⟩
def lbB (v e : Int) (es : List (Int × Int)) : List Int := (enc 12 (lbI v e es)).getD []
theorem lbB_enc (v e : Int) (es : List (Int × Int)) (h : es.length ≤ 20) : enc 12 (lbI v e es) = some (lbB v e es) ∧ (lbB v e es).length ≤ 5000 := by
  obtain ⟨l, h1, h2⟩ := lbI_enc v e es h
  have : lbB v e es = l := by unfold lbB; rw [h1]; rfl
  rw [this]
  exact ⟨h1, h2⟩

end Go.Proofs.Ytlcojjcgaibbiaa
