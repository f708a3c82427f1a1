import Derived.Test.YtlcojjcgaibbiaaW3
import Derived.Test.YtlcojjcgaibbiaaW4
import Derived.Test.YtlcojjcgaibbiaaWApp
namespace Go.Proofs.Ytlcojjcgaibbiaa
open Go.RowKit

/-- A row of rows of bytes. -/
structure Rows2 (w : World) (a : Option Addr) (n : Nat) (bss : List (List Int)) : Prop where
  len : bss.length = n
  get : ∀ k, k < n → ∃ b off, a = some ⟨b, off, none⟩ ∧ b < w.heap.size ∧ ∃ ak nk ck, w.cell? ⟨b, off + k, none⟩ = some (.slice ak nk ck) ∧ Row w ak nk (bss.getD k []) ∧ (ak = none → ck = 0)

theorem Rows2.kept {w w' : World} {a : Option Addr} {n : Nat} {bss : List (List Int)} (h : Rows2 w a n bss) (hb : Below w.heap.size w w') : Rows2 w' a n bss := by
  refine ⟨h.len, fun k hk => ?_⟩
  obtain ⟨b, off, ha, hlt, ak, nk, ck, hc, hr, hn⟩ := h.get k hk
  exact ⟨b, off, ha, Nat.lt_of_lt_of_le hlt hb.size, ak, nk, ck, (hb.cell (p := ⟨b, off + k, none⟩) hlt).trans hc, hr.kept hb, hn⟩

def total (bss : List (List Int)) : Nat := (bss.map List.length).sum
def encParts (bss : List (List Int)) : List Int := bss.flatMap fun p => putN p.length ++ p
def partsL (bss : List (List Int)) : List Int := putN bss.length ++ encParts bss

theorem encParts_nil : encParts [] = [] := rfl
theorem encParts_append (a b : List (List Int)) : encParts (a ++ b) = encParts a ++ encParts b := by simp [encParts, List.flatMap_append]
theorem encParts_next (bss : List (List Int)) (k : Nat) (h : k < bss.length) : encParts (bss.take (k + 1)) = encParts (bss.take k) ++ (putN (bss.getD k []).length ++ bss.getD k []) := by
  have e : bss.getD k [] = bss[k] := by simp [h]
  rw [List.take_succ_eq_append_getElem h, encParts_append, e]
  simp [encParts]
theorem total_take (bss : List (List Int)) (k : Nat) : total (bss.take k) ≤ total bss := by
  have : total bss = total (bss.take k) + total (bss.drop k) := by
    unfold total
    rw [← List.sum_append, ← List.map_append, List.take_append_drop]
  omega
theorem total_split (bss : List (List Int)) (k : Nat) (h : k < bss.length) : total (bss.take (k + 1)) = total (bss.take k) + (bss.getD k []).length := by
  have e : bss.getD k [] = bss[k] := by simp [h]
  rw [List.take_succ_eq_append_getElem h, e]
  unfold total
  rw [List.map_append, List.sum_append]
  rfl
theorem part_le (bss : List (List Int)) (k : Nat) (h : k < bss.length) {t : Nat} (ht : total bss ≤ t) : (bss.getD k []).length ≤ t := by
  have h1 := total_split bss k h
  have h2 := total_take bss (k + 1)
  omega
theorem encParts_len1 (bss : List (List Int)) (h : ∀ p ∈ bss, p.length < 9223372036854775808) : (encParts bss).length ≤ 9 * bss.length + total bss := by
  induction bss with
  | nil => simp [encParts, total]
  | cons p r ih =>
    have h1 := ih (fun x hx => h x (List.mem_cons_of_mem _ hx))
    have h2 : (putN p.length).length ≤ 9 := by rw [putN, putL_len]; exact cnt_le _ (h p List.mem_cons_self)
    have e : encParts (p :: r) = putN p.length ++ p ++ encParts r := rfl
    have e2 : total (p :: r) = p.length + total r := by simp [total]
    rw [e, e2, List.length_append, List.length_append, List.length_cons]; omega
theorem encParts_len (bss : List (List Int)) (k n : Nat) (hl : bss.length = n) (ht : total bss ≤ 2097152) : (encParts (bss.take k)).length ≤ 9 * n + 2097152 := by
  have h1 := encParts_len1 (bss.take k) (fun p hp => by
    obtain ⟨i, hi, rfl⟩ := List.getElem_of_mem (List.mem_of_mem_take hp)
    have := part_le bss i hi ht
    simp [hi] at this
    omega)
  have h2 := total_take bss k
  have h3 : (bss.take k).length ≤ n := by rw [List.length_take]; omega
  omega

end Go.Proofs.Ytlcojjcgaibbiaa
