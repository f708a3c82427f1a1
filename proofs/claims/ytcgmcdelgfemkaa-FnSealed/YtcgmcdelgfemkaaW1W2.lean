import Derived.Test.YtcgmcdelgfemkaaProg
import Derived.Test.YtcgmcdelgfemkaaBase
import Derived.WalkKit
import Derived.WalkSpells
import Derived.WalkLawsBesides
import Derived.Deep.QuietTactic
import Derived.BigQuiet
namespace Go.Proofs.Ytcgmcdelgfemkaa
open Go.RowKit

theorem take_next {xs ys : List Int} {k : Nat} (h : xs.take k = ys.take k) (e : xs.getD k 0 = ys.getD k 0) (hx : k < xs.length) (hy : k < ys.length) : xs.take (k + 1) = ys.take (k + 1) := by
  rw [List.take_succ_eq_append_getElem hx, List.take_succ_eq_append_getElem hy, h]
  simp [hx, hy] at e
  rw [e]
theorem take_whole {xs ys : List Int} {k : Nat} (h : xs.take k = ys.take k) (hx : xs.length ≤ k) (hy : ys.length ≤ k) : xs = ys := by
  rwa [List.take_of_length_le hx, List.take_of_length_le hy] at h


theorem Try.info5 : (Try.prog.info? 5).map (fun i => (i.zero, i.size, i.bytes)) = some (some (.int .u8 0), 1, 1) := by kernel_rfl

end Go.Proofs.Ytcgmcdelgfemkaa

namespace Go.Proofs.Ytcgmcdelgfemkaa
open Go.RowKit

/-- What markByteS writes: the numbers from k on, as bytes. -/
def marks (k n : Nat) : List Int := (List.range n).map fun i => ((k + i : Nat) : Int) % 256

theorem marks_len (k n : Nat) : (marks k n).length = n := by simp [marks]
theorem marks_get (k n i : Nat) (h : i < n) : (marks k n).getD i 0 = ((k + i : Nat) : Int) % 256 := by simp [marks, h]
theorem marks_byte (k n : Nat) : ∀ i, 0 ≤ (marks k n).getD i 0 ∧ (marks k n).getD i 0 ≤ 255 := by
  intro i
  by_cases h : i < n
  · rw [marks_get k n i h]; omega
  · rw [List.getD_eq_getElem?_getD, List.getElem?_eq_none (by rw [marks_len]; omega)]; simp
theorem marks_succ (k n : Nat) : marks k (n + 1) = marks k n ++ [((k + n : Nat) : Int) % 256] := by simp [marks, List.range_succ]

def mkd (bs : List Int) (k j : Nat) : List Int := marks k j ++ bs.drop j
theorem mkd_zero (bs : List Int) (k : Nat) : mkd bs k 0 = bs := by simp [mkd, marks]
theorem mkd_all (bs : List Int) (k : Nat) : mkd bs k bs.length = marks k bs.length := by simp [mkd]
theorem mkd_set (bs : List Int) (k j : Nat) (h : j < bs.length) : (mkd bs k j).set j (((k + j : Nat) : Int) % 256) = mkd bs k (j + 1) := by
  unfold mkd
  rw [List.drop_eq_getElem_cons h, set_append_mid _ _ _ _ _ (marks_len k j), marks_succ, List.append_assoc]
  rfl
theorem mkd_len (bs : List Int) (k j : Nat) (h : j ≤ bs.length) : (mkd bs k j).length = bs.length := by simp [mkd, marks_len]; omega

theorem grown_trans {a b c : World} {r : Option Nat} (h : a.grownBy b r) (k : b.grownBy c r) : a.grownBy c r :=
  ⟨k.os.trans h.os, k.tape.trans h.tape, k.output.trans h.output, Nat.le_trans h.size k.size, fun i hi hr => (k.block i (Nat.lt_of_lt_of_le hi h.size) hr).trans (h.block i hi hr)⟩

/-- What lies below a row of our own reads on while that row is written. -/
theorem Row.grown {B : Nat} {w w' : World} {a a' : Option Addr} {n n' cap' : Nat} {bs bs' : List Int} (h : Row w a n bs) (hlt : ∀ b off, a = some ⟨b, off, none⟩ → 0 < n → b < B) (ho : Own B w a' n' cap' bs') (hg : w.grownBy w' (Value.slice a' n' cap').ownBlock) : Row w' a n bs := by
  refine ⟨h.len, fun k hk => ?_, h.byte⟩
  obtain ⟨b, off, ha, hb, hc⟩ := h.get k hk
  refine ⟨b, off, ha, Nat.lt_of_lt_of_le hb hg.size, hg.cell hc ?_⟩
  intro e
  have h1 := hlt b off ha (by omega)
  have h2 := (ho.row.lt b e.symm).1
  omega

theorem Row.under {B : Nat} {w : World} {a : Option Addr} {n : Nat} {bs : List Int} (h : Row w a n bs) (hB : w.heap.size ≤ B) : ∀ b off, a = some ⟨b, off, none⟩ → 0 < n → b < B := by
  intro b off ha hn
  obtain ⟨b', off', ha', hb, _⟩ := h.get 0 hn
  rw [ha'] at ha
  simp at ha
  omega

end Go.Proofs.Ytcgmcdelgfemkaa
