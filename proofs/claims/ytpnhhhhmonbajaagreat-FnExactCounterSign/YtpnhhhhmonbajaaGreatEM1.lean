import Derived.Test.YtpnhhhhmonbajaaGreatTT4
import Derived.Test.YtpnhhhhmonbajaaGreatWXor
namespace Go.Proofs.YtpnhhhhmonbajaaGreat
open Go.RowKit

def alX : List Int := [97, 108, 103]
theorem alX_byte : ∀ k, 0 ≤ alX.getD k 0 ∧ alX.getD k 0 ≤ 255 := bytes_of_all (by decide)
def tgX : List Int := [116, 97, 103]
theorem tgX_byte : ∀ k, 0 ≤ tgX.getD k 0 ∧ tgX.getD k 0 ≤ 255 := bytes_of_all (by decide)
def smX : List Int := [115, 116, 114, 101, 97, 109]
theorem smX_byte : ∀ k, 0 ≤ smX.getD k 0 ∧ smX.getD k 0 ≤ 255 := bytes_of_all (by decide)
def psX : List Int := [112, 97, 115, 115]
theorem psX_byte : ∀ k, 0 ≤ psX.getD k 0 ∧ psX.getD k 0 ≤ 255 := bytes_of_all (by decide)
def wrX : List Int := [119, 114, 97, 112]
theorem wrX_byte : ∀ k, 0 ≤ wrX.getD k 0 ∧ wrX.getD k 0 ≤ 255 := bytes_of_all (by decide)
def ctX : List Int := [99, 111, 110, 116, 101, 110, 116]
theorem ctX_byte : ∀ k, 0 ≤ ctX.getD k 0 ∧ ctX.getD k 0 ≤ 255 := bytes_of_all (by decide)
/-- The digest of three parts. -/
def triN (a b c : List Int) : Int := hashL (partsL [a, b, c])
theorem triN_bd (a b c : List Int) : U64 (triN a b c) := hashL_bd _
theorem tri_total (a b c : List Int) (h : a.length + b.length + c.length ≤ 2097152) : total [a, b, c] ≤ 2097152 := by unfold total; simp; omega
theorem tri_rows (X : World) (T : Nat) (a1 : Option Addr) (n1 c1 : Nat) (p1 : List Int) (a2 : Option Addr) (n2 c2 : Nat) (p2 : List Int) (a3 : Option Addr) (n3 c3 : Nat) (p3 : List Int) (h1 : Row X a1 n1 p1) (e1 : a1 = none → c1 = 0) (h2 : Row X a2 n2 p2) (e2 : a2 = none → c2 = 0) (h3 : Row X a3 n3 p3) (e3 : a3 = none → c3 = 0) :
    Rows2 (X.alloc (.cells #[.slice a1 n1 c1, .slice a2 n2 c2, .slice a3 n3 c3] T)) (some ⟨X.heap.size, 0, none⟩) 3 [p1, p2, p3] := by
  refine rows2_lit X [(a1, n1, c1, p1), (a2, n2, c2, p2), (a3, n3, c3, p3)] T ?_
  intro p hp
  simp only [List.mem_cons, List.not_mem_nil, or_false] at hp
  rcases hp with rfl | rfl | rfl
  · exact ⟨h1, e1⟩
  · exact ⟨h2, e2⟩
  · exact ⟨h3, e3⟩
def dgN (alg : Int) (bs : List Int) : Int := triN alX (putI alg) bs
def dgR (alg : Int) (bs : List Int) : Int := if 1 ≤ alg ∧ alg ≤ 9 then dgN alg bs else 0
def tagN (k : Int) (bs : List Int) : Int := triN tgX (eightI k) bs

end Go.Proofs.YtpnhhhhmonbajaaGreat
