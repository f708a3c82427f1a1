import Derived.Test.YtglmaoigjnoklaaF8k1
import Derived.Test.YtglmaoigjnoklaaF8k2
import Derived.Test.YtglmaoigjnoklaaF8k3
import Derived.Test.YtglmaoigjnoklaaF8k4
import Derived.Test.YtglmaoigjnoklaaF8k5
import Derived.Test.YtglmaoigjnoklaaF8k6
import Derived.Test.YtglmaoigjnoklaaF8k7
import Derived.Test.YtglmaoigjnoklaaF8k8
import Derived.Test.YtglmaoigjnoklaaF8k9
namespace Go.Proofs.Ytglmaoigjnoklaa
open Go.RowKit

theorem spanOf_any (xs : List ST) (aL : Option Addr) (n cL : Nat) (x : ST) (a : Option Addr) (nk ck g cg : Nat) (L : Nat → Sp) (w : World) (hL : Sts w aL n xs) (hr : Row64 w a nk x.kids) (hx : fieldsP x) (hg : SpRow w g n L) (hok : ∀ i, (L i).ok 1000000000000000) (hin : ∀ k, k < nk → 0 ≤ x.kids.getD k 0 ∧ x.kids.getD k 0 < n) :
    Calls Try.prog 36 #[.slice aL n cL, stv x a nk ck, .slice (some ⟨g, 0, none⟩) n cg] w fun e w' => e = .returned (spv (spanP xs L x)) ∧ Below w.heap.size w w' := by
  have hall : x.kind = 1 ∨ x.kind = 2 ∨ x.kind = 3 ∨ x.kind = 4 ∨ x.kind = 5 ∨ x.kind = 6 ∨ x.kind = 7 ∨ x.kind = 8 ∨ x.kind = 9 := by unfold fieldsP at hx; omega
  rcases hall with hk | hk | hk | hk | hk | hk | hk | hk | hk
  · exact spanOf_1 xs aL n cL x a nk ck g cg L w hL hr hx hk hg hok hin
  · exact spanOf_2 xs aL n cL x a nk ck g cg L w hL hr hx hk hg hok hin
  · exact spanOf_3 xs aL n cL x a nk ck g cg L w hL hr hx hk hg hok hin
  · exact spanOf_4 xs aL n cL x a nk ck g cg L w hL hr hx hk hg hok hin
  · exact spanOf_5 xs aL n cL x a nk ck g cg L w hL hr hx hk hg hok hin
  · exact spanOf_6 xs aL n cL x a nk ck g cg L w hL hr hx hk hg hok hin
  · exact spanOf_7 xs aL n cL x a nk ck g cg L w hL hr hx hk hg hok hin
  · exact spanOf_8 xs aL n cL x a nk ck g cg L w hL hr hx hk hg hok hin
  · exact spanOf_9 xs aL n cL x a nk ck g cg L w hL hr hx hk hg hok hin

end Go.Proofs.Ytglmaoigjnoklaa
