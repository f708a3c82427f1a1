import Derived.Test.YtjkkokjojaknkaaDoorFB
import Derived.ProofKit
import Derived.Deep.Slices
import Derived.ChangeArms
namespace Go.Proofs.YtjkkokjojaknkaaDoor
open Go.RowKit Go.ChangeShapes Go.WideShapes

theorem Kids.more {d : Nat} : ∀ {w : World} {a : Option Addr} {n : Nat} {xs : List It}, Kids d w a n xs → Kids (d + 1) w a n xs := by
  induction d with
  | zero => intro _ _ _ _ h; exact h.elim
  | succ d ih =>
    intro w a n xs h
    refine ⟨h.1, h.2.1, fun k hk => ?_⟩
    obtain ⟨b, off, ha, hlt, ab, nb, cb, ak, nk, ck, c0, c1, c2, c3, c4, hr, hn, hm, hk⟩ := h.2.2 k hk
    exact ⟨b, off, ha, hlt, ab, nb, cb, ak, nk, ck, c0, c1, c2, c3, c4, hr, hn, hm, ih hk⟩
theorem Kids.le {d d' : Nat} (hd : d ≤ d') {w : World} {a : Option Addr} {n : Nat} {xs : List It} (h : Kids d w a n xs) : Kids d' w a n xs := by
  induction hd with
  | refl => exact h
  | step _ ih => exact ih.more

theorem open_row {H : Type} {enc : TypeId × Value → H} {W : World} {fuel : Nat} {cs : List Value} {x : DataW H × List MemPlace} (h : DataW.trod enc Tryd.prog W 0 (fun _ => true) true fuel 22 cs = some x) :
    ∃ a n cap bs, cs = [.slice a n cap] ∧ Row W a n bs ∧ (a = none → cap = 0) ∧ n ≤ 9223372036854775807 := by
  rcases open_ints Tryd.underlying22 Tryd.underlying5 (by kernel_rfl) h with ⟨rfl, _⟩ | ⟨a, len, cap, zs, rfl, _, hl, hm, hz, _, hc, hw⟩
  · have hr : IsRow .u8 W none 0 0 [] := .inl ⟨rfl, rfl, rfl, rfl⟩
    exact ⟨none, 0, 0, _, rfl, hr.row.1, fun _ => rfl, by decide⟩
  · have hr : IsRow .u8 W (some a) len cap zs := .inr ⟨a, rfl, hl, hm, by simpa using hz, hc, hw⟩
    exact ⟨some a, len, cap, _, rfl, hr.row.1, hr.nil, by have := hr.cap; omega⟩

/-- What an item's argument reads as. -/
def Opens (W : World) (d : Nat) (y : It) (cs : List Value) : Prop := ∃ ab nb cb ak nk ck, cs = [.int .i64 y.cls, .int .i64 y.tag, .bool y.cons, .slice ab nb cb, .slice ak nk ck] ∧ Row W ab nb y.body ∧ (ab = none → cb = 0) ∧ nb ≤ 9223372036854775807 ∧ Kids d W ak nk y.kids

def OpensS (W : World) (d : Nat) (cs : List Value) : Prop := ∃ a n cap xs, cs = [.slice a n cap] ∧ Kids d W a n xs

end Go.Proofs.YtjkkokjojaknkaaDoor
