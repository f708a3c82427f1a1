import Derived.Test.YtdahihomjpiiaaaGreatTTB
namespace Go.Proofs.YtdahihomjpiiaaaGreat
open Go.RowKit

theorem wayUp_v (seed h next : Int) (N L : Nat) (l : Int) (w : World) (hx : U64 seed) (hN : HN h N) (hL : L < N) (hl : (L : Int) = l) (v : Int) (H : Nat) (hv : (lev (leavesN seed N) h.toNat).getD 0 0 = v) (hH : h.toNat = H) :
    Calls Tryz.prog 126 #[.int .i64 N, .int .i64 l, .func (Fn.func 127) #[.agg #[.int .u64 seed, .int .i64 h, .int .i64 next]] #[]] w fun e w' => ∃ ap cp, e = .returned (.tuple #[.int .u64 v, .slice ap H cp]) ∧ Hid (OwnU w.heap.size w' ap H cp (pathN (leavesN seed N) L H)) ∧ Below w.heap.size w w' := by
  have h1 := wayUp_any seed h next N L w hx hN hL
  rw [hv, hH, hl] at h1
  exact h1

end Go.Proofs.YtdahihomjpiiaaaGreat
