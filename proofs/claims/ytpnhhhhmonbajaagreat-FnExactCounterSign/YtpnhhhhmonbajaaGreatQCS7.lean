import Derived.Test.YtpnhhhhmonbajaaGreatMCc
import Derived.Test.YtpnhhhhmonbajaaGreatQTS2
namespace Go.Proofs.YtpnhhhhmonbajaaGreat
open Go.RowKit

theorem lawCounterSign_all (D : Nat) (am : Option Addr) (nn cm : Nat) (ws : List Int) (a : Option Addr) (n c : Nat) (xs : List ItT) (i at2 sc x h nx : Int) (w : World) (hr : Row w am nn ws) (hnn : nn ≤ 9223372036854775807) (hk : KidsT D w a n xs) (hi : -9223372036854775808 ≤ i ∧ i ≤ 9223372036854775807) (hx : U64 x) :
    Calls Tryz.prog 3 #[.agg #[.slice am nn cm, .slice a n c], .int .i64 i, .int .i64 at2, .agg #[.int .i64 sc, .int .u64 x, .int .i64 h, .int .i64 nx]] w fun e w' => e = .returned (.bool true) ∧ Below w.heap.size w w' :=
  lawCounterSign_walk (fun seed h next am n c bs w hx hr hn => specTreeSign_any seed h next am n c bs w hx hr hn) D am nn cm ws a n c xs i at2 sc x h nx w hr hnn hk hi hx

end Go.Proofs.YtpnhhhhmonbajaaGreat

