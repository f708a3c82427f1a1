import Derived.Test.YtddopoadpbbpoaaTS2
import Derived.Test.YtddopoadpbbpoaaTS5
namespace Go.Proofs.Ytddopoadpbbpoaa
open Go.RowKit

theorem lawTreeSign_all (seed h next : Int) (a : Option Addr) (n c : Nat) (bs : List Int) (w : World) (hx : U64 seed) (hr : Row w a n bs) (hmax : n ≤ 9223372036854775807) :
    Calls Try.prog 3 #[tkv seed h next, .slice a n c] w fun e w' => e = .returned (.bool true) ∧ Below w.heap.size w w' :=
  lawTreeSign_walk (fun seed h next am n c bs w hx hr hn => specTreeSign_any seed h next am n c bs w hx hr hn) seed h next a n c bs w hx hr hmax

end Go.Proofs.Ytddopoadpbbpoaa
