import Derived.Test.YtmggaegjfkpjoaaSA7
import Derived.Test.YtmggaegjfkpjoaaTS2
namespace Go.Proofs.Ytmggaegjfkpjoaa
open Go.RowKit

theorem lawSignAny_all (sc x h n : Int) (a : Option Addr) (nn c : Nat) (ms : List Int) (w : World) (hx : U64 x) (hr : Row w a nn ms) (hmax : nn ≤ 9223372036854775807) :
    Calls Try.prog 5 #[scv sc x h n, .slice a nn c] w fun e w' => e = .returned (.bool true) ∧ Below w.heap.size w w' :=
  lawSignAny_walk (fun seed h next am n c bs w hx hr hn => specTreeSign_any seed h next am n c bs w hx hr hn) sc x h n a nn c ms w hx hr hmax

end Go.Proofs.Ytmggaegjfkpjoaa
