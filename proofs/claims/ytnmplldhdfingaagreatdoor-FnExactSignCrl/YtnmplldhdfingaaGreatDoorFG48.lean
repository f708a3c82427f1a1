import Derived.Test.YtnmplldhdfingaaGreatDoorLSignCrlFG
import Derived.Test.YtnmplldhdfingaaGreatDoorFG47
set_option maxRecDepth 10000
set_option maxHeartbeats 8000000
set_option linter.unusedVariables false
namespace Go.Proofs.YtnmplldhdfingaaGreatDoor
open Go.RowKit
theorem lawSignCrl_all (a1 : Option Addr) (n1 c1 : Nat) (a2 : Option Addr) (n2 c2 : Nat) (a3 : Option Addr) (n3 c3 : Nat) (x : CP) (sc kk hh nx : Int) (w : World) (htab : Lib.TabIs Tryz.prog w "internal/strconv.uint64pow10" .u64 Lib.pow10Tab) (hsc : -9223372036854775808 ≤ x.scope ∧ x.scope ≤ 9223372036854775807) (hu : U64 kk) (h : Crs w a1 n1 a2 n2 a3 n3 x) :
  Calls Tryz.prog 3 #[crv a1 n1 c1 a2 n2 c2 a3 n3 c3 x,.agg #[.int .i64 sc,.int .u64 kk,.int .i64 hh,.int .i64 nx]] w fun e w'=>e=.returned (.bool true)∧Below w.heap.size w w' :=
 lawSignCrl_walk (fun seed h next am n c bs w hx hr hn=>specTreeSign_any seed h next am n c bs w hx hr hn) a1 n1 c1 a2 n2 c2 a3 n3 c3 x sc kk hh nx w htab hsc hu h
end Go.Proofs.YtnmplldhdfingaaGreatDoor
