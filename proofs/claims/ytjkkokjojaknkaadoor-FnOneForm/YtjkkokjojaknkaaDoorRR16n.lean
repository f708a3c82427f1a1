import Derived.Test.YtjkkokjojaknkaaDoorRR16a
import Derived.Test.YtjkkokjojaknkaaDoorRR16b
import Derived.Test.YtjkkokjojaknkaaDoorRR16c
import Derived.Test.YtjkkokjojaknkaaDoorRR16d
namespace Go.Proofs.YtjkkokjojaknkaaDoor
open Go.RowKit

theorem sitemC_next (RB : Nat) (lax : Bool) (bs : List Int) (n cap : Nat) (a : Option Addr) (hn : n ≤ 20000) (hcap : n ≤ cap) (r : Nat) (hr : r + 1 ≤ 12) (IH : SItemC RB lax bs n cap a r) : SItemC RB lax bs n cap a (r + 1) := by
  intro p e pl w h hin hbx hpe0 he
  rcases kind_range lax bs p e with hk | hk | hk | hk
  · exact sitemC_k0 RB lax bs n cap a hn hcap r hr IH p e pl w hk h hin hbx hpe0 he
  · exact sitemC_k1 RB lax bs n cap a hn hcap r hr IH p e pl w hk h hin hbx hpe0 he
  · exact sitemC_k2 RB lax bs n cap a hn hcap r hr IH p e pl w hk h hin hbx hpe0 he
  · exact sitemC_k3 RB lax bs n cap a hn hcap r hr IH p e pl w hk h hin hbx hpe0 he

end Go.Proofs.YtjkkokjojaknkaaDoor
