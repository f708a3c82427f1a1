import Derived.Test.YtkdandggklpppaaGreatDoorFE07
set_option maxRecDepth 10000
set_option maxHeartbeats 8000000
set_option linter.unusedVariables false
namespace Go.Proofs.YtkdandggklpppaaGreatDoor
open Go.RowKit
def alikeP (x y:PT):Prop:=x.attr=y.attr∧FS x.val=FS y.val
def underP (xs ys:List PT):Prop:=nameP xs∧nameP ys∧ys.length≤xs.length∧∀ k,k<ys.length→alikeP (xs.getD k default) (ys.getD k default)
end Go.Proofs.YtkdandggklpppaaGreatDoor
