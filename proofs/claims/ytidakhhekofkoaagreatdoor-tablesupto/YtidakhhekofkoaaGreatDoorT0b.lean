import Derived.KernelRfl
import Derived.Test.YtidakhhekofkoaaGreatDoorT0a
set_option linter.all false
namespace Go.Proofs.YtidakhhekofkoaaGreatDoor
theorem zk{p:Prop}(h:p:=by kernel_rfl):p:=h
end Go.Proofs.YtidakhhekofkoaaGreatDoor
