set_option linter.all false
namespace Go.Proofs.YtidakhhekofkoaaGreatDoor
def zo{p:Prop}(h:p:=by omega):p:=h
def zd{p:Prop}(h:p:=by decide):p:=h
def zs{p:Prop}(h:p:=by simp;omega):p:=h
def zp{p:Prop}(h:p:=by simp):p:=h
def zf{p:Prop}(h:p:=by rfl):p:=h
def zv{p:Prop}(h:p:=by trivial):p:=h
def za{p:Prop}(h:p:=by simp_all):p:=h
end Go.Proofs.YtidakhhekofkoaaGreatDoor
