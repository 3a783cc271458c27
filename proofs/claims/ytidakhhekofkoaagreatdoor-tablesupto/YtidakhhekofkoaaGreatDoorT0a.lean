namespace Go.Proofs.YtidakhhekofkoaaGreatDoor
theorem zo{p:Prop}(h:p:=by omega):p:=h
theorem zd{p:Prop}(h:p:=by decide):p:=h
theorem zs{p:Prop}(h:p:=by simp;omega):p:=h
theorem zp{p:Prop}(h:p:=by simp):p:=h
theorem zf{p:Prop}(h:p:=by rfl):p:=h
theorem zv{p:Prop}(h:p:=by trivial):p:=h
theorem za{p:Prop}(h:p:=by simp_all):p:=h
end Go.Proofs.YtidakhhekofkoaaGreatDoor
