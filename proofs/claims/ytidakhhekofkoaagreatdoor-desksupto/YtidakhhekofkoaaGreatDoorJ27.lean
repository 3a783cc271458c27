/- The law's markTexts. -/
import Derived.Test.YtidakhhekofkoaaGreatDoorJ22
import Derived.Test.YtidakhhekofkoaaGreatDoorJ01
import Derived.Deep.RegionHeld
import Derived.Deep.AppendLies
import Derived.Lib.AppendIntMem
set_option linter.unusedSimpArgs false
set_option linter.unusedVariables false
namespace Go.Proofs.YtidakhhekofkoaaGreatDoor
open Go.RowKit Go.Deep
def LWd (w:World) (lb:Nat) (dk:Value) (M:Nat) (tx ix rx wt et wb eb:Value):Prop:=w.heap[lb]? =some (.cells #[dk,.int .i64 (M:Int),tx,ix,rx,wt,et,wb,eb] 71 (0,0))
theorem owns_set {w:World} {base e n cap g:Nat} {xs:List Value} (h:w.ownsRow base e 1 (.slice (some ⟨g,0,none⟩) n cap) n xs) (i:Nat) (v:Value):(w.setCell ⟨g,i,none⟩ v).ownsRow base e 1 (.slice (some ⟨g,0,none⟩) n cap) n (xs.set i v):=by
 obtain ⟨hl,⟨hv,_⟩|⟨g',cap',cur,hv,hg,hrow,hle,hcap,hcs,htake⟩⟩:=h
 ·cases hv
 ·cases hv
  refine ⟨by simp [hl],Or.inr ⟨g,cap,cur.setIfInBounds i v,rfl,hg,blk_set hrow i v,hle,hcap,by simp [hcs], ?_⟩⟩
  rw [Array.toList_setIfInBounds,List.take_set,htake]
def AFt (w:World) (b q:Nat) (v:Value) (e:Nat):Prop:=AF w b q v∧TyAt w b e
theorem AFt.same {w w':World} {b q e:Nat} {v:Value} (h:AFt w b q v e) (hb:w'.heap[b]? =w.heap[b]?):AFt w' b q v e:=by
 refine ⟨fun i hi=> ?_, ?_⟩
 ·have:=h.1 i hi
  unfold World.cell? at this⊢
  simp only [hb];exact this
 ·obtain ⟨c,m,hc⟩:=h.2
  exact ⟨c,m,hb.trans hc⟩
theorem AFt.lt {w:World} {b q e:Nat} {v:Value} (h:AFt w b q v e):b<w.heap.size:=by obtain ⟨c,m,hc⟩:=h.2;exact lt_of_blk hc
theorem AFt.later {w w':World} {b q e:Nat} {v:Value} (h:AFt w b q v e) (hb:Below w.heap.size w w'):AFt w' b q v e:=h.same (hb.block _ h.lt)
theorem AFt.mk {w w':World} {b q e N:Nat} {v l:Value} (h:AFt w b q v e) (hm:MkF l v N e w w') (hq:q≤N):AFt w' b q v e:=⟨hm.af b q h.lt hq h.1,hm.ty b h.2⟩
theorem AFt.set {w:World} {b q e c ty o:Nat} {v u:Value} {cs:Array Value} {m:Nat × Nat} (h:AFt w b q v e) (hc:w.heap[c]? =some (.cells cs ty m)) (hne:ty≠e):AFt (w.setCell ⟨c,o,none⟩ u) b q v e:=by
 refine h.same (Below.heap_setCell _ _ _ _ ?_)
 show b≠c
 rintro rfl
 obtain ⟨c',m',h'⟩:=h.2
 rw [hc] at h'
 cases h'
 exact hne rfl
theorem AFt.grown {w w':World} {b q e base e' size n:Nat} {v r:Value} {xs:List Value} (h:AFt w b q v e) (ho:w.ownsRow base e' size r n xs) (hg:w.grownBy w' r.ownBlock) (hne:e≠e'):AFt w' b q v e:=by
 refine h.same (hg.block b h.lt (fun e1=> ?_))
 obtain ⟨c,m,hc⟩:=h.2
 exact own_ty ho e1.symm hc hne
theorem AFt.allM {w:World} {b q:Nat} {v:Value} {e c:Nat} (h:AFt w b q v e) (hq:q≤10000000000000):AllM w (.slice (some ⟨b,0,none⟩) q c) v e:=⟨_,_,_,rfl,hq,fun i hi=>⟨b,rfl,h.2,h.1 i hi⟩⟩
structure FrM (lb:Nat) (l tx:Value) (w w':World):Prop where
 os:w'.os=w.os
 tape:w'.tape=w.tape
 output:w'.output=w.output
 size:w.heap.size≤w'.heap.size
 block: ∀k,k<w.heap.size→k≠lb→l.ownBlock≠some k→tx.ownBlock≠some k→w'.heap[k]? =w.heap[k]?
structure MS (w W:World) (lb:Nat) (dk:Value) (M:Nat) (to_:Option Addr) (tn tc:Nat) (ix rx wt et wb eb:Value) (C:List Value) (B0 base:Nat) (l:Value) (n:Nat) (ys:List Value):Prop where
 lw:LWd W lb dk M (.slice to_ tn tc) ix rx wt et wb eb
 bk:W.ownsRow B0 118 5 (.slice to_ tn tc) tn C
 ls:W.ownsRow base 9 1 l n ys
 fr:FrM lb l (.slice to_ tn tc) w W
section
variable {w W W' : World} {lb : Nat} {dk : Value} {M : Nat} {to_ : Option Addr} {tn tc : Nat} {ix rx wt et wb eb : Value} {C : List Value} {B0 base : Nat} {l : Value} {n : Nat} {ys : List Value}
theorem MS.later (h:MS w W lb dk M to_ tn tc ix rx wt et wb eb C B0 base l n ys) (hb:Below W.heap.size W W'):MS w W' lb dk M to_ tn tc ix rx wt et wb eb C B0 base l n ys:=
 ⟨(hb.block _ (lt_of_blk h.lw)).trans h.lw,owns_later h.bk hb,owns_later h.ls hb,⟨hb.os.trans h.fr.os,hb.tape.trans h.fr.tape,hb.output.trans h.fr.output,Nat.le_trans h.fr.size hb.size,fun k h1 h2 h3 h4=>(hb.block k (Nat.lt_of_lt_of_le h1 h.fr.size)).trans (h.fr.block k h1 h2 h3 h4)⟩⟩
theorem MS.setM (h:MS w W lb dk M to_ tn tc ix rx wt et wb eb C B0 base l n ys) (z:Int) (M':Nat) (hz:z=(M':Int)):MS w (W.setCell ⟨lb,1,none⟩ (.int .i64 z)) lb dk M' to_ tn tc ix rx wt et wb eb C B0 base l n ys:=by
 subst hz
 refine ⟨blk_set h.lw 1 _,owns_keep h.bk (grown_set _ _ _ _) (Or.inr (fun e=>own_ty h.bk e h.lw (by decide))),owns_keep h.ls (grown_set _ _ _ _) (Or.inr (fun e=>own_ty h.ls e h.lw (by decide))),⟨h.fr.os,h.fr.tape,h.fr.output,by simpa [World.setCell] using h.fr.size,fun k h1 h2 h3 h4=>(Below.heap_setCell _ _ _ _ (by show k≠lb;exact h2)).trans (h.fr.block k h1 h2 h3 h4)⟩⟩
theorem MS.setL {g cap:Nat} (h:MS w W lb dk M to_ tn tc ix rx wt et wb eb C B0 base (.slice (some ⟨g,0,none⟩) n cap) n ys) (i:Nat) (v:Value):MS w (W.setCell ⟨g,i,none⟩ v) lb dk M to_ tn tc ix rx wt et wb eb C B0 base (.slice (some ⟨g,0,none⟩) n cap) n (ys.set i v):=by
 have hbl: ∃cur,W.heap[g]? =some (.cells cur 9 (0,0)):=by
  obtain ⟨_,⟨hv,_⟩|⟨g',cap',cur,hv,hg,hrow,_⟩⟩:=h.ls
  ·cases hv
  ·cases hv;exact ⟨cur,hrow⟩
 obtain ⟨cur,hcur⟩:=hbl
 have hne:g≠lb:=by
  rintro rfl
  have:=h.lw
  unfold LWd at this
  rw [hcur] at this
  cases this
 refine ⟨(Below.heap_setCell _ _ _ _ (by show lb≠g;exact fun e=>hne e.symm)).trans h.lw,owns_keep h.bk (grown_set _ _ _ _) (Or.inr (fun e=>own_ty h.bk e hcur (by decide))),owns_set h.ls i v,⟨h.fr.os,h.fr.tape,h.fr.output,by simpa [World.setCell] using h.fr.size,fun k h1 h2 h3 h4=>(Below.heap_setCell _ _ _ _ ?_).trans (h.fr.block k h1 h2 h3 h4)⟩⟩
 show k≠g
 rintro rfl
 exact h3 rfl
theorem MS.mkd {mv:Value} {N:Nat} (h:MS w W lb dk M to_ tn tc ix rx wt et wb eb C B0 base l n (List.replicate n mv)) (hm:MkF l mv N 9 W W') (hN:n≤N):MS w W' lb dk M to_ tn tc ix rx wt et wb eb C B0 base l n (List.replicate n mv):=by
 have hlb:=hm.block lb (lt_of_blk h.lw) (fun e=>own_ty h.ls e h.lw (by decide))
 refine ⟨hlb.trans h.lw, ?_,hm.keeps h.ls hN,⟨hm.os.trans h.fr.os,hm.tape.trans h.fr.tape,hm.output.trans h.fr.output,Nat.le_trans h.fr.size hm.size,fun k h1 h2 h3 h4=>(hm.block k (Nat.lt_of_lt_of_le h1 h.fr.size) h3).trans (h.fr.block k h1 h2 h3 h4)⟩⟩
 obtain ⟨hlen,⟨hv,hn0⟩|⟨g,cap,cur,hv,hg,hrow,hrest⟩⟩:=h.bk
 ·exact ⟨hlen,Or.inl ⟨hv,hn0⟩⟩
 ·refine ⟨hlen,Or.inr ⟨g,cap,cur,hv,hg, ?_,hrest⟩⟩
  exact (hm.block g (lt_of_blk hrow) (fun e=>own_ty h.ls e hrow (by decide))).trans hrow
theorem MS.setB {c ty:Nat} {cs:Array Value} {m:Nat × Nat} (h:MS w W lb dk M to_ tn tc ix rx wt et wb eb C B0 base l n ys) (hc:W.heap[c]? =some (.cells cs ty m)) (hw:w.heap.size≤c) (h1:ty≠71) (h2:ty≠9) (h3:(Value.slice to_ tn tc).ownBlock≠some c) (o:Nat) (v:Value):MS w (W.setCell ⟨c,o,none⟩ v) lb dk M to_ tn tc ix rx wt et wb eb C B0 base l n ys:=by
 have hne:lb≠c:=by
  rintro rfl
  have:=h.lw
  unfold LWd at this
  rw [hc] at this
  cases this
  exact h1 rfl
 refine ⟨(Below.heap_setCell _ _ _ _ (by show lb≠c;exact hne)).trans h.lw,owns_keep h.bk (grown_set _ _ _ _) (Or.inr h3),owns_keep h.ls (grown_set _ _ _ _) (Or.inr (fun e=>own_ty h.ls e hc h2)),⟨h.fr.os,h.fr.tape,h.fr.output,by simpa [World.setCell] using h.fr.size,fun k k1 k2 k3 k4=>(Below.heap_setCell _ _ _ _ (by show k≠c;omega)).trans (h.fr.block k k1 k2 k3 k4)⟩⟩
end
def mkB (M:Nat):ByteArray:=⟨#[109,97,114,107,32]⟩++⟨(Lib.itoa (M:Int)).toArray⟩
end Go.Proofs.YtidakhhekofkoaaGreatDoor
