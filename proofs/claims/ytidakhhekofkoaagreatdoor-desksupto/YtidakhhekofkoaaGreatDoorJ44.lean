/- The reference: points. -/
import Derived.Test.YtidakhhekofkoaaGreatDoorJ32
import Derived.Test.YtidakhhekofkoaaGreatDoorJ33
import Derived.Test.YtidakhhekofkoaaGreatDoorJ41
import Derived.Test.YtidakhhekofkoaaGreatDoorJ42
set_option linter.unusedSimpArgs false
set_option linter.unusedVariables false
namespace Go.Proofs.YtidakhhekofkoaaGreatDoor
open Go.RowKit Go.Deep
theorem Tryz.infoPt:(Tryz.prog.info? 302).map (fun i=>(i.zero,i.size,i.bytes))=some (some (.agg #[.string ⟨#[]⟩,.bool false]),2,24):=by kernel_rfl
def PtQ (L:List Nd) (n:Nat) (w w':World) (e:Ending):Prop:=
 ∃N sb rv l tw lo lc ho hc,e= .returned (.tuple #[.slice lo l.length lc,.slice ho tw.length hc])∧Bfs (ahR L) (List.range n) (p0R L) l.length l tw∧PtP w w' N sb lo lc l ho hc rv tw∧l.length≤131072
theorem PtP.first {V W:World} {N pb sb:Nat} {p:Bool × List Bool} (hb:Below V.heap.size V W) (h1:V.heap.size≤pb) (h2:V.heap.size≤sb) (hp:W.heap[pb]? =some (.cells #[.string (setS p.2),.bool p.1] 302 (0,0))) (hs:W.heap[sb]? =some (.cells (Array.replicate N (.int .i64 0)) 3 (0,0))) (hN:N≤maxLen):
  PtP V (W.setCell ⟨sb,codeP p,none⟩ (.int .i64 1)) N sb (some ⟨pb,0,none⟩) 1 [p] none 0 [] []:=by
 have h0:PtP V W N sb none 0 [] none 0 [] []:=by
  refine ⟨World.ownsRow_nil _ _ _ _,⟨World.ownsRow_nil _ _ _ _, ?_,World.ownsRow_nil _ _ _ _,fun j r hr=>by simp at hr,fun v hv=>by simp at hv,List.Pairwise.nil⟩,hb⟩
  show W.ownsRow _ _ 1 _ (snL N []).length (intC (snL N []))
  rw [snL_len,snL_nil]
  refine ⟨by unfold intC;simp,Or.inr ⟨sb,N,_,rfl,h2,hs,Nat.le_refl _,hN,by simp, ?_⟩⟩
  unfold intC
  simp
 have h3:W.ownsRow V.heap.size 302 2 (.slice (some ⟨pb,0,none⟩) (([]:List (Bool × List Bool)).length+1) 1) (([]:List (Bool × List Bool)).length+1) (ptC []++[.string (setS p.2),.bool p.1]):=
  ⟨rfl,Or.inr ⟨pb,1,_,rfl,h1,hp,Nat.le_refl _,by unfold maxLen;omega,rfl,rfl⟩⟩
 exact (h0.more (RwU.start _ _ _ _) (by rfl) h3 (grown_below (Below.refl _ _) _) rfl).1
set_option maxHeartbeats 8000000 in
set_option maxRecDepth 100000 in
theorem points_any (w:World) (nb B:Nat) (L:List Nd) (T:List Int) (hN:NSx w nb B L T) (hg:AllGood L) (hL:L.length≤16) (n:Nat) (hn:n≤6):
  Calls Tryz.prog 181 #[.pointer (some ⟨nb,0,none⟩),.int .i64 n] w fun e w'=>PtQ L n w w' e:=by
 obtain ⟨N,hNa,hNb⟩: ∃N,N≤131072∧131072≤N:=⟨131072,by omega,by omega⟩
 have hmk: ∀W:World,(Instr.makeSlice 33 (.int .i64 131072) (.int .i64 131072)).run Tryz.prog W= .ok (.slice (some ⟨W.heap.size,0,none⟩) N N) (W.alloc (.cells (Array.replicate N (.int .i64 0)) 3)):=fun W=>by
  have h:=mkInts W N (by omega)
  have e:(N:Int)=131072:=by omega
  rw [e] at h
  exact h
 have HA0:=hide (ahead_end w nb B L T hN hg (by omega) [] false)
 have HN:=hide hN
 have HG:=hide hg
 have hsz0:setS []=⟨#[]⟩:=rfl
 obtain ⟨i0,hi0,hz0,hz1,hz2⟩:=info_parts infoVi
 obtain ⟨r0,hr0,hrz0,hrz1,hrz2⟩:=info_parts infoVr
 obtain ⟨q0,hq0,hqz0,hqz1,hqz2⟩:=info_parts Tryz.infoPt
 clear hN hg
 go_enter Tryz.func181,Tryz.ntmps181
 go_wp2_with fail
 refine (unhide HA0).mono ?_
 rintro e w1 ⟨rfl,hb1⟩
 have HP0:Hid ((true,ptOf [] false false (-1) L)=p0R L):=rfl
 generalize hP0:ptOf [] false false (-1) L=P0 at *
 have hP0l:P0.length=L.length:=by rw [←hP0];exact ptOf_len ..
 have HC:=hide (fun W:World=>code_any W P0 true (by omega))
 clear hP0 HA0
 go_wp2_with fail
 have hbz:Below w1.heap.size w1 ((w1.alloc (.cells #[.string (setS P0),.bool true] 302)).alloc (.cells (Array.replicate N (.int .i64 0)) 3)):=((Below.refl _ _).alloc (Nat.le_refl _) _).alloc (by simp) _
 have hpb:((w1.alloc (.cells #[.string (setS P0),.bool true] 302)).alloc (.cells (Array.replicate N (.int .i64 0)) 3)).heap[w1.heap.size]? =some (.cells #[.string (setS P0),.bool true] 302 (0,0)):=(Below.heap_alloc _ _ _ (by simp)).trans (blk_alloc _ _)
 have hsb:((w1.alloc (.cells #[.string (setS P0),.bool true] 302)).alloc (.cells (Array.replicate N (.int .i64 0)) 3)).heap[w1.heap.size+1]? =some (.cells (Array.replicate N (.int .i64 0)) 3 (0,0)):=blk_alloc' _ _ _ (by simp)
 refine (unhide HC _).mono ?_
 generalize ((w1.alloc (.cells #[.string (setS P0),.bool true] 302)).alloc (.cells (Array.replicate N (.int .i64 0)) 3))=W2 at *
 rintro e w2 ⟨rfl,hb2⟩
 have hcN:codeP (true,P0)<N:=by have:=codeP_lt (true,P0) (n:=16) (by show P0.length≤16;omega);omega
 have hsb2:=(hb2.block _ (lt_of_blk hsb)).trans hsb
 have hb02:Below w.heap.size w w2:=hb1.trans ((hbz.trans (hb2.mono hbz.size)).mono hb1.size)
 have HPP:=hide (PtP.first (V:=w) (W:=w2) (p:=(true,P0)) hb02 hb1.size (by have:=hb1.size;omega) ((hb2.block _ (lt_of_blk hpb)).trans hpb) hsb2 (by unfold maxLen;omega))
 have HBF0:Hid (Bfs (ahR L) (List.range n) (p0R L) 0 [(true,P0)] []):=by show Bfs _ _ _ _ _ _;rw [unhide HP0];exact Bfs.start _ _ _
 have sc:w2.cell? ⟨w1.heap.size+1,codeP (true,P0),none⟩=some (.int .i64 0):=by rw [cell_of_blk hsb2];simp [hcN]
 have sf:=frozen_of_blk hsb2 (codeP (true,P0))
 have sl:=lt_of_blk hsb2
 have hcNi:((codeP (true,P0):Nat):Int)<(N:Int):=by omega
 generalize codeP (true,P0)=c0 at *
 clear hpb hsb hsb2 hbz hb2 hb02 HC hmk
 generalize hsbe:w1.heap.size+1=sb at *
 generalize hpbe:w1.heap.size=pb at *
 clear hsbe hpbe hb1
 go_wp2_with fail
 generalize w2.setCell ⟨sb,c0,none⟩ (.int .i64 1)=W3 at *
 clear sc sf sl hcN hcNi
 go_loopw [6,8,9] (fun y z x wr=> ∃(k:Nat) (lo:Option Addr) (lc:Nat) (l:List (Bool × List Bool)) (ho:Option Addr) (hc:Nat) (rv:List Value) (tw:List (List Nat)),y= .slice lo l.length lc∧z= .slice ho k hc∧x= .int .i64 k∧Hid (PtP w wr N sb lo lc l ho hc rv tw)∧Hid (Bfs (ahR L) (List.range n) (p0R L) k l tw)) (fun _ _ x _=>131073 - (intOf x).toNat)
 case atStart=>exact ⟨0,some ⟨pb,0,none⟩,1,[(true,P0)],none,0,[],[],rfl,rfl,rfl,HPP,HBF0⟩
 case round=>
  obtain ⟨k,lo,lc,l,ho,hc,rv,tw,rfl,rfl,rfl,HP,HBF⟩:=hrel
  have hfew:=points_few hL (unhide HBF)
  have hkl:=(unhide HBF).le
  have HTK:Hid (tw.length=k):=(unhide HBF).len
  have hsz:=(unhide HP).bel.size
  by_cases hlt:k<l.length
  ·have hkn:(k:Int)<(l.length:Int):=by omega
   have HX:=hide (List.getElem?_eq_getElem hlt)
   have hpl:l[k].2.length=L.length:=points_len (unhide HBF) _ (List.getElem_mem hlt)
   have HU0:=hide (RwU.start wr w.heap.size (.slice (some ⟨sb,0,none⟩) N N) rv)
   have HLEN:=hide (points_len (unhide HBF))
   generalize l[k]=pp at *
   obtain ⟨pe,P⟩:=pp
   replace hpl:P.length=L.length:=hpl
   go_wp2_with fail
   rename World=>wR
   go_loopw [6,10,11] (fun y v x wr=> ∃(j:Nat) (lo:Option Addr) (lc:Nat) (M:List (Bool × List Bool)) (q:List Nat) (vo:Option Addr) (vc:Nat),j≤n∧y= .slice lo M.length lc∧v= .slice vo j vc∧x= .int .i64 j∧Hid (PtP w wr N sb lo lc M ho hc rv tw)∧Hid (RwU wr w.heap.size (.slice (some ⟨sb,0,none⟩) N N) rv (.slice vo j vc) q)∧Hid (rowN (ahR L) (pe,P) (List.range j) l=(M,q))) (fun _ _ x _=>n - (intOf x).toNat)
   case atStart=>exact ⟨0,lo,lc,l,[],none,0,Nat.zero_le _,rfl,rfl,rfl,HP,HU0,rfl⟩
   case round=>
    obtain ⟨j,lo2,lc2,M,q,vo,vc,hj,rfl,rfl,rfl,HP2,HU,HRN⟩:=hrel
    have hspec:=rowN_spec (ahR L) (pe,P) (List.range j) l
    rw [unhide HRN] at hspec
    obtain ⟨⟨xs,hMx,hxs⟩,hql,_,_⟩:=hspec
    have hMle:M.length≤l.length+j:=by
     have:=rowN_le (ahR L) (pe,P) (List.range j) l
     rw [unhide HRN,List.length_range] at this
     exact this
    have hql':q.length=j:=by simpa using hql
    have HQL:=hide hql'
    have hkM:k<M.length:=by
     have:M=l++xs:=hMx
     rw [this,List.length_append]
     omega
    have hXM:M[k]? =some (pe,P):=by
     have:M=l++xs:=hMx
     rw [this]
     exact getApp (unhide HX)
    have HML:Hid (∀p∈M,p.2.length=L.length):=fun p hp=>by
     have:M=l++xs:=hMx
     rw [this] at hp
     rcases List.mem_append.1 hp with h|h
     ·exact unhide HLEN p h
     ·obtain ⟨a,_,rfl⟩:=hxs p h
      exact ptOf_len ..
    have hsz2:=(unhide HP2).bel.size
    by_cases hjl:j<n
    ·have hjn:(j:Int)<(n:Int):=by omega
     have hkMi:(k:Int)<(M.length:Int):=by omega
     obtain ⟨g,hlo2,hgl,hc1,hc2⟩:=pts_of (unhide HP2).pl k _ hXM
     subst hlo2
     have HAH:=hide (ahead_in wr nb B L T ((unhide HN).later (unhide HP2).bel) (unhide HG) (by omega) P pe j (by omega) hpl)
     have HSUC:Hid (rowN (ahR L) (pe,P) (List.range (j+1)) l=((numb M (ahR L (pe,P) j)).1,q++[(numb M (ahR L (pe,P) j)).2])):=by
      show _=_
      rw [List.range_succ,rowN_append,unhide HRN]
     have HAR:Hid (ahR L (pe,P) j=(false,ptOf P true (!pe) (j:Nat) L)):=rfl
     have hP2l:(ptOf P true (!pe) (j:Nat) L).length=L.length:=ptOf_len ..
     clear hql hql' hMx hxs hXM
     generalize ptOf P true (!pe) (j:Nat) L=P2 at *
     rw [unhide HAR] at HSUC
     clear HAR
     go_wp2_with fail
     refine (unhide HAH).mono ?_
     rintro e w5 ⟨rfl,hb5⟩
     have HP5:=hide ((unhide HP2).later hb5)
     have HU5:=hide ((unhide HU).later hb5)
     clear hb5 HAH HP2 HU hgl hc1 hc2
     have HCD:=hide (fun W:World=>code_any W P2 false (by omega))
     go_wp2_with fail
     have hba:Below w5.heap.size w5 (w5.alloc (.cells #[.string (setS P2),.bool false] 302)):=(Below.refl _ _).alloc (Nat.le_refl _) _
     have hpb:=blk_alloc w5 (.cells #[.string (setS P2),.bool false] 302)
     refine (unhide HCD _).mono ?_
     rintro e w6 ⟨rfl,hb6⟩
     have HP6:=hide (((unhide HP5).later hba).later hb6)
     have HU6:=hide (((unhide HU5).later hba).later hb6)
     have hpb6:=(hb6.block _ (lt_of_blk hpb)).trans hpb
     have pc0:=cell_of_blk hpb6 0
     have pc1:=cell_of_blk hpb6 1
     have pl:=lt_of_blk hpb6
     have hcN:codeP (false,P2)<N:=by have:=codeP_lt (false,P2) (n:=16) (by show P2.length≤16;omega);omega
     have hcNi:((codeP (false,P2):Nat):Int)<(N:Int):=by omega
     obtain ⟨sc,sl,sf⟩:=seenT (unhide HP6).tab hcN
     have hV6:=(unhide HP6).bel.size
     clear hba hpb hb6 hpb6 HP5 HU5 HCD
     rcases sn_numb (l:=M) (p:=(false,P2)) (fun q hq=>(unhide HML q hq).trans hP2l.symm) with ⟨h0,hf,hnum⟩|⟨i,hi,hs,hnum⟩
     ·rw [hnum] at HSUC
      rw [h0] at sc
      have sc0:w6.cell? ⟨sb,codeP (false,P2),none⟩=some (.int .i64 0):=sc
      have HF:=hide hf
      clear hnum h0 sc hf
      go_wp2_with (at_builtin;go_must (refine wpList_append_lies _ rfl _ _ 298 rfl w.heap.size 302 q0 (.agg #[.string ⟨#[]⟩,.bool false]) 2 24 Tryz.underlying298 hq0 hqz0 hqz1 hqz2 rfl (by decide) _ M.length (ptC M) rfl ?c0 ⟨w6.heap.size,0,none⟩ 1 1 [.string (setS P2),.bool false] rfl rfl ?c1 ?c2 (by decide) ?c3 ?c4 ?c5 (w6.heap.size+1) ?c6 ?_))
      case c0=>exact (unhide HP6).pl.alloc _
      case c1=>exact World.news_of_block (blk_alloc _ _)
      case c2=>intro u hu;simp at hu;rcases hu with rfl|rfl<;>rfl
      case c3=>unfold maxLen;omega
      case c4=>omega
      case c5=>simp;omega
      case c6=>simp
      intro g8 cap8 w8 ho8 hg8 _ _
      have hbz:Below w6.heap.size w6 (w6.alloc (.cells #[.string (setS P2),.bool false] 302)):=(Below.refl _ _).alloc (Nat.le_refl _) _
      have hp7:=(unhide HP6).later hbz
      obtain ⟨sc8,sl8,sf8⟩:=seenT (hp7.tabL hg8) hcN
      obtain ⟨hP9,hU9⟩:=hp7.more ((unhide HU6).later hbz) (p:=(false,P2)) (unhide HF) ho8 hg8 (z:=(M.length:Int)+1) (by omega)
      have HP9:=hide hP9
      have HU9:=hide hU9
      generalize codeP (false,P2)=c at *
      clear ho8 hg8 hbz hp7 hP9 hU9 HP6 HU6 sc0 sl sf HF
      go_wp2_with (at_builtin;go_must (refine app1 rfl _ _ 33 rfl _ w.heap.size 3 infoVi rfl Tryz.underlying33 (n:=j) (xs:=intC q) rfl (.int .i64 (M.length:Int)) rfl rfl ?x0 (by omega) (unhide HP9).bel.size (by first|rfl|simp [World.setCell]) ?_))
      case x0=>have:=(unhide HU9).own;rw [unhide HQL] at this;exact this
      intro g9 cap9 w9 ho9 hg9 hat9
      have hwA:(w8.setCell ⟨sb,c,none⟩ (.int .i64 ((M.length:Int)+1))).heap.size=w8.heap.size:=by simp [World.setCell]
      generalize w8.setCell ⟨sb,c,none⟩ (.int .i64 ((M.length:Int)+1))=wA at *
      have hbz:Below wA.heap.size wA (wA.alloc (.cells #[.int .i64 (M.length:Int)] 3)):=(Below.refl _ _).alloc (Nat.le_refl _) _
      obtain ⟨hPa,hUa⟩:=((unhide HP9).later hbz).num ((unhide HU9).later hbz) (x:=M.length) (by rw [unhide HQL];exact ho9) hg9 rfl (hat9.imp id (fun h=>by simp;omega))
      have HPa:=hide hPa
      have HUa:=hide hUa
      have hlM:(M++[(false,P2)]).length=M.length+1:=by simp
      clear ho9 hg9 hat9 hbz hPa hUa HP9 HU9
      go_wp2_with fail
      go_roundw
      case rel=>exact ⟨j+1,some ⟨g8,0,none⟩,cap8,M++[(false,P2)],q++[M.length],some ⟨g9,0,none⟩,cap9,by omega,by rw [hlM],rfl,by go_num,HPa,HUa,HSUC⟩
      case measure=>simp [intOf];omega
     ·rw [hnum] at HSUC
      rw [hs] at sc
      have sc0:w6.cell? ⟨sb,codeP (false,P2),none⟩=some (.int .i64 ((i:Int)+1)):=sc
      have hnz:¬ ((i:Int)+1=0):=by omega
      generalize codeP (false,P2)=c at *
      clear hnum hs sc
      go_wp2_with (at_builtin;go_must (refine app1 rfl _ _ 33 rfl _ w.heap.size 3 infoVi rfl Tryz.underlying33 (n:=j) (xs:=intC q) rfl (.int .i64 (i:Int)) rfl rfl ?y0 (by omega) (unhide HP6).bel.size (by first|rfl|simp [World.setCell]) ?_))
      case y0=>have:=(unhide HU6).own;rw [unhide HQL] at this;exact this
      intro g9 cap9 w9 ho9 hg9 hat9
      have hbz:Below w6.heap.size w6 (w6.alloc (.cells #[.int .i64 (i:Int)] 3)):=(Below.refl _ _).alloc (Nat.le_refl _) _
      obtain ⟨hPa,hUa⟩:=((unhide HP6).later hbz).num ((unhide HU6).later hbz) (x:=i) (by rw [unhide HQL];exact ho9) hg9 rfl (hat9.imp id (fun h=>by simp;omega))
      have HPa:=hide hPa
      have HUa:=hide hUa
      clear ho9 hg9 hat9 hbz hPa hUa HP6 HU6
      go_wp2_with fail
      go_roundw
      case rel=>exact ⟨j+1,_,lc2,M,q++[i],some ⟨g9,0,none⟩,cap9,by omega,rfl,rfl,by go_num,HPa,HUa,HSUC⟩
      case measure=>simp [intOf];omega
    ·have hjn:¬ (j:Int)<(n:Int):=by omega
     have hje:j=n:=by omega
     subst hje
     have HBF2:Hid (Bfs (ahR L) (List.range j) (p0R L) (k+1) M (tw++[q])):=by
      have:=(unhide HBF).step (unhide HX)
      rw [unhide HRN] at this
      exact this
     have hfew2:=points_few hL (unhide HBF2)
     clear hql hql' hMx hxs hXM
     go_wp2_with (at_builtin;go_must (refine app1 rfl _ _ 34 rfl _ w.heap.size 33 infoVr rfl Tryz.underlying34 (n:=k) (xs:=rv) rfl (.slice vo j vc) rfl rfl ?z0 (by omega) (unhide HP2).bel.size (by first|rfl|simp [World.setCell]) ?_))
     case z0=>have h1:wr.ownsRow w.heap.size 33 1 (.slice ho tw.length hc) tw.length rv:=(unhide HP2).tab.nx;rw [unhide HTK] at h1;exact h1
     intro g9 cap9 w9 ho9 hg9 hat9
     have hbz:Below wr.heap.size wr (wr.alloc (.cells #[.slice vo j vc] 33)):=(Below.refl _ _).alloc (Nat.le_refl _) _
     have HPa:=hide (((unhide HP2).later hbz).row ((unhide HU).later hbz) (by rw [unhide HTK];exact ho9) (by rw [unhide HTK];exact hg9))
     clear ho9 hg9 hat9 hbz HP2 HU
     go_wp2_with fail
     go_roundw
     case rel=>exact ⟨k+1,lo2,lc2,M,some ⟨g9,0,none⟩,cap9,_,tw++[q],rfl,rfl,by go_num,HPa,HBF2⟩
     case measure=>simp [intOf];omega
  ·have hkn:¬ (k:Int)<(l.length:Int):=by omega
   have HKE:Hid (k=l.length):=by show _=_;omega
   go_wp2_with fail
   refine bodyPost_ret (v:= .tuple #[.slice lo l.length lc,.slice ho k hc]) (by simp [results,Tryz.results181,go_sem]) rfl ?_
   exact ⟨N,sb,rv,l,tw,lo,lc,ho,hc,by rw [unhide HTK],unhide HKE▸unhide HBF,unhide HP,hfew⟩
end Go.Proofs.YtidakhhekofkoaaGreatDoor
