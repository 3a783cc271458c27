/- The law's things: desks, books, what waits, its own lists. -/
import Derived.Test.YtidakhhekofkoaaGreatDoorJ38
import Derived.Test.YtidakhhekofkoaaGreatDoorJ50
import Derived.Test.YtidakhhekofkoaaGreatDoorJ39
import Derived.Test.YtidakhhekofkoaaGreatDoorJ28
import Derived.Laws.AppendOwnNone
import Derived.Test.YtidakhhekofkoaaGreatDoorJ46
import Derived.Test.YtidakhhekofkoaaGreatDoorJ45
set_option linter.unusedSimpArgs false
set_option linter.unusedVariables false
namespace Go.Proofs.YtidakhhekofkoaaGreatDoor
open Go.RowKit Go.Deep
structure Pl where
 A:Nat
 n:Nat
 ab:Nat
 a0:Nat
 fb:Nat
 f0:Nat
 nb:Nat
 n0:Nat
 ac:Nat
 fc:Nat
 nc:Nat
 rb:Nat→Nat
 ro:Nat→Nat
 rc:Nat→Nat
def Pl.S (p:Pl) (k:Nat):Prop:=k=p.ab∨k=p.fb∨k=p.nb∨ ∃i,i<p.n∧k=p.rb i
theorem TbL.same {w w':World} {t:Tb} {p:Pl} (h:TbL w t p.A p.n p.ab p.a0 p.fb p.f0 p.nb p.n0 p.rb p.ro p.rc) (hs:w.heap.size≤w'.heap.size) (hk: ∀k,p.S k→w'.heap[k]? =w.heap[k]?):TbL w' t p.A p.n p.ab p.a0 p.fb p.f0 p.nb p.n0 p.rb p.ro p.rc:=
 ⟨h.hA,h.hn,h.A6,h.A1,h.n1,h.n100,h.rt,fun i s hi=>(cell_same (hk _ (Or.inl rfl))).trans (h.act i s hi),fun i hi=>(cell_same (hk _ (Or.inr (Or.inl rfl)))).trans (h.fla i hi),fun i hi=>(cell_same (hk _ (Or.inr (Or.inr (Or.inl rfl))))).trans (h.row i hi),
  fun i a hi ha=>(cell_same (hk _ (Or.inr (Or.inr (Or.inr ⟨i,hi,rfl⟩))))).trans (h.nxt i a hi ha),Nat.lt_of_lt_of_le h.la hs,Nat.lt_of_lt_of_le h.lf hs,Nat.lt_of_lt_of_le h.ln hs,fun i hi=>Nat.lt_of_lt_of_le (h.lr i hi) hs⟩
theorem TbL.blocks {w:World} {t:Tb} {p:Pl} (h:TbL w t p.A p.n p.ab p.a0 p.fb p.f0 p.nb p.n0 p.rb p.ro p.rc) {k:Nat} (hk:p.S k):k<w.heap.size:=by
 rcases hk with rfl|rfl|rfl|⟨i,hi,rfl⟩
 ·exact h.la
 ·exact h.lf
 ·exact h.ln
 ·exact h.lr i hi
structure Dd where
 t:Tb
 cs:List Cs
 db:Nat
 p:Pl
 mb:Nat
 pb:ByteArray→Nat
 D:DataW Unit
 rd:Nat
 q:Pl
 lo:Option Addr
 lc:Nat
def Dd.dS (d:Dd) (k:Nat):Prop:=k=d.db∨d.p.S k∨DkS d.cs d.mb d.pb k
def Dd.rS (d:Dd) (k:Nat):Prop:=d.q.S k∨DrS d.rd d.lo k
def Dd.dP (d:Dd) (w:World):Prop:=DkP w d.db d.t d.cs d.p.A d.p.n d.p.ab d.p.a0 d.p.fb d.p.f0 d.p.nb d.p.n0 d.p.ac d.p.fc d.p.nc d.p.rb d.p.ro d.p.rc d.mb d.pb d.D
def Dd.rP (B:Nat) (d:Dd) (w:World):Prop:=DrP w B d.rd d.t d.cs d.q.A d.q.n d.q.ab d.q.a0 d.q.fb d.q.f0 d.q.nb d.q.n0 d.q.ac d.q.fc d.q.nc d.q.rb d.q.ro d.q.rc d.lo d.lc
def Dd.dT (d:Dd):Th:=⟨d.dS,d.dP⟩
def Dd.rT (B:Nat) (d:Dd):Th:=⟨d.rS,d.rP B⟩
def Dd.ts (B:Nat) (d:Dd):List Th:=[d.dT,d.rT B]
theorem Dd.dOk {d:Dd} {w:World} (h:d.dP w):ThOk w d.dT:=by
 refine ⟨h,fun k hk=> ?_,fun w' hs hk=> ?_⟩
 ·rcases hk with rfl|hk|hk
  ·exact lt_of_blk h.blk
  ·exact h.tb.blocks hk
  ·exact DkP.blocks h hk
 ·obtain ⟨es,cl,hb,F,hs2,hD⟩:=h.mp
  exact ⟨(hk _ (Or.inl rfl)).trans h.blk,h.tb.same hs (fun k h1=>hk k (Or.inr (Or.inl h1))),⟨es,cl,(hk _ (Or.inr (Or.inr (Or.inl rfl)))).trans hb,F,hs2,hD⟩,h.sz,h.has,h.at_,fun c hc=>(hk _ (Or.inr (Or.inr (Or.inr ⟨c,hc,rfl⟩)))).trans (h.cell c hc),h.nd,h.inj,h.st,h.few,h.sep⟩
theorem Dd.rOk {B:Nat} {d:Dd} {w:World} (h:d.rP B w):ThOk w (d.rT B):=by
 have hlo: ∀k,(Value.slice d.lo d.cs.length d.lc).ownBlock=some k→DrS d.rd d.lo k:=fun k e=>Or.inr (own_lo h.ls e).1
 refine ⟨h,fun k hk=> ?_,fun w' hs hk=> ?_⟩
 ·rcases hk with hk|rfl|hk
  ·exact h.tb.blocks hk
  ·exact lt_of_blk h.blk
  ·exact (own_lt h.ls k (by rw [hk];rfl)).2
 ·exact ⟨(hk _ (Or.inr (Or.inl rfl))).trans h.blk,h.tb.same hs (fun k h1=>hk k (Or.inl h1)),owns_same h.ls (fun k e=>hk k (Or.inr (hlo k e))),h.nd,h.st,h.few,h.sep⟩
theorem AllM.same {w w':World} {l v:Value} {e:Nat} (h:AllM w l v e) (hk: ∀k,l.ownBlock=some k→w'.heap[k]? =w.heap[k]?):AllM w' l v e:=by
 obtain ⟨o,n,c,h1,h2,h3⟩:=h
 refine ⟨o,n,c,h1,h2,fun i hi=> ?_⟩
 obtain ⟨b,h4,h5,h6⟩:=h3 i hi
 have e:=hk b (by rw [h1,h4];rfl)
 refine ⟨b,h4, ?_,(cell_same e).trans h6⟩
 obtain ⟨cc,m,hc⟩:=h5
 exact ⟨cc,m,e.trans hc⟩
def bkT (b:Bk):Th:=⟨fun k=>b.l.ownBlock=some k∨b.g1.ownBlock=some k∨b.g2.ownBlock=some k∨b.g3.ownBlock=some k,fun w=>BkOk w b⟩
theorem bk_ok {w:World} {b:Bk} (h:BkOk w b) (hl: ∀k,(bkT b).S k→k<w.heap.size):ThOk w (bkT b):=
 ⟨h,hl,fun w' hs hk=>⟨h.l.same (fun k e=>hk k (Or.inl e)),h.g1.same (fun k e=>hk k (Or.inr (Or.inl e))),h.g2.same (fun k e=>hk k (Or.inr (Or.inr (Or.inl e)))),h.g3.same (fun k e=>hk k (Or.inr (Or.inr (Or.inr e))))⟩⟩
structure Wt where
 L:List ByteArray
 lo:Option Addr
 lc:Nat
 ko:Option Addr
 kc:Nat
def Wt.l (x:Wt):Value:= .slice x.lo x.L.length x.lc
def Wt.k (x:Wt):Value:= .slice x.ko x.L.length x.kc
structure Wt.P (B:Nat) (x:Wt) (w:World):Prop where
 l:w.ownsRow B 9 1 x.l x.L.length (strsC x.L)
 k:w.ownsRow B 9 1 x.k x.L.length (strsC x.L)
 few:x.L.length≤8
def wtT (B:Nat) (x:Wt):Th:=⟨fun k=>x.l.ownBlock=some k∨x.k.ownBlock=some k,x.P B⟩
theorem wt_ok {B:Nat} {w:World} {x:Wt} (h:x.P B w):ThOk w (wtT B x):=
 ⟨h,fun k hk=>hk.elim (fun e=>(own_lt h.l k e).2) (fun e=>(own_lt h.k k e).2),fun w' hs hk=>⟨owns_same h.l (fun k e=>hk k (Or.inl e)),owns_same h.k (fun k e=>hk k (Or.inr e)),h.few⟩⟩
theorem txs_owns {w:World} {base:Nat} {o:Option Addr} {c:Nat} {L:List ByteArray} (h:w.ownsRow base 9 1 (.slice o L.length c) L.length (strsC L)):TxS w o L:=by
 intro j x hx
 have hj:=(List.getElem?_eq_some_iff.1 hx).1
 obtain ⟨g,h1,h2,h3⟩:=owns1_at h hj
 exact ⟨g,0,h1,h2,by rw [Nat.zero_add,h3];unfold strsC;rw [List.getElem?_map,hx];rfl⟩
structure Lw where
 dO:Option Addr
 dn:Nat
 dc:Nat
 M:Nat
 tO:Option Addr
 tn:Nat
 tc:Nat
 wO:Option Addr
 wn:Nat
 wc:Nat
 eO:Option Addr
 en:Nat
 ec:Nat
 pv:List Value
 bv:List Value
 wv:List Value
 ev:List Value
structure Lw.P (B lb:Nat) (a:Lw) (w:World):Prop where
 lw:LWd w lb (.slice a.dO a.dn a.dc) a.M (.slice a.tO a.tn a.tc) (.slice none 0 0) (.slice none 0 0) (.slice a.wO a.wn a.wc) (.slice a.eO a.en a.ec) (.slice none 0 0) (.slice none 0 0)
 dk:w.ownsRow B 112 2 (.slice a.dO a.dn a.dc) a.dn a.pv
 tx:w.ownsRow B 118 5 (.slice a.tO a.tn a.tc) a.tn a.bv
 wt:w.ownsRow B 25 1 (.slice a.wO a.wn a.wc) a.wn a.wv
 et:w.ownsRow B 25 1 (.slice a.eO a.en a.ec) a.en a.ev
 ne: ∀k,(Value.slice a.wO a.wn a.wc).ownBlock=some k→(Value.slice a.eO a.en a.ec).ownBlock≠some k
def Lw.S (lb:Nat) (a:Lw) (k:Nat):Prop:=k=lb∨(Value.slice a.dO a.dn a.dc).ownBlock=some k∨(Value.slice a.tO a.tn a.tc).ownBlock=some k∨(Value.slice a.wO a.wn a.wc).ownBlock=some k∨(Value.slice a.eO a.en a.ec).ownBlock=some k
def Lw.T (B lb:Nat) (a:Lw):Th:=⟨a.S lb,a.P B lb⟩
theorem Lw.ok {B lb:Nat} {a:Lw} {w:World} (h:a.P B lb w):ThOk w (a.T B lb):=by
 refine ⟨h,fun k hk=> ?_,fun w' hs hk=> ?_⟩
 ·rcases hk with rfl|e|e|e|e
  ·exact lt_of_blk h.lw
  ·exact (own_lt h.dk k e).2
  ·exact (own_lt h.tx k e).2
  ·exact (own_lt h.wt k e).2
  ·exact (own_lt h.et k e).2
 ·exact ⟨(hk _ (Or.inl rfl)).trans h.lw,owns_same h.dk (fun k e=>hk k (Or.inr (Or.inl e))),owns_same h.tx (fun k e=>hk k (Or.inr (Or.inr (Or.inl e)))),owns_same h.wt (fun k e=>hk k (Or.inr (Or.inr (Or.inr (Or.inl e))))),owns_same h.et (fun k e=>hk k (Or.inr (Or.inr (Or.inr (Or.inr e))))),h.ne⟩
def prC (ds:List Dd):List Value:=ds.flatMap fun d=>[.pointer (some ⟨d.db,0,none⟩),.pointer (some ⟨d.rd,0,none⟩)]
theorem prC_len (ds:List Dd):(prC ds).length=ds.length * 2:=by
 induction ds with
 |nil=>rfl
 |cons d r ih=>unfold prC at ih⊢;rw [List.flatMap_cons,List.length_append,ih];show 2+_=_;rw [List.length_cons];omega
theorem prC_snoc (ds:List Dd) (d:Dd):prC (ds++[d])=prC ds++[.pointer (some ⟨d.db,0,none⟩),.pointer (some ⟨d.rd,0,none⟩)]:=by
 unfold prC
 rw [List.flatMap_append]
 rfl
theorem prC_mid (l r:List Dd) (d d':Dd) (h1:d'.db=d.db) (h2:d'.rd=d.rd):prC (l++d'::r)=prC (l++d::r):=by
 unfold prC
 rw [List.flatMap_append,List.flatMap_append,List.flatMap_cons,List.flatMap_cons,h1,h2]
theorem prC_at (l r:List Dd) (d:Dd):(prC (l++d::r))[l.length * 2]? =some (.pointer (some ⟨d.db,0,none⟩))∧(prC (l++d::r))[l.length * 2+1]? =some (.pointer (some ⟨d.rd,0,none⟩)):=by
 have e:prC (l++d::r)=prC l++(.pointer (some ⟨d.db,0,none⟩):: .pointer (some ⟨d.rd,0,none⟩)::prC r):=by
  unfold prC
  rw [List.flatMap_append,List.flatMap_cons]
  rfl
 rw [e,List.getElem?_append_right (by rw [prC_len];omega),List.getElem?_append_right (by rw [prC_len];omega),prC_len]
 rw [Nat.sub_self,show l.length * 2+1 - l.length * 2=1 by omega]
 exact ⟨rfl,rfl⟩
def EvOk (N:Nat) (cs:List Cs):Prop:= ∀c∈cs,c.ev≤N∧c.id.size≤140737488355328
theorem EvOk.up {N N':Nat} {cs:List Cs} (h:EvOk N cs) (hn:N≤N'):EvOk N' cs:=fun c hc=>⟨Nat.le_trans (h c hc).1 hn,(h c hc).2⟩
structure LI (B lb:Nat) (X:List Th) (w0 w:World) (N:Nat) (a:Lw) (ds:List Dd) (bs:List Bk) (ws:List Wt):Prop where
 th:Ths B w (a.T B lb::(X++(ds.flatMap (Dd.ts B)++(bs.map bkT++ws.map (wtT B)))))
 bel:Below B w0 w
 lo:B=w0.heap.size
 pv:a.pv=prC ds
 bv:a.bv=bksC bs
 M:a.M=a.tn
 nd:ds.length≤N
 nb:bs.length+ws.length≤2 * N
 evs: ∀d∈ds,EvOk N d.cs
section
variable {B lb : Nat} {X : List Th} {w0 w w' : World} {N : Nat} {a : Lw} {ds : List Dd} {bs : List Bk} {ws : List Wt}
theorem LI.hB (h:LI B lb X w0 w N a ds bs ws):B≤w.heap.size:=by have:=h.bel.size;have:=h.lo;omega
theorem LI.law (h:LI B lb X w0 w N a ds bs ws):a.P B lb w:=(h.th.ok _ (List.mem_cons_self ..)).p
theorem LI.later (h:LI B lb X w0 w N a ds bs ws) (hb:Below w.heap.size w w'):LI B lb X w0 w' N a ds bs ws:=⟨h.th.later hb,h.bel.trans (hb.mono (by have:=h.bel.size;have:=h.lo;omega)),h.lo,h.pv,h.bv,h.M,h.nd,h.nb,h.evs⟩
theorem LI.more (h:LI B lb X w0 w N a ds bs ws) {N':Nat} (hn:N≤N'):LI B lb X w0 w N' a ds bs ws:=⟨h.th,h.bel,h.lo,h.pv,h.bv,h.M,Nat.le_trans h.nd hn,Nat.le_trans h.nb (by omega),fun d hd=>(h.evs d hd).up hn⟩
theorem LI.dn (h:LI B lb X w0 w N a ds bs ws):a.dn=ds.length:=by
 have h1:=h.law.dk.1
 rw [h.pv,prC_len] at h1
 omega
theorem LI.tn (h:LI B lb X w0 w N a ds bs ws):a.tn=bs.length:=by
 have h1:=h.law.tx.1
 rw [h.bv,bksC_len] at h1
 omega
theorem LI.desk (h:LI B lb X w0 w N a ds bs ws) {d:Dd} (hd:d∈ds):d.dP w∧d.rP B w:=
 ⟨(h.th.ok d.dT (List.mem_cons_of_mem _ (List.mem_append_right _ (List.mem_append_left _ (List.mem_flatMap.2 ⟨d,hd,List.mem_cons_self ..⟩))))).p,(h.th.ok (d.rT B) (List.mem_cons_of_mem _ (List.mem_append_right _ (List.mem_append_left _ (List.mem_flatMap.2 ⟨d,hd,List.mem_cons_of_mem _ (List.mem_cons_self ..)⟩))))).p⟩
theorem LI.book (h:LI B lb X w0 w N a ds bs ws) {b:Bk} (hb:b∈bs):BkOk w b:=
 (h.th.ok (bkT b) (List.mem_cons_of_mem _ (List.mem_append_right _ (List.mem_append_right _ (List.mem_append_left _ (List.mem_map.2 ⟨b,hb,rfl⟩)))))).p
theorem LI.wait (h:LI B lb X w0 w N a ds bs ws) {x:Wt} (hx:x∈ws):x.P B w:=
 (h.th.ok (wtT B x) (List.mem_cons_of_mem _ (List.mem_append_right _ (List.mem_append_right _ (List.mem_append_right _ (List.mem_map.2 ⟨x,hx,rfl⟩)))))).p
theorem LI.keep (h:LI B lb X w0 w N a ds bs ws) {x:Th} (hx:x∈X):x.P w:=(h.th.ok x (List.mem_cons_of_mem _ (List.mem_append_left _ hx))).p
theorem LI.gv (h:LI B lb X w0 w N a ds bs ws) (hG:GV w0):GV w:=hG.later (h.lo▸h.bel)
theorem LI.tab (h:LI B lb X w0 w N a ds bs ws) (hT:Lib.TabIs Tryz.prog w0 "internal/strconv.uint64pow10" .u64 Lib.pow10Tab):Lib.TabIs Tryz.prog w "internal/strconv.uint64pow10" .u64 Lib.pow10Tab:=tab_later hT (h.lo▸h.bel)
theorem LI.hold {y:Th} (h:LI B lb X w0 w N a ds bs ws) (hb:Below w.heap.size w w') (hy:ThOk w' y) (hn: ∀k,y.S k→w.heap.size≤k):LI B lb (y::X) w0 w' N a ds bs ws:=
 ⟨(Ths.add (new:=[y]) h.th hb (fun x hx=>by rw [List.mem_singleton.1 hx];exact hy) (List.pairwise_singleton _ _) (fun x hx k hk=>by rw [List.mem_singleton.1 hx] at hk;exact hn k hk) h.hB).perm (List.Perm.swap _ _ _),(h.later hb).bel,h.lo,h.pv,h.bv,h.M,h.nd,h.nb,h.evs⟩
theorem LI.drop {y:Th} (h:LI B lb (y::X) w0 w N a ds bs ws):LI B lb X w0 w N a ds bs ws:=by
 have t:=h.th.perm (List.Perm.swap y (a.T B lb) _)
 exact ⟨⟨fun x hx=>t.ok x (List.mem_cons_of_mem _ hx),(List.pairwise_cons.1 t.ap).2,fun x hx=>t.lo x (List.mem_cons_of_mem _ hx)⟩,h.bel,h.lo,h.pv,h.bv,h.M,h.nd,h.nb,h.evs⟩
theorem LI.permX {X':List Th} (h:LI B lb X w0 w N a ds bs ws) (hp:X.Perm X'):LI B lb X' w0 w N a ds bs ws:=⟨h.th.perm (List.Perm.cons _ (hp.append_right _)),h.bel,h.lo,h.pv,h.bv,h.M,h.nd,h.nb,h.evs⟩
def rwT (B:Nat) (v:Value) (L:List ByteArray):Th:=⟨fun k=>v.ownBlock=some k,fun w=>w.ownsRow B 9 1 v L.length (strsC L)⟩
theorem rw_ok {v:Value} {L:List ByteArray} (h:w.ownsRow B 9 1 v L.length (strsC L)):ThOk w (rwT B v L):=⟨h,fun k hk=>(own_lt h k hk).2,fun w' hs hk=>owns_same h hk⟩
theorem LI.turn (h:LI B lb X w0 w N a ds bs ws) {a':Lw} (hf:FrD (a.S lb) w w') (hn:a'.P B lb w') (hs: ∀k,a'.S lb k→a.S lb k∨w.heap.size≤k) (h1:a'.pv=a.pv) (h2:a'.bv=a.bv) (h3:a'.M=a'.tn):LI B lb X w0 w' N a' ds bs ws:=
 ⟨h.th.turn1 hf (Lw.ok hn) hs h.hB,h.bel.trans (Ths.bel (old:=[a.T B lb]) h.th ⟨hf.os,hf.tape,hf.output,hf.size,fun k hk hn=>hf.block k hk (fun e=>hn ⟨_,List.mem_singleton.2 rfl,e⟩)⟩ h.hB),h.lo,h1.trans h.pv,h2.trans h.bv,h3,h.nd,h.nb,h.evs⟩
end
theorem dd_perm (B:Nat) (x:Th) (X:List Th) (l r:List Dd) (d:Dd) (Y:List Th):(x::(X++((l++d::r).flatMap (Dd.ts B)++Y))).Perm ([d.dT,d.rT B]++(x::((X++l.flatMap (Dd.ts B))++(r.flatMap (Dd.ts B)++Y)))):=by
 have e:X++((l++d::r).flatMap (Dd.ts B)++Y)=(X++l.flatMap (Dd.ts B))++([d.dT,d.rT B]++(r.flatMap (Dd.ts B)++Y)):=by
  rw [List.flatMap_append,List.flatMap_cons,Dd.ts]
  simp only [List.append_assoc]
 rw [e]
 exact perm_mid _ _ _ _
section
variable {B lb : Nat} {X : List Th} {w0 w w1 w2 w' : World} {N : Nat} {a a' : Lw} {ds l r : List Dd} {d : Dd} {bs : List Bk} {ws : List Wt} {cs' : List Cs} {pb' : ByteArray → Nat} {D' : DataW Unit} {lo' : Option Addr} {lc' : Nat}
theorem LI.go1 (h:LI B lb X w0 w N a (l++d::r) bs ws) (hf:FrD (DkS d.cs d.mb d.pb) w w1) (hn:({d with cs:=cs',pb:=pb',D:=D'}:Dd).dP w1) (hs: ∀k,DkS cs' d.mb pb' k→DkS d.cs d.mb d.pb k∨w.heap.size≤k):
  Ths B w1 ([({d with cs:=cs',pb:=pb',D:=D'}:Dd).dT,d.rT B]++(a.T B lb::((X++l.flatMap (Dd.ts B))++(r.flatMap (Dd.ts B)++(bs.map bkT++ws.map (wtT B))))))∧Below B w w1∧d.rP B w1:=by
 have hp:=h.th.perm (dd_perm B (a.T B lb) X l r d _)
 have hf':FrD d.dT.S w w1:=⟨hf.os,hf.tape,hf.output,hf.size,fun k hk hn=>hf.block k hk (fun e=>hn (Or.inr (Or.inr e)))⟩
 have ht:=Ths.turn1 (x:=d.dT) (x':=({d with cs:=cs',pb:=pb',D:=D'}:Dd).dT) hp hf' (Dd.dOk hn) (fun k hk=>by
  rcases hk with h1|h1|h1
  ·exact Or.inl (Or.inl h1)
  ·exact Or.inl (Or.inr (Or.inl h1))
  ·exact (hs k h1).imp (fun e=>Or.inr (Or.inr e)) id) h.hB
 refine ⟨ht, ?_,(ht.ok (d.rT B) (List.mem_cons_of_mem _ (List.mem_cons_self ..))).p⟩
 exact Ths.bel (old:=[d.dT]) hp ⟨hf.os,hf.tape,hf.output,hf.size,fun k hk hn=>hf'.block k hk (fun e=>hn ⟨_,List.mem_singleton.2 rfl,e⟩)⟩ h.hB
theorem LI.go2 (h:LI B lb X w0 w N a (l++d::r) bs ws) (ht:Ths B w1 ([({d with cs:=cs',pb:=pb',D:=D'}:Dd).dT,d.rT B]++(a.T B lb::((X++l.flatMap (Dd.ts B))++(r.flatMap (Dd.ts B)++(bs.map bkT++ws.map (wtT B))))))) (hb:Below B w w1)
  (hf:FrD (DrS d.rd d.lo) w1 w2) (hn:({d with cs:=cs',pb:=pb',D:=D',lo:=lo',lc:=lc'}:Dd).rP B w2) (hs: ∀k,DrS d.rd lo' k→DrS d.rd d.lo k∨w1.heap.size≤k) (hev:EvOk (N+1) cs'):
  LI B lb X w0 w2 (N+1) a (l++({d with cs:=cs',pb:=pb',D:=D',lo:=lo',lc:=lc'}:Dd)::r) bs ws:=by
 have hB1:B≤w1.heap.size:=Nat.le_trans h.hB hb.size
 have hp:=ht.perm (List.Perm.swap (d.rT B) ({d with cs:=cs',pb:=pb',D:=D'}:Dd).dT _)
 have hf':FrD (d.rT B).S w1 w2:=⟨hf.os,hf.tape,hf.output,hf.size,fun k hk hn=>hf.block k hk (fun e=>hn (Or.inr e))⟩
 have h2:=Ths.turn1 (x:=d.rT B) (x':=({d with cs:=cs',pb:=pb',D:=D',lo:=lo',lc:=lc'}:Dd).rT B) hp hf' (Dd.rOk hn) (fun k hk=>by
  rcases hk with h1|h1
  ·exact Or.inl (Or.inl h1)
  ·exact (hs k h1).imp (fun e=>Or.inr e) id) hB1
 have h3:=h2.perm (List.Perm.swap ({d with cs:=cs',pb:=pb',D:=D'}:Dd).dT (({d with cs:=cs',pb:=pb',D:=D',lo:=lo',lc:=lc'}:Dd).rT B) _)
 have h4:Ths B w2 (a.T B lb::(X++((l++({d with cs:=cs',pb:=pb',D:=D',lo:=lo',lc:=lc'}:Dd)::r).flatMap (Dd.ts B)++(bs.map bkT++ws.map (wtT B))))):=h3.perm (dd_perm B (a.T B lb) X l r ({d with cs:=cs',pb:=pb',D:=D',lo:=lo',lc:=lc'}:Dd) _).symm
 have hb2:=Ths.bel (old:=[d.rT B]) hp ⟨hf.os,hf.tape,hf.output,hf.size,fun k hk hn=>hf'.block k hk (fun e=>hn ⟨_,List.mem_singleton.2 rfl,e⟩)⟩ hB1
 refine ⟨h4,h.bel.trans (hb.trans hb2),h.lo,h.pv.trans (prC_mid l r d ({d with cs:=cs',pb:=pb',D:=D',lo:=lo',lc:=lc'}:Dd) rfl rfl).symm,h.bv,h.M, ?_,Nat.le_trans h.nb (by omega),fun e he=> ?_⟩
 ·have:=h.nd
  simp only [List.length_append,List.length_cons] at this⊢
  omega
 ·rcases List.mem_append.1 he with he|he
  ·exact (h.evs e (List.mem_append_left _ he)).up (Nat.le_succ _)
  ·rcases List.mem_cons.1 he with rfl|he
   ·exact hev
   ·exact (h.evs e (List.mem_append_right _ (List.mem_cons_of_mem _ he))).up (Nat.le_succ _)
theorem LI.open (h:LI B lb X w0 w N a ds bs ws) (hb:Below w.heap.size w w1) (hd:d.dP w1) (hr:d.rP B w1) (hap: ∀k,d.dS k→¬ d.rS k) (hnd: ∀k,d.dS k→w.heap.size≤k) (hnr: ∀k,d.rS k→w.heap.size≤k) (hcs:d.cs=[])
  (hf:FrD (a.S lb) w1 w2) (hn:a'.P B lb w2) (hs: ∀k,a'.S lb k→a.S lb k∨w1.heap.size≤k) (h1:a'.pv=prC (ds++[d])) (h2:a'.bv=a.bv) (h3:a'.M=a'.tn):LI B lb X w0 w2 (N+1) a' (ds++[d]) bs ws:=by
 have hB1:B≤w1.heap.size:=Nat.le_trans h.hB hb.size
 have t1:Ths B w1 ([d.dT,d.rT B]++(a.T B lb::(X++(ds.flatMap (Dd.ts B)++(bs.map bkT++ws.map (wtT B)))))):=Ths.add h.th hb (fun x hx=>by
   rcases List.mem_cons.1 hx with rfl|hx
   ·exact Dd.dOk hd
   ·rw [List.mem_singleton.1 hx];exact Dd.rOk hr) (List.pairwise_pair.2 hap) (fun x hx k hk=>by
   rcases List.mem_cons.1 hx with rfl|hx
   ·exact hnd k hk
   ·rw [List.mem_singleton.1 hx] at hk;exact hnr k hk) h.hB
 have hpm:=dd_perm B (a.T B lb) X ds [] d (bs.map bkT++ws.map (wtT B))
 have t2:Ths B w1 (a.T B lb::(X++((ds++[d]).flatMap (Dd.ts B)++(bs.map bkT++ws.map (wtT B))))):=by
  refine t1.perm (List.Perm.trans ?_ hpm.symm)
  rw [List.flatMap_nil,List.nil_append,List.append_assoc]
 have hf':FrD (fun k=> ∃x∈[a.T B lb],x.S k) w1 w2:=⟨hf.os,hf.tape,hf.output,hf.size,fun k hk hn=>hf.block k hk (fun e=>hn ⟨_,List.mem_singleton.2 rfl,e⟩)⟩
 refine ⟨t2.turn1 hf (Lw.ok hn) hs hB1,(h.bel.trans (hb.mono h.hB)).trans (Ths.bel (old:=[a.T B lb]) t2 hf' hB1),h.lo,h1,h2.trans h.bv,h3, ?_,Nat.le_trans h.nb (by omega),fun e he=> ?_⟩
 ·have:=h.nd
  rw [List.length_append,List.length_singleton]
  omega
 ·rcases List.mem_append.1 he with he|he
  ·exact (h.evs e he).up (Nat.le_succ _)
  ·rw [List.mem_singleton.1 he,hcs]
   exact fun c hc=>(List.not_mem_nil hc).elim
theorem LI.waits {x:Wt} (h:LI B lb (rwT B x.l x.L::X) w0 w N a ds bs ws) (hf:FrD (a.S lb) w w2) (hn:a'.P B lb w2) (hs: ∀k,a'.S lb k→a.S lb k∨w.heap.size≤k) (hk:w2.ownsRow B 9 1 x.k x.L.length (strsC x.L)) (hkn: ∀k,x.k.ownBlock=some k→w.heap.size≤k∧¬ a'.S lb k) (h8:x.L.length≤8)
  (h1:a'.pv=a.pv) (h2:a'.bv=a.bv) (h3:a'.M=a'.tn) {N':Nat} (hN:N≤N') (hnb:bs.length+ws.length+1≤2 * N'):LI B lb X w0 w2 N' a' ds bs (ws++[x]):=by
 have ht:Ths B w ([a.T B lb,rwT B x.l x.L]++(X++(ds.flatMap (Dd.ts B)++(bs.map bkT++ws.map (wtT B))))):=h.th
 have hdis: ∀k,a.S lb k→¬ x.l.ownBlock=some k:=(List.pairwise_cons.1 ht.ap).1 (rwT B x.l x.L) (List.mem_cons_self ..)
 have hl:w.ownsRow B 9 1 x.l x.L.length (strsC x.L):=(ht.ok (rwT B x.l x.L) (List.mem_cons_of_mem _ (List.mem_cons_self ..))).p
 have hl2:w2.ownsRow B 9 1 x.l x.L.length (strsC x.L):=owns_same hl (fun k e=>hf.block k (own_lt hl k e).2 (fun e2=>hdis k e2 e))
 have hF:FrD (fun k=> ∃y∈[a.T B lb,rwT B x.l x.L],y.S k) w w2:=⟨hf.os,hf.tape,hf.output,hf.size,fun k hk hn=>hf.block k hk (fun e=>hn ⟨_,List.mem_cons_self ..,e⟩)⟩
 have t2:=Ths.turn (new:=[a'.T B lb,wtT B x]) ht hF (fun y hy=>by
   rcases List.mem_cons.1 hy with rfl|hy
   ·exact Lw.ok hn
   ·rw [List.mem_singleton.1 hy];exact wt_ok ⟨hl2,hk,h8⟩) (List.pairwise_pair.2 fun k k1 k2=>by
   rcases k2 with e|e
   ·rcases hs k k1 with k1|k1
    ·exact hdis k k1 e
    ·have:=(own_lt hl k e).2;omega
   ·exact (hkn k e).2 k1) (fun y hy k hk=>by
   rcases List.mem_cons.1 hy with rfl|hy
   ·exact (hs k hk).imp (fun e=>⟨_,List.mem_cons_self ..,e⟩) id
   ·rw [List.mem_singleton.1 hy] at hk
    rcases hk with e|e
    ·exact Or.inl ⟨_,List.mem_cons_of_mem _ (List.mem_cons_self ..),e⟩
    ·exact Or.inr (hkn k e).1) h.hB
 refine ⟨t2.perm (List.Perm.cons _ ?_),h.bel.trans (Ths.bel ht hF h.hB),h.lo,h1.trans h.pv,h2.trans h.bv,h3,Nat.le_trans h.nd hN, ?_,fun e he=>(h.evs e he).up hN⟩
 ·rw [List.map_append,List.map_singleton,←List.append_assoc,←List.append_assoc,←List.append_assoc,←List.append_assoc,←List.append_assoc]
  exact List.perm_append_comm (l₁:=[wtT B x])
 ·rw [List.length_append,List.length_singleton]
  omega
theorem own_one {w:World} {b1 b2 e1 e2 z1 z2 n1 n2:Nat} {v1 v2:Value} {x1 x2:List Value} (h1:w.ownsRow b1 e1 z1 v1 n1 x1) (h2:w.ownsRow b2 e2 z2 v2 n2 x2) (hne:e1≠e2) {k:Nat} (k1:v1.ownBlock=some k):v2.ownBlock≠some k:=fun k2=>by
 obtain ⟨_,⟨hv,_⟩|⟨g,cap,cur,hv,hg,hrow,_⟩⟩:=h1
 ·rw [hv] at k1;cases k1
 ·rw [hv] at k1
  have e:g=k:=Option.some.inj k1
  rw [e] at hrow
  exact own_ty h2 k2 hrow hne
theorem all_ty {w:World} {g m c e:Nat} {v:Value} (h:AllM w (.slice (some ⟨g,0,none⟩) (m+1) c) v e):TyAt w g e:=by
 obtain ⟨o,n,c',h1,_,h3⟩:=h
 cases h1
 obtain ⟨b,hb,ht,_⟩:=h3 0 (Nat.succ_pos m)
 cases hb
 exact ht
theorem LI.mark {x:Wt} {e:Ending} (h:LI B lb X w0 w N a ds bs (x::ws))
  (hp:MkPost w lb (.slice a.dO a.dn a.dc) a.M a.tO a.tn a.tc (.slice none 0 0) (.slice none 0 0) (.slice a.wO a.wn a.wc) (.slice a.eO a.en a.ec) (.slice none 0 0) (.slice none 0 0) a.bv B x.l w' e):
  ∃tO' tc' b,LI B lb X w0 w' N {a with M:=a.M+1,tO:=tO',tn:=a.tn+1,tc:=tc',bv:=bksC (bs++[b])} ds (bs++[b]) ws:=by
 obtain ⟨_,to',tc',G1,G2,G3,h1,h2,h3,h4,h5,h6,⟨g1,m1,c1,rfl,k1⟩,⟨g2,m2,c2,rfl,k2⟩,⟨g3,m3,c3,rfl,k3⟩,⟨g8,m8,c8,e8,k8⟩,hf⟩:=hp
 injection e8 with e8a e8b e8c
 subst e8a
 subst e8c
 clear e8b m8
 have hL:=h.law
 have hpm:(a.T B lb::(X++(ds.flatMap (Dd.ts B)++(bs.map bkT++(x::ws).map (wtT B))))).Perm ([a.T B lb,wtT B x]++(X++(ds.flatMap (Dd.ts B)++(bs.map bkT++ws.map (wtT B))))):=by
  refine List.Perm.cons _ ?_
  rw [List.map_cons,←List.append_assoc,←List.append_assoc,←List.append_assoc,←List.append_assoc]
  exact List.perm_middle
 have ht:=h.th.perm hpm
 have hx:=h.wait (List.mem_cons_self ..)
 have hdis: ∀k,a.S lb k→¬ (wtT B x).S k:=(List.pairwise_cons.1 ht.ap).1 (wtT B x) (List.mem_cons_self ..)
 have hF:FrD (fun k=> ∃y∈[a.T B lb,wtT B x],y.S k) w w':=⟨hf.os,hf.tape,hf.output,hf.size,fun k hk hn=>hf.block k hk (fun e=>hn ⟨_,List.mem_cons_self ..,Or.inl e⟩) (fun e=>hn ⟨_,List.mem_cons_of_mem _ (List.mem_cons_self ..),Or.inl e⟩) (fun e=>hn ⟨_,List.mem_cons_self ..,Or.inr (Or.inr (Or.inl e))⟩)⟩
 have keep: ∀{e z n:Nat} {v:Value} {xs:List Value},w.ownsRow B e z v n xs→e≠71→e≠118→(∀k,v.ownBlock=some k→a.S lb k)→w'.ownsRow B e z v n xs:=fun ho n1 n2 hin=>owns_same ho (fun k hk=>hf.block k (own_lt ho k hk).2 (fun e=>by subst e;exact own_ty ho hk hL.lw (fun e=>n1 e.symm)) (fun e=>hdis k (hin k hk) (Or.inl e)) (own_one ho hL.tx n2 hk))
 have hP:Lw.P B lb {a with M:=a.M+1,tO:=some ⟨g8,0,none⟩,tn:=a.tn+1,tc:=tc',bv:=a.bv++[.string (mkB (a.M+1)),x.l,.slice (some ⟨g1,0,none⟩) (m1+1) c1,.slice (some ⟨g2,0,none⟩) (m2+1) c2,.slice (some ⟨g3,0,none⟩) (m3+1) c3]} w':=
  ⟨h1,keep hL.dk (by decide) (by decide) (fun k e=>Or.inr (Or.inl e)),h2,keep hL.wt (by decide) (by decide) (fun k e=>Or.inr (Or.inr (Or.inr (Or.inl e)))),keep hL.et (by decide) (by decide) (fun k e=>Or.inr (Or.inr (Or.inr (Or.inr e)))),hL.ne⟩
 have hbs: ∀b:Bk,b=⟨mkB (a.M+1),x.l,.slice (some ⟨g1,0,none⟩) (m1+1) c1,.slice (some ⟨g2,0,none⟩) (m2+1) c2,.slice (some ⟨g3,0,none⟩) (m3+1) c3⟩→ ∀k,(bkT b).S k→(x.l.ownBlock=some k)∨(w.heap.size≤k∧TyAt w' k 9):=by
  rintro b rfl k (e|e|e|e)
  ·exact Or.inl e
  ·cases e;exact k1.imp id (fun e=>⟨e,all_ty h4⟩)
  ·cases e;exact k2.imp id (fun e=>⟨e,all_ty h5⟩)
  ·cases e;exact k3.imp id (fun e=>⟨e,all_ty h6⟩)
 obtain ⟨b,hb⟩: ∃b:Bk,b=⟨mkB (a.M+1),x.l,.slice (some ⟨g1,0,none⟩) (m1+1) c1,.slice (some ⟨g2,0,none⟩) (m2+1) c2,.slice (some ⟨g3,0,none⟩) (m3+1) c3⟩:=⟨_,rfl⟩
 have hbS:=hbs b hb
 have hbok:BkOk w' b:=by subst hb;exact ⟨h3,h4,h5,h6⟩
 have hbv:a.bv++[.string (mkB (a.M+1)),x.l,.slice (some ⟨g1,0,none⟩) (m1+1) c1,.slice (some ⟨g2,0,none⟩) (m2+1) c2,.slice (some ⟨g3,0,none⟩) (m3+1) c3]=bksC (bs++[b]):=by rw [bksC_snoc,h.bv,hb]
 rw [hbv] at hP
 have hbl: ∀k,(bkT b).S k→k<w'.heap.size:=fun k hk=>by
  rcases hbS k hk with e|⟨_,_,_,e⟩
  ·exact Nat.lt_of_lt_of_le (own_lt hx.l k e).2 hf.size
  ·exact lt_of_blk e
 have t2:=Ths.turn (new:=[Lw.T B lb {a with M:=a.M+1,tO:=some ⟨g8,0,none⟩,tn:=a.tn+1,tc:=tc',bv:=bksC (bs++[b])},bkT b]) ht hF (fun y hy=>by
   rcases List.mem_cons.1 hy with rfl|hy
   ·exact Lw.ok hP
   ·rw [List.mem_singleton.1 hy];exact bk_ok hbok hbl) (List.pairwise_pair.2 fun k h1 h2=>by
   have hin:a.S lb k∨(w.heap.size≤k∧g8=k):=by
    rcases h1 with e|e|e|e|e
    ·exact Or.inl (Or.inl e)
    ·exact Or.inl (Or.inr (Or.inl e))
    ·have e':g8=k:=Option.some.inj e
     rcases k8 with k8|k8
     ·exact Or.inl (Or.inr (Or.inr (Or.inl (e'▸k8))))
     ·exact Or.inr ⟨e'▸k8,e'⟩
    ·exact Or.inl (Or.inr (Or.inr (Or.inr (Or.inl e))))
    ·exact Or.inl (Or.inr (Or.inr (Or.inr (Or.inr e))))
   rcases hbS k h2 with e|⟨hk,_,_,hty⟩
   ·rcases hin with hin|⟨hge,_⟩
    ·exact hdis k hin (Or.inl e)
    ·have:=(own_lt hx.l k e).2;omega
   ·rcases hin with hin|⟨_,he⟩
    ·have:=(ht.ok _ (List.mem_cons_self ..)).lt k hin;omega
    ·exact own_ty hP.tx (by rw [←he];rfl) hty (by decide)) (fun y hy k hk=>by
   rcases List.mem_cons.1 hy with rfl|hy
   ·rcases hk with e|e|e|e|e
    ·exact Or.inl ⟨_,List.mem_cons_self ..,Or.inl e⟩
    ·exact Or.inl ⟨_,List.mem_cons_self ..,Or.inr (Or.inl e)⟩
    ·have e':g8=k:=Option.some.inj e
     rcases k8 with k8|k8
     ·exact Or.inl ⟨_,List.mem_cons_self ..,Or.inr (Or.inr (Or.inl (e'▸k8)))⟩
     ·exact Or.inr (e'▸k8)
    ·exact Or.inl ⟨_,List.mem_cons_self ..,Or.inr (Or.inr (Or.inr (Or.inl e)))⟩
    ·exact Or.inl ⟨_,List.mem_cons_self ..,Or.inr (Or.inr (Or.inr (Or.inr e)))⟩
   ·rw [List.mem_singleton.1 hy] at hk
    rcases hbS k hk with e|⟨e,_⟩
    ·exact Or.inl ⟨_,List.mem_cons_of_mem _ (List.mem_cons_self ..),Or.inl e⟩
    ·exact Or.inr e) h.hB
 refine ⟨some ⟨g8,0,none⟩,tc',b, ?_,h.bel.trans (Ths.bel ht hF h.hB),h.lo,h.pv,rfl, ?_,h.nd, ?_,h.evs⟩
 ·refine t2.perm (List.Perm.cons _ ?_)
  rw [List.map_append,List.map_singleton]
  show (bkT b::(X++(ds.flatMap (Dd.ts B)++(bs.map bkT++ws.map (wtT B))))).Perm _
  have e:X++(ds.flatMap (Dd.ts B)++(bs.map bkT++[bkT b]++ws.map (wtT B)))=(X++(ds.flatMap (Dd.ts B)++bs.map bkT))++bkT b::ws.map (wtT B):=by simp only [List.append_assoc,List.singleton_append]
  have e2:X++(ds.flatMap (Dd.ts B)++(bs.map bkT++ws.map (wtT B)))=(X++(ds.flatMap (Dd.ts B)++bs.map bkT))++ws.map (wtT B):=by simp only [List.append_assoc]
  rw [e,e2]
  exact List.perm_middle.symm
 ·show a.M+1=a.tn+1
  rw [h.M]
 ·have:=h.nb
  simp only [List.length_append,List.length_cons,List.length_nil] at this⊢
  omega
end
theorem Lw.putD {B lb:Nat} {a:Lw} {w W w3:World} {g cap:Nat} {us:List Value} (h:a.P B lb w) (hW:Below w.heap.size w W) (ho:w3.ownsRow B 112 2 (Value.slice (some ⟨g,0,none⟩) (a.dn+1) cap) (a.dn+1) (a.pv++us)) (hg:W.grownBy w3 (Value.slice a.dO a.dn a.dc).ownBlock) (hat:(Value.slice a.dO a.dn a.dc).ownBlock=some g∨w.heap.size≤g):
  Lw.P B lb {a with dO:=some ⟨g,0,none⟩,dn:=a.dn+1,dc:=cap,pv:=a.pv++us} (w3.setCell ⟨lb,0,none⟩ (Value.slice (some ⟨g,0,none⟩) (a.dn+1) cap))∧FrD (a.S lb) w (w3.setCell ⟨lb,0,none⟩ (Value.slice (some ⟨g,0,none⟩) (a.dn+1) cap))∧ ∀k,Lw.S lb {a with dO:=some ⟨g,0,none⟩,dn:=a.dn+1,dc:=cap,pv:=a.pv++us} k→a.S lb k∨w.heap.size≤k:=by
 have hlb:w3.heap[lb]? =w.heap[lb]? :=(hg.block lb (Nat.lt_of_lt_of_le (lt_of_blk h.lw) hW.size) (fun e=>own_ty h.dk e.symm h.lw (by decide))).trans (hW.block lb (lt_of_blk h.lw))
 have hl3:=hlb.trans h.lw
 have set: ∀{e z n:Nat} {v:Value} {xs:List Value},w3.ownsRow B e z v n xs→e≠71→(w3.setCell ⟨lb,0,none⟩ (Value.slice (some ⟨g,0,none⟩) (a.dn+1) cap)).ownsRow B e z v n xs:=fun hr hne=>owns_keep hr (grown_set _ _ _ _) (Or.inr (fun e=>own_ty hr e hl3 (fun e2=>hne e2.symm)))
 have kp: ∀{e z n:Nat} {v:Value} {xs:List Value},w.ownsRow B e z v n xs→e≠71→(∀k,v.ownBlock=some k→(Value.slice a.dO a.dn a.dc).ownBlock≠some k)→(w3.setCell ⟨lb,0,none⟩ (Value.slice (some ⟨g,0,none⟩) (a.dn+1) cap)).ownsRow B e z v n xs:=fun hr hne hap=>set (owns_same hr (fun k hk=>(hg.block k (Nat.lt_of_lt_of_le (own_lt hr k hk).2 hW.size) (fun e=>hap k hk e.symm)).trans (hW.block k (own_lt hr k hk).2))) hne
 refine ⟨⟨blk_set hl3 0 _,set ho (by decide),kp h.tx (by decide) (fun k hk=>own_one h.tx h.dk (by decide) hk),kp h.wt (by decide) (fun k hk=>own_one h.wt h.dk (by decide) hk),kp h.et (by decide) (fun k hk=>own_one h.et h.dk (by decide) hk), ?_⟩,⟨hg.os.trans hW.os,hg.tape.trans hW.tape,hg.output.trans hW.output,by have:=hW.size;have:=hg.size;simp [World.setCell] at *;omega,fun k hk hn=> ?_⟩,fun k hk=> ?_⟩
 ·exact h.ne
 ·refine (Below.heap_setCell _ _ _ _ (by show k≠lb;exact fun e=>hn (Or.inl e))).trans ((hg.block k (Nat.lt_of_lt_of_le hk hW.size) (fun e=>hn (Or.inr (Or.inl e.symm)))).trans (hW.block k hk))
 ·rcases hk with e|e|e|e|e
  ·exact Or.inl (Or.inl e)
  ·have e1:g=k:=Option.some.inj e
   exact hat.imp (fun h1=>Or.inr (Or.inl (e1▸h1))) (fun h1=>e1▸h1)
  ·exact Or.inl (Or.inr (Or.inr (Or.inl e)))
  ·exact Or.inl (Or.inr (Or.inr (Or.inr (Or.inl e))))
  ·exact Or.inl (Or.inr (Or.inr (Or.inr (Or.inr (e)))))
theorem Lw.putW {B lb:Nat} {a:Lw} {w W w3:World} {g cap:Nat} {us:List Value} (h:a.P B lb w) (hW:Below w.heap.size w W) (ho:w3.ownsRow B 25 1 (Value.slice (some ⟨g,0,none⟩) (a.wn+1) cap) (a.wn+1) (a.wv++us)) (hg:W.grownBy w3 (Value.slice a.wO a.wn a.wc).ownBlock) (hat:(Value.slice a.wO a.wn a.wc).ownBlock=some g∨w.heap.size≤g):
  Lw.P B lb {a with wO:=some ⟨g,0,none⟩,wn:=a.wn+1,wc:=cap,wv:=a.wv++us} (w3.setCell ⟨lb,5,none⟩ (Value.slice (some ⟨g,0,none⟩) (a.wn+1) cap))∧FrD (a.S lb) w (w3.setCell ⟨lb,5,none⟩ (Value.slice (some ⟨g,0,none⟩) (a.wn+1) cap))∧ ∀k,Lw.S lb {a with wO:=some ⟨g,0,none⟩,wn:=a.wn+1,wc:=cap,wv:=a.wv++us} k→a.S lb k∨w.heap.size≤k:=by
 have hlb:w3.heap[lb]? =w.heap[lb]? :=(hg.block lb (Nat.lt_of_lt_of_le (lt_of_blk h.lw) hW.size) (fun e=>own_ty h.wt e.symm h.lw (by decide))).trans (hW.block lb (lt_of_blk h.lw))
 have hl3:=hlb.trans h.lw
 have set: ∀{e z n:Nat} {v:Value} {xs:List Value},w3.ownsRow B e z v n xs→e≠71→(w3.setCell ⟨lb,5,none⟩ (Value.slice (some ⟨g,0,none⟩) (a.wn+1) cap)).ownsRow B e z v n xs:=fun hr hne=>owns_keep hr (grown_set _ _ _ _) (Or.inr (fun e=>own_ty hr e hl3 (fun e2=>hne e2.symm)))
 have kp: ∀{e z n:Nat} {v:Value} {xs:List Value},w.ownsRow B e z v n xs→e≠71→(∀k,v.ownBlock=some k→(Value.slice a.wO a.wn a.wc).ownBlock≠some k)→(w3.setCell ⟨lb,5,none⟩ (Value.slice (some ⟨g,0,none⟩) (a.wn+1) cap)).ownsRow B e z v n xs:=fun hr hne hap=>set (owns_same hr (fun k hk=>(hg.block k (Nat.lt_of_lt_of_le (own_lt hr k hk).2 hW.size) (fun e=>hap k hk e.symm)).trans (hW.block k (own_lt hr k hk).2))) hne
 refine ⟨⟨blk_set hl3 5 _,kp h.dk (by decide) (fun k hk=>own_one h.dk h.wt (by decide) hk),kp h.tx (by decide) (fun k hk=>own_one h.tx h.wt (by decide) hk),set ho (by decide),kp h.et (by decide) (fun k hk e=>h.ne k e hk), ?_⟩,⟨hg.os.trans hW.os,hg.tape.trans hW.tape,hg.output.trans hW.output,by have:=hW.size;have:=hg.size;simp [World.setCell] at *;omega,fun k hk hn=> ?_⟩,fun k hk=> ?_⟩
 ·exact fun k hk he=>by
   have e1:g=k:=Option.some.inj hk
   rcases hat with h1|h1
   ·exact h.ne k (e1▸h1) he
   ·have:=(own_lt h.et k he).2;omega
 ·refine (Below.heap_setCell _ _ _ _ (by show k≠lb;exact fun e=>hn (Or.inl e))).trans ((hg.block k (Nat.lt_of_lt_of_le hk hW.size) (fun e=>hn (Or.inr (Or.inr (Or.inr (Or.inl e.symm)))))).trans (hW.block k hk))
 ·rcases hk with e|e|e|e|e
  ·exact Or.inl (Or.inl e)
  ·exact Or.inl (Or.inr (Or.inl e))
  ·exact Or.inl (Or.inr (Or.inr (Or.inl e)))
  ·have e1:g=k:=Option.some.inj e
   exact hat.imp (fun h1=>Or.inr (Or.inr (Or.inr (Or.inl (e1▸h1))))) (fun h1=>e1▸h1)
  ·exact Or.inl (Or.inr (Or.inr (Or.inr (Or.inr (e)))))
theorem Lw.putE {B lb:Nat} {a:Lw} {w W w3:World} {g cap:Nat} {us:List Value} (h:a.P B lb w) (hW:Below w.heap.size w W) (ho:w3.ownsRow B 25 1 (Value.slice (some ⟨g,0,none⟩) (a.en+1) cap) (a.en+1) (a.ev++us)) (hg:W.grownBy w3 (Value.slice a.eO a.en a.ec).ownBlock) (hat:(Value.slice a.eO a.en a.ec).ownBlock=some g∨w.heap.size≤g):
  Lw.P B lb {a with eO:=some ⟨g,0,none⟩,en:=a.en+1,ec:=cap,ev:=a.ev++us} (w3.setCell ⟨lb,6,none⟩ (Value.slice (some ⟨g,0,none⟩) (a.en+1) cap))∧FrD (a.S lb) w (w3.setCell ⟨lb,6,none⟩ (Value.slice (some ⟨g,0,none⟩) (a.en+1) cap))∧ ∀k,Lw.S lb {a with eO:=some ⟨g,0,none⟩,en:=a.en+1,ec:=cap,ev:=a.ev++us} k→a.S lb k∨w.heap.size≤k:=by
 have hlb:w3.heap[lb]? =w.heap[lb]? :=(hg.block lb (Nat.lt_of_lt_of_le (lt_of_blk h.lw) hW.size) (fun e=>own_ty h.et e.symm h.lw (by decide))).trans (hW.block lb (lt_of_blk h.lw))
 have hl3:=hlb.trans h.lw
 have set: ∀{e z n:Nat} {v:Value} {xs:List Value},w3.ownsRow B e z v n xs→e≠71→(w3.setCell ⟨lb,6,none⟩ (Value.slice (some ⟨g,0,none⟩) (a.en+1) cap)).ownsRow B e z v n xs:=fun hr hne=>owns_keep hr (grown_set _ _ _ _) (Or.inr (fun e=>own_ty hr e hl3 (fun e2=>hne e2.symm)))
 have kp: ∀{e z n:Nat} {v:Value} {xs:List Value},w.ownsRow B e z v n xs→e≠71→(∀k,v.ownBlock=some k→(Value.slice a.eO a.en a.ec).ownBlock≠some k)→(w3.setCell ⟨lb,6,none⟩ (Value.slice (some ⟨g,0,none⟩) (a.en+1) cap)).ownsRow B e z v n xs:=fun hr hne hap=>set (owns_same hr (fun k hk=>(hg.block k (Nat.lt_of_lt_of_le (own_lt hr k hk).2 hW.size) (fun e=>hap k hk e.symm)).trans (hW.block k (own_lt hr k hk).2))) hne
 refine ⟨⟨blk_set hl3 6 _,kp h.dk (by decide) (fun k hk=>own_one h.dk h.et (by decide) hk),kp h.tx (by decide) (fun k hk=>own_one h.tx h.et (by decide) hk),kp h.wt (by decide) h.ne,set ho (by decide), ?_⟩,⟨hg.os.trans hW.os,hg.tape.trans hW.tape,hg.output.trans hW.output,by have:=hW.size;have:=hg.size;simp [World.setCell] at *;omega,fun k hk hn=> ?_⟩,fun k hk=> ?_⟩
 ·exact fun k hk he=>by
   have e1:g=k:=Option.some.inj he
   rcases hat with h1|h1
   ·exact h.ne k hk (e1▸h1)
   ·have:=(own_lt h.wt k hk).2;omega
 ·refine (Below.heap_setCell _ _ _ _ (by show k≠lb;exact fun e=>hn (Or.inl e))).trans ((hg.block k (Nat.lt_of_lt_of_le hk hW.size) (fun e=>hn (Or.inr (Or.inr (Or.inr (Or.inr (e.symm))))))).trans (hW.block k hk))
 ·rcases hk with e|e|e|e|e
  ·exact Or.inl (Or.inl e)
  ·exact Or.inl (Or.inr (Or.inl e))
  ·exact Or.inl (Or.inr (Or.inr (Or.inl e)))
  ·exact Or.inl (Or.inr (Or.inr (Or.inr (Or.inl e))))
  ·have e1:g=k:=Option.some.inj e
   exact hat.imp (fun h1=>Or.inr (Or.inr (Or.inr (Or.inr ((e1▸h1)))))) (fun h1=>e1▸h1)
theorem infoVt:(Tryz.prog.info? 25).map (fun i=>(i.zero,i.size,i.bytes))=some (some (.slice none 0 0),1,24):=by kernel_rfl
theorem step_cp {w:World} {ops:Array Oper} {o:Oper} {a:Act} {K:Act→World→Prop} {Q:Exit→Act→World→Prop} {E:Prop} (hgd:o.guard=none) (s x:Operand) (ho:o.op= .call {callee:= .builtin .append,args:= #[s,x],argTypes:= #[25,25]})
  (hs:a.eval s= .slice none 0 0) {ko:Option Addr} {kc n base:Nat} {L:List ByteArray} (hn:n=L.length) (hx:a.eval x= .slice ko n kc) (hown:w.ownsRow base 9 1 (.slice ko n kc) n (strsC L)) (h8:n≤8)
  (h: ∀o5 c5 w',w'.ownsRow w.heap.size 9 1 (.slice o5 n c5) n (strsC L)→Below w.heap.size w w'→K (a.put o.dst (.slice o5 n c5)) w'):
  if Region.wanted o (yielded ops a.tmps)=true then Oper.wp Tryz.prog o a w K Q else E:=by
 have hw:Region.wanted o (yielded ops a.tmps)=true:=by simp [Region.wanted,hgd]
 rw [if_pos hw]
 obtain ⟨i0,hi0,hz0,hz1,hz2⟩:=info_parts infoVs
 subst hn
 obtain ⟨hl,⟨hv,h0⟩|⟨g,cap,cur,hv,hg,hrow,hle,hcap,hcs,htake⟩⟩:=id hown
 ·rw [hv] at hx
  have hrun:=run_append_owned_none (P:=Tryz.prog) (w:=w) w.heap.size 25 o.type 9 i0 1 Tryz.underlying25 hi0 (.slice none 0 0) 0 [] (World.ownsRow_nil _ _ _ _)
  have hfin:=h none 0 w (by
   have e:strsC L=[]:=List.eq_nil_of_length_eq_zero (by unfold strsC;rw [List.length_map];exact h0)
   rw [h0,e]
   exact World.ownsRow_nil _ _ _ _) (Below.refl _ _)
  rw [h0] at hfin
  unfold Oper.wp execOp
  simp only [ho,resolve,invoke,builtin,Sem.run_bind,Sem.run_pure,Result.andThen_ok,List.map_toArray,List.map_cons,List.map_nil,hs,hx,hrun]
  exact hfin
 ·rw [hv] at hx
  refine wp_append_own w s x 25 ho w.heap.size 9 i0 (.string ⟨#[]⟩) 1 16 Tryz.underlying25 hi0 hz0 hz1 hz2 rfl (by decide) (.slice none 0 0) 0 [] hs (World.ownsRow_nil _ _ _ _) ⟨g,0,none⟩ L.length cap (strsC L) hx (by unfold strsC;simp) ?_ ?_ ?_ ?_ (Nat.le_refl _) ?_
  ·intro j u hj
   have hjl:=(List.getElem?_eq_some_iff.1 hj).1
   have hjl2:j<L.length:=by unfold strsC at hjl;rw [List.length_map] at hjl;exact hjl
   obtain ⟨g',h1,h2,h3⟩:=owns1_at hown hjl2
   rw [hv] at hown
   cases hv
   cases h1
   rw [Addr.add_lit,Nat.zero_add,h3]
   exact hj
  ·intro u hu
   unfold strsC at hu
   obtain ⟨x,_,rfl⟩:=List.mem_map.1 hu
   rfl
  ·unfold maxLen;omega
  ·omega
  ·intro v' w' h2 h3 _
   rw [Nat.zero_add,List.nil_append] at h2
   obtain ⟨o5,c5,rfl⟩:=owns_val h2
   exact h o5 c5 w' h2 ⟨h3.os,h3.tape,h3.output,h3.size,fun k hk=>h3.block k hk (by intro e;cases e)⟩
def KpP (B lb:Nat) (a:Lw) (v:Value) (L:List ByteArray) (w w':World) (e:Ending):Prop:=e= .returned (.tuple #[])∧ ∃(wO:Option Addr) (wc:Nat) (eO:Option Addr) (ec:Nat) (ko:Option Addr) (kc:Nat) (a':Lw),a'={a with wO:=wO,wn:=a.wn+1,wc:=wc,wv:=a.wv++[v],eO:=eO,en:=a.en+1,ec:=ec,ev:=a.ev++[.slice ko L.length kc]}∧a'.P B lb w'∧FrD (a.S lb) w w'∧(∀k,a'.S lb k→a.S lb k∨w.heap.size≤k)∧w'.ownsRow B 9 1 (.slice ko L.length kc) L.length (strsC L)∧ ∀k,(Value.slice ko L.length kc).ownBlock=some k→w.heap.size≤k∧¬ a'.S lb k
theorem FrD.step {S S':Nat→Prop} {a b c:World} (h:FrD S a b) (h':FrD S' b c) (hs: ∀k,k<a.heap.size→S' k→S k):FrD S a c:=
 ⟨h'.os.trans h.os,h'.tape.trans h.tape,h'.output.trans h.output,Nat.le_trans h.size h'.size,fun k hk hn=>(h'.block k (Nat.lt_of_lt_of_le hk h.size) (fun e=>hn (hs k hk e))).trans (h.block k hk hn)⟩
theorem kp_fin {B lb:Nat} {a:Lw} {v:Value} {L:List ByteArray} {w w2 w5 q8 W:World} {g cap g8 cap8:Nat} {ko:Option Addr} {kc:Nat} (hBw:B≤w.heap.size)
  (h1:Lw.P B lb {a with wO:=some ⟨g,0,none⟩,wn:=a.wn+1,wc:=cap,wv:=a.wv++[v]} w2) (h2:FrD (a.S lb) w w2) (h3: ∀k,Lw.S lb {a with wO:=some ⟨g,0,none⟩,wn:=a.wn+1,wc:=cap,wv:=a.wv++[v]} k→a.S lb k∨w.heap.size≤k)
  (h5:Below w2.heap.size w2 w5) (hk5:w5.ownsRow w2.heap.size 9 1 (.slice ko L.length kc) L.length (strsC L)) (hW:Below w5.heap.size w5 W)
  (ho:q8.ownsRow B 25 1 (.slice (some ⟨g8,0,none⟩) (a.en+1) cap8) (a.en+1) (a.ev++[.slice ko L.length kc])) (hg:W.grownBy q8 (Value.slice a.eO a.en a.ec).ownBlock) (hat:(Value.slice a.eO a.en a.ec).ownBlock=some g8∨W.heap.size≤g8):
  KpP B lb a v L w (q8.setCell ⟨lb,6,none⟩ (.slice (some ⟨g8,0,none⟩) (a.en+1) cap8)) (.returned (.tuple #[])):=by
 have hW2:Below w2.heap.size w2 W:=h5.trans (hW.mono h5.size)
 obtain ⟨p1,p2,p3⟩:=Lw.putE (a:={a with wO:=some ⟨g,0,none⟩,wn:=a.wn+1,wc:=cap,wv:=a.wv++[v]}) (us:=[.slice ko L.length kc]) h1 hW2 ho hg (hat.imp id (fun e=>Nat.le_trans hW2.size e))
 have hlb:q8.heap[lb]? =w2.heap[lb]? :=(hg.block lb (Nat.lt_of_lt_of_le (lt_of_blk h1.lw) hW2.size) (fun e=>own_ty h1.et e.symm h1.lw (by decide))).trans (hW2.block lb (lt_of_blk h1.lw))
 have hkW:=owns_later hk5 hW
 have hkq:q8.ownsRow w2.heap.size 9 1 (.slice ko L.length kc) L.length (strsC L):=owns_same hkW (fun k hk=>hg.block k (own_lt hkW k hk).2 (fun e=>by
  have h6:=(own_lt hkW k hk).1
  have h7:=(own_lt h1.et k e.symm).2
  omega))
 have hkf:=owns_keep hkq (grown_set q8 lb 6 (.slice (some ⟨g8,0,none⟩) (a.en+1) cap8)) (Or.inr (fun e=>own_ty hkq e (hlb.trans h1.lw) (by decide)))
 refine ⟨rfl,_,_,_,_,ko,kc,_,rfl,p1,h2.step p2 (fun k hk hs=>(h3 k hs).elim id (fun e=>by omega)),fun k hk=> ?_,owns_mono hkf (Nat.le_trans hBw h2.size),fun k hk=>⟨Nat.le_trans h2.size (own_lt hkf k hk).1,fun hs=> ?_⟩⟩
 ·rcases p3 k hk with h|h
  ·exact h3 k h
  ·exact Or.inr (Nat.le_trans h2.size h)
 ·rcases hs with e|e|e|e|e
  ·subst e
   exact own_ty hkf hk p1.lw (by decide)
  ·exact own_one p1.dk hkf (by decide) e hk
  ·exact own_one p1.tx hkf (by decide) e hk
  ·exact own_one p1.wt hkf (by decide) e hk
  ·exact own_one p1.et hkf (by decide) e hk
set_option maxHeartbeats 4000000 in
set_option maxRecDepth 100000 in
theorem keepTexts_any (w:World) (B lb:Nat) (a:Lw) (hP:a.P B lb w) (hB:B≤w.heap.size) (lo:Option Addr) (lc:Nat) (ko:Option Addr) (kc base n:Nat) (L:List ByteArray) (hn:n=L.length) (hk:w.ownsRow base 9 1 (.slice ko n kc) n (strsC L)) (h8:n≤8) (hw:a.wn≤100000000) (he:a.en≤100000000):
  Calls Tryz.prog 107 #[.pointer (some ⟨lb,0,none⟩),.slice lo n lc,.slice ko n kc] w fun e w'=>KpP B lb a (.slice lo n lc) L w w' e:=by
 obtain ⟨dO,dn,dc,M,tO,tn,tc,wO,wn,wc,eO,en,ec,pv,bv,wv,ev⟩:=a
 have c5:w.cell? ⟨lb,5,none⟩=some (.slice wO wn wc):=(cell_of_blk hP.lw 5).trans rfl
 have f5:=frozen_of_blk hP.lw 5
 have hll:=lt_of_blk hP.lw
 have HN:=hide hn
 have HP:=hide hP
 have HK:=hide hk
 replace hw:wn≤100000000:=hw
 replace he:en≤100000000:=he
 clear hP hk hn
 go_enter Tryz.func107,Tryz.ntmps107
 go_wp2_with (at_builtin;go_must (refine app1 rfl _ _ 68 rfl _ B 25 infoVt rfl Tryz.underlying68 (v:= .slice wO wn wc) (n:=wn) (xs:=wv) rfl (.slice lo n lc) rfl rfl (unhide HP).wt (by omega) hB (by first|rfl|simp [World.setCell]) ?_))
 intro g cap w3 ho3 hg3 hat3
 have hba:Below w.heap.size w (w.alloc (.cells #[.slice lo n lc] 25)):=(Below.refl _ _).alloc (Nat.le_refl _) _
 have hlb3:w3.heap[lb]? =w.heap[lb]? :=(hg3.block lb (Nat.lt_of_lt_of_le hll hba.size) (fun e=>own_ty (unhide HP).wt e.symm (unhide HP).lw (by decide))).trans (hba.block lb hll)
 have hl3:=hlb3.trans (unhide HP).lw
 have d5:w3.cell? ⟨lb,5,none⟩=some (.slice wO wn wc):=(cell_of_blk hl3 5).trans rfl
 have e5:=frozen_of_blk hl3 5
 have hll3:=lt_of_blk hl3
 obtain ⟨p1,p2,p3⟩:=Lw.putW (us:=[.slice lo n lc]) (unhide HP) hba ho3 hg3 (hat3.imp id (fun e=>by omega))
 have HP1:=hide p1
 have HP2:=hide p2
 have HP3:=hide p3
 have hkns: ∀k,(Value.slice ko n kc).ownBlock=some k→¬ Lw.S lb ⟨dO,dn,dc,M,tO,tn,tc,wO,wn,wc,eO,en,ec,pv,bv,wv,ev⟩ k:=fun k hk hs=>by
  rcases hs with e|e|e|e|e
  ·subst e
   exact own_ty (unhide HK) hk (unhide HP).lw (by decide)
  ·exact own_one (unhide HP).dk (unhide HK) (by decide) e hk
  ·exact own_one (unhide HP).tx (unhide HK) (by decide) e hk
  ·exact own_one (unhide HP).wt (unhide HK) (by decide) e hk
  ·exact own_one (unhide HP).et (unhide HK) (by decide) e hk
 have HK1:=hide (owns_same (unhide HK) (fun k hk=>p2.block k (own_lt (unhide HK) k hk).2 (hkns k hk)))
 have hB1:B≤(w3.setCell ⟨lb,5,none⟩ (.slice (some ⟨g,0,none⟩) (wn+1) cap)).heap.size:=Nat.le_trans hB p2.size
 have c6:(w3.setCell ⟨lb,5,none⟩ (.slice (some ⟨g,0,none⟩) (wn+1) cap)).cell? ⟨lb,6,none⟩=some (.slice eO en ec):=(cell_of_blk p1.lw 6).trans rfl
 have f6:=frozen_of_blk p1.lw 6
 have hll4:=lt_of_blk p1.lw
 clear p1 p2 p3 ho3 hg3 hat3 hba hlb3 hl3 hkns c5 f5
 go_wp2_with fail
 generalize hWS:w3.setCell ⟨lb,5,none⟩ (.slice (some ⟨g,0,none⟩) (wn+1) cap)=wS at *
 clear hWS d5 e5 hll3
 refine wp_region_held_drew (S:=fun _=>True) (by kernel_rfl) ?_ (fun hHeld=> ?_)
 ·exact trivial
 refine wpAnyH_take (i:=0) (v:= .pointer (some ⟨lb,0,none⟩)) rfl (by kernel_rfl) (by kernel_rfl) (by kernel_rfl) (fun _ _ _ h=>h) (Or.inl ⟨by kernel_rfl,fun w hw=>by have _:=hw;go_simp⟩) hHeld ?_
 try simp only [Act.put,List.setIfInBounds_toArray,List.set_cons_zero,List.set_cons_succ,List.getElem_toArray,List.getElem_cons_succ,List.getElem_cons_zero]
 refine wpAnyH_take (i:=1) (v:= .pointer (some ⟨lb,0,none⟩)) rfl (by kernel_rfl) (by kernel_rfl) (by kernel_rfl) (fun _ _ _ h=>h) (Or.inl ⟨by kernel_rfl,fun w hw=>by have _:=hw;go_simp⟩) hHeld ?_
 try simp only [Act.put,List.setIfInBounds_toArray,List.set_cons_zero,List.set_cons_succ,List.getElem_toArray,List.getElem_cons_succ,List.getElem_cons_zero]
 refine wpAnyH_take (i:=2) (v:= .pointer (some ⟨lb,0,none⟩)) rfl (by kernel_rfl) (by kernel_rfl) (by kernel_rfl) (fun _ _ _ h=>h) (Or.inl ⟨by kernel_rfl,fun w hw=>by have _:=hw;go_simp⟩) hHeld ?_
 try simp only [Act.put,List.setIfInBounds_toArray,List.set_cons_zero,List.set_cons_succ,List.getElem_toArray,List.getElem_cons_succ,List.getElem_cons_zero]
 refine wpAnyH_take (i:=3) (v:= .pointer (some ⟨lb,6,none⟩)) rfl (by kernel_rfl) (by kernel_rfl) (by kernel_rfl) (fun _ _ _ h=>h) (Or.inl ⟨by kernel_rfl,fun w hw=>by have _:=hw;go_simp⟩) hHeld ?_
 try simp only [Act.put,List.setIfInBounds_toArray,List.set_cons_zero,List.set_cons_succ,List.getElem_toArray,List.getElem_cons_succ,List.getElem_cons_zero]
 refine wpAnyH_take (i:=5) (v:= .slice ko n kc) rfl (by kernel_rfl) (by kernel_rfl) (by kernel_rfl) (fun _ _ _ h=>h) (Or.inl ⟨by kernel_rfl,fun w hw=>by have _:=hw;go_simp⟩) hHeld ?_
 try simp only [Act.put,List.setIfInBounds_toArray,List.set_cons_zero,List.set_cons_succ,List.getElem_toArray,List.getElem_cons_succ,List.getElem_cons_zero]
 refine wpAnyH_ready (rs:=[4,6]) (by kernel_rfl) (by simp) ?_
 refine AllReadyH.cons rfl (fun K hK=> ?ra) (AllReadyH.cons rfl (fun K hK=> ?rb) AllReadyH.nil)
 case' ra=>(go_simp;refine hK.out _ _ trivial (fun hHeld=> ?_);clear hK K;refine wpAnyH_ready (rs:=[6]) (by kernel_rfl) (by simp) ?_;refine AllReadyH.cons rfl (fun K hK=> ?_) AllReadyH.nil;refine step_cp (by rfl) _ _ (by rfl) (by rfl) (unhide HN) (by rfl) (owns_later (unhide HK1) ((Below.refl _ _).drew)) h8 ?_;intro o5 c5 w5 ho5 hb5;have d6:w5.cell? ⟨lb,6,none⟩=some (.slice eO en ec):=(bcell3 hb5 _ _ (by simpa using hll4)).trans c6;have hll5:lb<w5.heap.size:=Nat.lt_of_lt_of_le (by simpa using hll4) hb5.size;refine hK.out _ _ trivial (fun hHeld=> ?_);clear hK K;refine wpAnyH_ready (rs:=[7]) (by kernel_rfl) (by simp) ?_;refine AllReadyH.cons rfl (fun K hK=> ?_) AllReadyH.nil;go_simp;refine hK.out _ _ trivial (fun hHeld=> ?_);clear hK K)
 case' rb=>(refine step_cp (by rfl) _ _ (by rfl) (by rfl) (unhide HN) (by rfl) (owns_later (unhide HK1) ((Below.refl _ _).drew)) h8 ?_;intro o5 c5 w5 ho5 hb5;have d6:w5.cell? ⟨lb,6,none⟩=some (.slice eO en ec):=(bcell3 hb5 _ _ (by simpa using hll4)).trans c6;have hll5:lb<w5.heap.size:=Nat.lt_of_lt_of_le (by simpa using hll4) hb5.size;refine hK.out _ _ trivial (fun hHeld=> ?_);clear hK K;refine wpAnyH_ready (rs:=[4,7]) (by kernel_rfl) (by simp) ?_;refine AllReadyH.cons rfl (fun K hK=> ?rc) (AllReadyH.cons rfl (fun K hK=> ?rd) AllReadyH.nil))
 case' rc=>(go_simp;refine hK.out _ _ trivial (fun hHeld=> ?_);clear hK K;refine wpAnyH_ready (rs:=[7]) (by kernel_rfl) (by simp) ?_;refine AllReadyH.cons rfl (fun K hK=> ?_) AllReadyH.nil;go_simp;refine hK.out _ _ trivial (fun hHeld=> ?_);clear hK K)
 case' rd=>(go_simp;refine hK.out _ _ trivial (fun hHeld=> ?_);clear hK K;refine wpAnyH_ready (rs:=[4]) (by kernel_rfl) (by simp) ?_;refine AllReadyH.cons rfl (fun K hK=> ?_) AllReadyH.nil;go_simp;refine hK.out _ _ trivial (fun hHeld=> ?_);clear hK K)
 all_goals (
  refine wpAnyH_ready (rs:=[8]) (by kernel_rfl) (by simp) ?_
  refine AllReadyH.cons rfl (fun K hK=> ?_) AllReadyH.nil
  have hb0:=(((Below.refl wS.heap.size wS).drew).trans hb5)
  have hbW:Below w5.heap.size w5 (w5.alloc (.cells #[.slice o5 n c5] 25)):=(Below.refl _ _).alloc (Nat.le_refl _) _
  have hbS:Below wS.heap.size wS (w5.alloc (.cells #[.slice o5 n c5] 25)):=hb0.trans (hbW.mono hb0.size)
  refine stp1 (by rfl) _ _ 68 (by rfl) B 25 infoVt rfl Tryz.underlying68 (v:= .slice eO en ec) (n:=en) (xs:=ev) (by rfl) (.slice o5 n c5) (by rfl) rfl (owns_later (unhide HP1).et hbS) (blk_alloc _ _) (by omega) (Nat.le_trans hB1 hbS.size) ?_
  intro g8 cap8 q8 ho8 hg8 hat8
  have HFIN:=hide (kp_fin (L:=L) hB (unhide HP1) (unhide HP2) (unhide HP3) hb0 (by rw [←unhide HN];exact owns_mono ho5 (Nat.le_refl _)) hbW (by rw [←unhide HN];exact ho8) hg8 hat8)
  have hq:=(hg8.block lb (Nat.lt_of_lt_of_le hll4 hbS.size) (fun e=>own_ty (unhide HP1).et e.symm (unhide HP1).lw (by decide))).trans ((hbS.block lb hll4).trans (unhide HP1).lw)
  have q6:q8.cell? ⟨lb,6,none⟩=some (.slice eO en ec):=(cell_of_blk hq 6).trans rfl
  have qf:=frozen_of_blk hq 6
  have ql:=lt_of_blk hq
  clear ho8 hg8 hat8 hq hbS hbW hb0 ho5 hb5 d6 hll5
  refine hK.out _ _ trivial (fun hHeld=> ?_)
  clear hK K
  refine wpAnyH_take (i:=9) (v:= .pointer (some ⟨lb,0,none⟩)) rfl (by kernel_rfl) (by kernel_rfl) (by kernel_rfl) (fun _ _ _ h=>h) (Or.inl ⟨by kernel_rfl,fun w hw=>by have _:=hw;go_simp⟩) hHeld ?_
  try simp only [Act.put,List.setIfInBounds_toArray,List.set_cons_zero,List.set_cons_succ,List.getElem_toArray,List.getElem_cons_succ,List.getElem_cons_zero]
  refine wpAnyH_take (i:=10) (v:= .pointer (some ⟨lb,6,none⟩)) rfl (by kernel_rfl) (by kernel_rfl) (by kernel_rfl) (fun _ _ _ h=>h) (Or.inl ⟨by kernel_rfl,fun w hw=>by have _:=hw;go_simp⟩) hHeld ?_
  try simp only [Act.put,List.setIfInBounds_toArray,List.set_cons_zero,List.set_cons_succ,List.getElem_toArray,List.getElem_cons_succ,List.getElem_cons_zero]
  refine wpAnyH_ready (rs:=[11]) (by kernel_rfl) (by simp) ?_
  refine AllReadyH.cons rfl (fun K hK=> ?_) AllReadyH.nil
  go_simp
  refine hK.out _ _ trivial (fun hHeld=> ?_)
  clear hK K
  refine wpAnyH_done (by kernel_rfl) ?_ _
  clear hHeld
  go_end0
  exact unhide HFIN)
def LF (B lb:Nat) (X:List Th) (w0 w:World) (N:Nat):Prop:= ∃a ds bs ws,LI B lb X w0 w N a ds bs ws∧a.wv=ws.map Wt.l∧a.ev=ws.map Wt.k
theorem LF.later {B lb:Nat} {X:List Th} {w0 w w':World} {N:Nat} (h:LF B lb X w0 w N) (hb:Below w.heap.size w w'):LF B lb X w0 w' N:=by
 obtain ⟨a,ds,bs,ws,h1,h2,h3⟩:=h
 exact ⟨a,ds,bs,ws,h1.later hb,h2,h3⟩
def StQ (B lb:Nat) (X:List Th) (w0:World) (N:Nat) (w':World) (e:Ending):Prop:=e= .returned (.bool true)∧LF B lb X w0 w' (N+1)
theorem Tryz.infoPair:(Tryz.prog.info? 112).map (fun i=>(i.zero,i.size,i.bytes))=some (some (.agg #[.pointer none,.pointer none]),2,16):=by kernel_rfl
theorem DrP.base {w:World} {base B rd:Nat} {t:Tb} {cs:List Cs} {A n ab a0 fb f0 nb n0 ac fc nc:Nat} {rb ro rc:Nat→Nat} {lo:Option Addr} {lc:Nat} (h:DrP w base rd t cs A n ab a0 fb f0 nb n0 ac fc nc rb ro rc lo lc) (hB:B≤base):DrP w B rd t cs A n ab a0 fb f0 nb n0 ac fc nc rb ro rc lo lc:=⟨h.blk,h.tb,owns_mono h.ls hB,h.nd,h.st,h.few,h.sep⟩
theorem open_fin {B lb:Nat} {X:List Th} {w0 w w1 w2 W w8:World} {N:Nat} {a:Lw} {ds:List Dd} {bs:List Bk} {ws:List Wt} (h:LI B lb X w0 w N a ds bs ws) (hwv:a.wv=ws.map Wt.l) (hev:a.ev=ws.map Wt.k) (hb1:Below w.heap.size w w1) (hb2:Below w1.heap.size w1 w2) {d:Dd} (hD:d.dP w1) (hR:d.rP w1.heap.size w2) (hcs:d.cs=[])
  (hld: ∀k,d.dS k→w.heap.size≤k) (hlr: ∀k,d.rS k→w1.heap.size≤k) (hW:Below w2.heap.size w2 W) {g8 c8:Nat}
  (ho:w8.ownsRow B 112 2 (.slice (some ⟨g8,0,none⟩) (a.dn+1) c8) (a.dn+1) (a.pv++[.pointer (some ⟨d.db,0,none⟩),.pointer (some ⟨d.rd,0,none⟩)])) (hg:W.grownBy w8 (Value.slice a.dO a.dn a.dc).ownBlock) (hat:(Value.slice a.dO a.dn a.dc).ownBlock=some g8∨W.heap.size≤g8):
  LF B lb X w0 (w8.setCell ⟨lb,0,none⟩ (.slice (some ⟨g8,0,none⟩) (a.dn+1) c8)) (N+1):=by
 have hb12:Below w.heap.size w w2:=hb1.trans (hb2.mono hb1.size)
 have h2:=h.later hb12
 obtain ⟨p1,p2,p3⟩:=Lw.putD h2.law hW ho hg (hat.imp id (fun e=>Nat.le_trans hW.size e))
 have hd2:d.dP w2:=(Dd.dOk hD).keep w2 hb2.size (fun k hk=>hb2.block k ((Dd.dOk hD).lt k hk))
 refine ⟨_,ds++[d],bs,ws,LI.open h hb12 hd2 (DrP.base hR (Nat.le_trans h.hB hb1.size)) (fun k k1 k2=> ?_) hld (fun k hk=>Nat.le_trans hb1.size (hlr k hk)) hcs p2 p1 p3 ?_ rfl h.M,hwv,hev⟩
 ·have:=(Dd.dOk hD).lt k k1
  have:=hlr k k2
  omega
 ·show a.pv++_=_
  rw [prC_snoc,h.pv]
set_option maxHeartbeats 4000000 in
set_option maxRecDepth 100000 in
theorem opened_any (B lb:Nat) (X:List Th) (w0 w:World) (N:Nat) (hF:LF B lb X w0 w N) (hG:GV w0) (hN:N≤10000000) (b:ByteArray):
  Calls Tryz.prog 56 #[.pointer (some ⟨lb,0,none⟩),.string b] w fun e w'=>StQ B lb X w0 N w' e:=by
 obtain ⟨a,ds,bs,ws,h,hwv,hev⟩:=hF
 obtain ⟨i0,hi0,hz0,hz1,hz2⟩:=info_parts Tryz.infoPair
 have HO:=hide (Open_any w b (h.gv hG))
 have HH:=hide h
 have HWV:=hide hwv
 have HEV:=hide hev
 have hdn:a.dn≤10000000:=by have:=h.nd;have:=h.dn;omega
 clear h hwv hev hG
 go_enter Tryz.func56,Tryz.ntmps56
 go_wp2_with fail
 refine (unhide HO).mono ?_
 clear HO
 rintro e w1 ⟨hb1,hp⟩
 have HR:=hide (OpenR_any w1 b)
 have HB1:=hide hb1
 clear hb1
 rcases hp with ⟨hd,rfl⟩|⟨t,hd,h2,rfl⟩|⟨t,db,A,n,ab,a0,fb,f0,nb,n0,ac,fc,nc,rb,ro,rc,mb,pb,D,hd,h2,rfl,hD,hl1,hl2,hl3,hl4,hl5,hl6⟩
 ·have HDD:=hide hd
  clear hd
  go_wp2_with fail
  refine (unhide HR).mono ?_
  clear HR
  rintro e w2 ⟨hb2,hq⟩
  have HLF:=hide (show LF B lb X w0 w2 (N+1) from ⟨a,ds,bs,ws,(((unhide HH).later (unhide HB1)).later hb2).more (Nat.le_succ _),unhide HWV,unhide HEV⟩)
  have hee:e= .returned (.tuple #[.pointer none,.int .i64 6]):=by
   rcases hq with ⟨hd',rfl⟩|⟨t',hd',h2',rfl⟩|⟨t',rd,A',n',ab',a0',fb',f0',nb',n0',ac',fc',nc',rb',ro',rc',hd',h2',rfl,_⟩
   ·rfl
   ·cases (unhide HDD).uniq hd'
   ·cases (unhide HDD).uniq hd'
  subst hee
  clear hq hb2
  go_wp2_with (go_at_call 93;refine (num_any _ _).mono ?_)
  rintro e w8 ⟨rfl,hw8⟩
  have hw:=hw8.symm
  clear hw8
  subst hw
  go_wp2_with fail
  go_ret
  exact ⟨rfl,unhide HLF⟩
 ·have HDD:=hide hd
  have H2:=hide h2
  clear hd h2
  go_wp2_with fail
  refine (unhide HR).mono ?_
  clear HR
  rintro e w2 ⟨hb2,hq⟩
  have HLF:=hide (show LF B lb X w0 w2 (N+1) from ⟨a,ds,bs,ws,(((unhide HH).later (unhide HB1)).later hb2).more (Nat.le_succ _),unhide HWV,unhide HEV⟩)
  have hee:e= .returned (.tuple #[.pointer none,.int .i64 7]):=by
   rcases hq with ⟨hd',rfl⟩|⟨t',hd',h2',rfl⟩|⟨t',rd,A',n',ab',a0',fb',f0',nb',n0',ac',fc',nc',rb',ro',rc',hd',h2',rfl,_⟩
   ·cases (unhide HDD).uniq hd'
   ·rfl
   ·have e:=Option.some.inj ((unhide HDD).uniq hd')
    subst e
    exact absurd h2' (unhide H2)
  subst hee
  clear hq hb2
  go_wp2_with (go_at_call 93;refine (num_any _ _).mono ?_)
  rintro e w8 ⟨rfl,hw8⟩
  have hw:=hw8.symm
  clear hw8
  subst hw
  go_wp2_with fail
  go_ret
  exact ⟨rfl,unhide HLF⟩
 ·have HDD:=hide hd
  have HD:=hide hD
  have HL:Hid (∀k,Dd.dS ⟨t,[],db,⟨A,n,ab,a0,fb,f0,nb,n0,ac,fc,nc,rb,ro,rc⟩,mb,pb,D,0,⟨A,n,ab,a0,fb,f0,nb,n0,ac,fc,nc,rb,ro,rc⟩,none,0⟩ k→w.heap.size≤k):=fun k hk=>by
   rcases hk with rfl|(rfl|rfl|rfl|⟨i,hi,rfl⟩)|rfl|⟨c,hc,_⟩
   ·exact hl1
   ·exact hl3
   ·exact hl4
   ·exact hl5
   ·exact hl6 i hi
   ·exact hl2
   ·exact (List.not_mem_nil hc).elim
  have H2:=hide h2
  clear hd hD hl1 hl2 hl3 hl4 hl5 hl6 h2
  go_wp2_with fail
  refine (unhide HR).mono ?_
  clear HR
  rintro e w2 ⟨hb2,hq⟩
  have hee: ∃rd A' n' ab' a0' fb' f0' nb' n0' ac' fc' nc' rb' ro' rc',e= .returned (.tuple #[.pointer (some ⟨rd,0,none⟩),.int .i64 0])∧DrP w2 w1.heap.size rd t [] A' n' ab' a0' fb' f0' nb' n0' ac' fc' nc' rb' ro' rc' none 0∧w1.heap.size≤rd∧w1.heap.size≤ab'∧w1.heap.size≤fb'∧w1.heap.size≤nb'∧ ∀i,i<n'→w1.heap.size≤rb' i:=by
   rcases hq with ⟨hd',rfl⟩|⟨t',hd',h2',rfl⟩|⟨t',rd,A',n',ab',a0',fb',f0',nb',n0',ac',fc',nc',rb',ro',rc',hd',h2',rfl,hrest⟩
   ·cases (unhide HDD).uniq hd'
   ·have e:=Option.some.inj ((unhide HDD).uniq hd')
    subst e
    exact absurd (unhide H2) h2'
   ·have e:=Option.some.inj ((unhide HDD).uniq hd')
    subst e
    exact ⟨rd,A',n',ab',a0',fb',f0',nb',n0',ac',fc',nc',rb',ro',rc',rfl,hrest⟩
  obtain ⟨rd,A',n',ab',a0',fb',f0',nb',n0',ac',fc',nc',rb',ro',rc',rfl,hR,hm1,hm2,hm3,hm4,hm5⟩:=hee
  have HLR:Hid (∀k,Dd.rS ⟨t,[],db,⟨A,n,ab,a0,fb,f0,nb,n0,ac,fc,nc,rb,ro,rc⟩,mb,pb,D,rd,⟨A',n',ab',a0',fb',f0',nb',n0',ac',fc',nc',rb',ro',rc'⟩,none,0⟩ k→w1.heap.size≤k):=fun k hk=>by
   rcases hk with (rfl|rfl|rfl|⟨i,hi,rfl⟩)|rfl|hk
   ·exact hm2
   ·exact hm3
   ·exact hm4
   ·exact hm5 i hi
   ·exact hm1
   ·cases hk
  have HRR:=hide hR
  have HB2:=hide hb2
  have hI2:=((unhide HH).later (unhide HB1)).later hb2
  have HI2:=hide hI2
  have c0:w2.cell? ⟨lb,0,none⟩=some (.slice a.dO a.dn a.dc):=(cell_of_blk hI2.law.lw 0).trans rfl
  have l0:=lt_of_blk hI2.law.lw
  clear hI2 hR hm1 hm2 hm3 hm4 hm5 hb2 hq
  go_wp2_with (go_at_call 93;refine (num_any _ _).mono ?_)
  rintro e w8 ⟨rfl,hw8⟩
  have hw:=hw8.symm
  clear hw8
  subst hw
  go_wp2_with (at_builtin;go_must (refine wpList_append_lies _ rfl _ _ 64 rfl B 112 i0 (.agg #[.pointer none,.pointer none]) 2 16 Tryz.underlying64 hi0 hz0 hz1 hz2 rfl (by decide) _ a.dn a.pv rfl ?c0 _ 1 1 [.pointer (some ⟨db,0,none⟩),.pointer (some ⟨rd,0,none⟩)] rfl rfl ?c1 ?c2 (by decide) ?c3 ?c4 ?c5 (w2.heap.size+1) (by simp) ?_))
  case c0=>exact (unhide HI2).law.dk.alloc _
  case c1=>
   intro j u hj
   match j,hj with
   |0,hj=>simp at hj;subst hj;exact cell_of_blk (blk_alloc' _ _ _ (by simp)) 0
   |1,hj=>simp at hj;subst hj;exact cell_of_blk (blk_alloc' _ _ _ (by simp)) 1
   |j+2,hj=>simp at hj
  case c2=>intro u hu;simp at hu;rcases hu with rfl|rfl<;>rfl
  case c3=>unfold maxLen;omega
  case c4=>omega
  case c5=>have:=(unhide HI2).hB;simp;omega
  intro g8 c8 w8 ho8 hg8 hat8 hlt8
  have HFIN:=hide (open_fin (d:=⟨t,[],db,⟨A,n,ab,a0,fb,f0,nb,n0,ac,fc,nc,rb,ro,rc⟩,mb,pb,D,rd,⟨A',n',ab',a0',fb',f0',nb',n0',ac',fc',nc',rb',ro',rc'⟩,none,0⟩) (unhide HH) (unhide HWV) (unhide HEV) (unhide HB1) (unhide HB2) (unhide HD) (unhide HRR) rfl (unhide HL) (unhide HLR) ((Below.refl _ _).alloc (Nat.le_refl _) _) ho8 hg8 (hat8.imp id (fun e=>by rw [e];simp)))
  have hbw:Below w2.heap.size w2 (w2.alloc (.cells #[.pointer (some ⟨db,0,none⟩),.pointer (some ⟨rd,0,none⟩)] 112)):=(Below.refl _ _).alloc (Nat.le_refl _) _
  have hlw8:=(hg8.block lb (Nat.lt_of_lt_of_le l0 hbw.size) (fun e=>own_ty (unhide HI2).law.dk e.symm (unhide HI2).law.lw (by decide))).trans ((hbw.block lb l0).trans (unhide HI2).law.lw)
  have d0:w8.cell? ⟨lb,0,none⟩=some (.slice a.dO a.dn a.dc):=(cell_of_blk hlw8 0).trans rfl
  have e0:=frozen_of_blk hlw8 0
  have m0:=lt_of_blk hlw8
  clear ho8 hg8 hat8 hlt8 hbw hlw8 c0 l0
  go_wp2_with fail
  go_ret
  exact ⟨rfl,unhide HFIN⟩
theorem ev_start {cs:List Cs} {id:ByteArray} {N:Nat} (h:EvOk N cs) (hid:id.size≤140737488355328):EvOk (N+1) (dkStart cs id).1:=fun c hc=>by
 unfold dkStart at hc
 cases e:csAt cs id with
 |some x=>rw [e] at hc;exact h.up (Nat.le_succ _) c hc
 |none=>
  rw [e] at hc
  by_cases h8:8≤cs.length
  ·simp only [if_pos h8] at hc;exact h.up (Nat.le_succ _) c hc
  ·simp only [if_neg h8] at hc
   rcases List.mem_append.1 hc with hc|hc
   ·exact h.up (Nat.le_succ _) c hc
   ·rw [List.mem_singleton.1 hc];exact ⟨Nat.zero_le _,hid⟩
theorem ev_event {t:Tb} {cs:List Cs} {id act:ByteArray} {N:Nat} (h:EvOk N cs) (hid:id.size≤140737488355328):EvOk (N+1) (dkEvent t cs id act).1:=fun c hc=>by
 unfold dkEvent at hc
 cases e:csAt cs id with
 |none=>rw [e] at hc;exact h.up (Nat.le_succ _) c hc
 |some x=>
  rw [e] at hc
  by_cases h0:(dkStep t x.st act).2=0
  ·simp only [if_pos h0] at hc
   rcases csPut_mem hc with ⟨_,hc⟩|⟨rfl,_⟩
   ·exact h.up (Nat.le_succ _) c hc
   ·exact ⟨Nat.succ_le_succ (h x (csAt_some e).1).1,hid⟩
  ·simp only [if_neg h0] at hc;exact h.up (Nat.le_succ _) c hc
theorem ev_end {t:Tb} {cs:List Cs} {id:ByteArray} {N:Nat} (h:EvOk N cs) (hid:id.size≤140737488355328):EvOk (N+1) (dkEnd t cs id).1:=fun c hc=>by
 unfold dkEnd at hc
 cases e:csAt cs id with
 |none=>rw [e] at hc;exact h.up (Nat.le_succ _) c hc
 |some x=>
  rw [e] at hc
  by_cases h0:accT t x.st=true
  ·simp only [if_pos h0] at hc;exact h.up (Nat.le_succ _) c (csDel_mem.1 hc).1
  ·simp only [if_neg h0] at hc;exact h.up (Nat.le_succ _) c hc
theorem event_ids (t:Tb) (cs:List Cs) (id act:ByteArray):(dkEvent t cs id act).1.map (·.id)=cs.map (·.id):=by
 unfold dkEvent
 cases e:csAt cs id with
 |none=>rfl
 |some x=>
  by_cases h0:(dkStep t x.st act).2=0
  ·simp only [if_pos h0];exact csPut_ids _ _ _ _
  ·simp only [if_neg h0]
theorem event_Sb {t:Tb} {cs:List Cs} {id act:ByteArray} {mb:Nat} {pb:ByteArray→Nat} {k:Nat} (h:DkS (dkEvent t cs id act).1 mb pb k):DkS cs mb pb k:=by
 rcases h with h|⟨c,hc,h⟩
 ·exact Or.inl h
 ·have:c.id∈cs.map (·.id):=event_ids t cs id act▸List.mem_map.2 ⟨c,hc,rfl⟩
  obtain ⟨c',hc',e⟩:=List.mem_map.1 this
  exact Or.inr ⟨c',hc',by rw [e];exact h⟩
def GoP (B lb:Nat) (X:List Th) (w0:World) (N:Nat) (a:Lw) (l r:List Dd) (bs:List Bk) (ws:List Wt) (w':World) (e:Ending):Prop:=e= .returned (.bool true)∧ ∃d',LI B lb X w0 w' (N+1) a (l++d'::r) bs ws
set_option maxHeartbeats 4000000 in
set_option maxRecDepth 100000 in
theorem goes_any (B lb:Nat) (X:List Th) (w0 w:World) (N:Nat) (a:Lw) (l r:List Dd) (d:Dd) (bs:List Bk) (ws:List Wt) (h:LI B lb X w0 w N a (l++d::r) bs ws) (hN:N≤10000000) (kd oa:Int) (hkd:kd=10∨kd=11∨kd=14) (os ot:ByteArray) (hos:os.size≤140737488355328) (l1:Option Addr) (l2 l3:Nat) (f1:Option Addr) (f2 f3:Nat) (m1:Option Addr) (m2 m3:Nat):
  Calls Tryz.prog 59 #[.agg #[.pointer (some ⟨d.db,0,none⟩),.pointer (some ⟨d.rd,0,none⟩)],.agg #[.int .i64 kd,.int .i64 oa,.string os,.string ot,.slice l1 l2 l3,.slice f1 f2 f3,.slice m1 m2 m3]] w fun e w'=>GoP B lb X w0 N a l r bs ws w' e:=by
 have hmem:d∈l++d::r:=List.mem_append_right _ (List.mem_cons_self ..)
 have hevs: ∀c∈d.cs,c.ev≤4611686018427387904:=fun c hc=>Nat.le_trans (h.evs d hmem c hc).1 (by omega)
 have hevN:=h.evs d hmem
 have hdl:=(Dd.dOk (h.desk hmem).1).lt
 rcases hkd with rfl|rfl|rfl
 ·have hbW:Below w.heap.size w ((w.alloc (.cells #[.pointer (some ⟨d.db,0,none⟩),.pointer (some ⟨d.rd,0,none⟩)] 112)).alloc (.cells #[.int .i64 10,.int .i64 oa,.string os,.string ot,.slice l1 l2 l3,.slice f1 f2 f3,.slice m1 m2 m3] 74)):=((Below.refl _ _).alloc (Nat.le_refl _) _).alloc (by simp) _
  have HBP:Hid (((w.alloc (.cells #[.pointer (some ⟨d.db,0,none⟩),.pointer (some ⟨d.rd,0,none⟩)] 112)).alloc (.cells #[.int .i64 10,.int .i64 oa,.string os,.string ot,.slice l1 l2 l3,.slice f1 f2 f3,.slice m1 m2 m3] 74)).heap[w.heap.size]? =some (.cells #[.pointer (some ⟨d.db,0,none⟩),.pointer (some ⟨d.rd,0,none⟩)] 112 (0,0))):=(Below.heap_alloc _ _ _ (by simp)).trans (blk_alloc _ _)
  have HBO:Hid (((w.alloc (.cells #[.pointer (some ⟨d.db,0,none⟩),.pointer (some ⟨d.rd,0,none⟩)] 112)).alloc (.cells #[.int .i64 10,.int .i64 oa,.string os,.string ot,.slice l1 l2 l3,.slice f1 f2 f3,.slice m1 m2 m3] 74)).heap[w.heap.size+1]? =some (.cells #[.int .i64 10,.int .i64 oa,.string os,.string ot,.slice l1 l2 l3,.slice f1 f2 f3,.slice m1 m2 m3] 74 (0,0))):=blk_alloc' _ _ _ (by simp)
  have hI:=h.later hbW
  have HST:=hide (Start_any _ d.db d.t d.cs d.p.A d.p.n d.p.ab d.p.a0 d.p.fb d.p.f0 d.p.nb d.p.n0 d.p.ac d.p.fc d.p.nc d.p.rb d.p.ro d.p.rc d.mb d.pb d.D (hI.desk hmem).1 os hos)
  have HI:=hide hI
  have HDL:=hide hdl
  have HEV:=hide hevN
  have HEVS:=hide hevs
  clear hI h hdl hevN hevs hmem hbW
  go_enter Tryz.func59,Tryz.ntmps59
  go_wp2_with fail
  refine (unhide HST).mono ?_
  clear HST
  generalize ((w.alloc (.cells #[.pointer (some ⟨d.db,0,none⟩),.pointer (some ⟨d.rd,0,none⟩)] 112)).alloc (.cells #[.int .i64 10,.int .i64 oa,.string os,.string ot,.slice l1 l2 l3,.slice f1 f2 f3,.slice m1 m2 m3] 74))=W at *
  rintro e w1 ⟨rfl,hf,pb',D',hdk,hs⟩
  obtain ⟨ht,hb,hrp⟩:=LI.go1 (cs':=(dkStart d.cs os).1) (unhide HI) hf hdk hs
  have nS: ∀k,w.heap.size≤k→¬ DkS d.cs d.mb d.pb k:=fun k hk hs=>by have:=unhide HDL k (Or.inr (Or.inr hs));omega
  have hp1:=(hf.block _ (lt_of_blk (unhide HBP)) (nS _ (Nat.le_refl _))).trans (unhide HBP)
  have ho1:=(hf.block _ (lt_of_blk (unhide HBO)) (nS _ (Nat.le_succ _))).trans (unhide HBO)
  have pc:=fun o=>cell_of_blk hp1 o
  have oc:=fun o=>cell_of_blk ho1 o
  have pl:=lt_of_blk hp1
  have ol:=lt_of_blk ho1
  have hBw:B≤w1.heap.size:=Nat.le_trans (unhide HI).hB hb.size
  have HST:=hide (StartR_any w1 B d.rd d.t d.cs d.q.A d.q.n d.q.ab d.q.a0 d.q.fb d.q.f0 d.q.nb d.q.n0 d.q.ac d.q.fc d.q.nc d.q.rb d.q.ro d.q.rc d.lo d.lc hrp hBw os)
  have HT:=hide ht
  have HB:=hide hb
  clear ht hb hrp nS hp1 ho1 hf hdk hs
  go_wp2_with fail
  refine (unhide HST).mono ?_
  clear HST pc oc pl ol
  rintro e w2 ⟨rfl,hf2,lo',lc',hdr,hs2⟩
  have HFIN:=hide (LI.go2 (unhide HI) (unhide HT) (unhide HB) hf2 hdr hs2 (ev_start (unhide HEV) hos))
  clear hf2 hdr hs2
  go_wp2_with (go_at_call 93;refine (num_any _ _).mono ?_)
  rintro e w8 ⟨rfl,hw8⟩
  have hw:=hw8.symm
  clear hw8
  subst hw
  go_wp2_with fail
  go_ret
  exact ⟨ret_bool (by simp),_,unhide HFIN⟩
 ·have hbW:Below w.heap.size w ((w.alloc (.cells #[.pointer (some ⟨d.db,0,none⟩),.pointer (some ⟨d.rd,0,none⟩)] 112)).alloc (.cells #[.int .i64 11,.int .i64 oa,.string os,.string ot,.slice l1 l2 l3,.slice f1 f2 f3,.slice m1 m2 m3] 74)):=((Below.refl _ _).alloc (Nat.le_refl _) _).alloc (by simp) _
  have HBP:Hid (((w.alloc (.cells #[.pointer (some ⟨d.db,0,none⟩),.pointer (some ⟨d.rd,0,none⟩)] 112)).alloc (.cells #[.int .i64 11,.int .i64 oa,.string os,.string ot,.slice l1 l2 l3,.slice f1 f2 f3,.slice m1 m2 m3] 74)).heap[w.heap.size]? =some (.cells #[.pointer (some ⟨d.db,0,none⟩),.pointer (some ⟨d.rd,0,none⟩)] 112 (0,0))):=(Below.heap_alloc _ _ _ (by simp)).trans (blk_alloc _ _)
  have HBO:Hid (((w.alloc (.cells #[.pointer (some ⟨d.db,0,none⟩),.pointer (some ⟨d.rd,0,none⟩)] 112)).alloc (.cells #[.int .i64 11,.int .i64 oa,.string os,.string ot,.slice l1 l2 l3,.slice f1 f2 f3,.slice m1 m2 m3] 74)).heap[w.heap.size+1]? =some (.cells #[.int .i64 11,.int .i64 oa,.string os,.string ot,.slice l1 l2 l3,.slice f1 f2 f3,.slice m1 m2 m3] 74 (0,0))):=blk_alloc' _ _ _ (by simp)
  have hI:=h.later hbW
  have HST:=hide (Event_any _ d.db d.t d.cs d.p.A d.p.n d.p.ab d.p.a0 d.p.fb d.p.f0 d.p.nb d.p.n0 d.p.ac d.p.fc d.p.nc d.p.rb d.p.ro d.p.rc d.mb d.pb d.D (hI.desk hmem).1 os ot hos hevs)
  have HI:=hide hI
  have HDL:=hide hdl
  have HEV:=hide hevN
  have HEVS:=hide hevs
  clear hI h hdl hevN hevs hmem hbW
  go_enter Tryz.func59,Tryz.ntmps59
  go_wp2_with fail
  refine (unhide HST).mono ?_
  clear HST
  generalize ((w.alloc (.cells #[.pointer (some ⟨d.db,0,none⟩),.pointer (some ⟨d.rd,0,none⟩)] 112)).alloc (.cells #[.int .i64 11,.int .i64 oa,.string os,.string ot,.slice l1 l2 l3,.slice f1 f2 f3,.slice m1 m2 m3] 74))=W at *
  rintro e w1 ⟨rfl,hf,hdk⟩
  obtain ⟨ht,hb,hrp⟩:=LI.go1 (cs':=(dkEvent d.t d.cs os ot).1) (pb':=d.pb) (D':=d.D) (unhide HI) hf hdk (fun k hk=>Or.inl (event_Sb hk))
  have nS: ∀k,w.heap.size≤k→¬ DkS d.cs d.mb d.pb k:=fun k hk hs=>by have:=unhide HDL k (Or.inr (Or.inr hs));omega
  have hp1:=(hf.block _ (lt_of_blk (unhide HBP)) (nS _ (Nat.le_refl _))).trans (unhide HBP)
  have ho1:=(hf.block _ (lt_of_blk (unhide HBO)) (nS _ (Nat.le_succ _))).trans (unhide HBO)
  have pc:=fun o=>cell_of_blk hp1 o
  have oc:=fun o=>cell_of_blk ho1 o
  have pl:=lt_of_blk hp1
  have ol:=lt_of_blk ho1
  have hBw:B≤w1.heap.size:=Nat.le_trans (unhide HI).hB hb.size
  have HST:=hide (EventR_any w1 B d.rd d.t d.cs d.q.A d.q.n d.q.ab d.q.a0 d.q.fb d.q.f0 d.q.nb d.q.n0 d.q.ac d.q.fc d.q.nc d.q.rb d.q.ro d.q.rc d.lo d.lc hrp os ot (unhide HEVS))
  have HT:=hide ht
  have HB:=hide hb
  clear ht hb hrp nS hp1 ho1 hf hdk
  go_wp2_with fail
  refine (unhide HST).mono ?_
  clear HST pc oc pl ol
  rintro e w2 ⟨rfl,hf2,lo',lc',hdr,hs2⟩
  have HFIN:=hide (LI.go2 (unhide HI) (unhide HT) (unhide HB) hf2 hdr hs2 (ev_event (unhide HEV) hos))
  clear hf2 hdr hs2
  go_wp2_with (go_at_call 93;refine (num_any _ _).mono ?_)
  rintro e w8 ⟨rfl,hw8⟩
  have hw:=hw8.symm
  clear hw8
  subst hw
  go_wp2_with fail
  go_ret
  exact ⟨ret_bool (by simp),_,unhide HFIN⟩
 ·have hbW:Below w.heap.size w ((w.alloc (.cells #[.pointer (some ⟨d.db,0,none⟩),.pointer (some ⟨d.rd,0,none⟩)] 112)).alloc (.cells #[.int .i64 14,.int .i64 oa,.string os,.string ot,.slice l1 l2 l3,.slice f1 f2 f3,.slice m1 m2 m3] 74)):=((Below.refl _ _).alloc (Nat.le_refl _) _).alloc (by simp) _
  have HBP:Hid (((w.alloc (.cells #[.pointer (some ⟨d.db,0,none⟩),.pointer (some ⟨d.rd,0,none⟩)] 112)).alloc (.cells #[.int .i64 14,.int .i64 oa,.string os,.string ot,.slice l1 l2 l3,.slice f1 f2 f3,.slice m1 m2 m3] 74)).heap[w.heap.size]? =some (.cells #[.pointer (some ⟨d.db,0,none⟩),.pointer (some ⟨d.rd,0,none⟩)] 112 (0,0))):=(Below.heap_alloc _ _ _ (by simp)).trans (blk_alloc _ _)
  have HBO:Hid (((w.alloc (.cells #[.pointer (some ⟨d.db,0,none⟩),.pointer (some ⟨d.rd,0,none⟩)] 112)).alloc (.cells #[.int .i64 14,.int .i64 oa,.string os,.string ot,.slice l1 l2 l3,.slice f1 f2 f3,.slice m1 m2 m3] 74)).heap[w.heap.size+1]? =some (.cells #[.int .i64 14,.int .i64 oa,.string os,.string ot,.slice l1 l2 l3,.slice f1 f2 f3,.slice m1 m2 m3] 74 (0,0))):=blk_alloc' _ _ _ (by simp)
  have hI:=h.later hbW
  have HST:=hide (End_any _ d.db d.t d.cs d.p.A d.p.n d.p.ab d.p.a0 d.p.fb d.p.f0 d.p.nb d.p.n0 d.p.ac d.p.fc d.p.nc d.p.rb d.p.ro d.p.rc d.mb d.pb d.D (hI.desk hmem).1 os hos)
  have HI:=hide hI
  have HDL:=hide hdl
  have HEV:=hide hevN
  have HEVS:=hide hevs
  clear hI h hdl hevN hevs hmem hbW
  go_enter Tryz.func59,Tryz.ntmps59
  go_wp2_with fail
  refine (unhide HST).mono ?_
  clear HST
  generalize ((w.alloc (.cells #[.pointer (some ⟨d.db,0,none⟩),.pointer (some ⟨d.rd,0,none⟩)] 112)).alloc (.cells #[.int .i64 14,.int .i64 oa,.string os,.string ot,.slice l1 l2 l3,.slice f1 f2 f3,.slice m1 m2 m3] 74))=W at *
  rintro e w1 ⟨rfl,hf,pb',D',hdk,hs⟩
  obtain ⟨ht,hb,hrp⟩:=LI.go1 (cs':=(dkEnd d.t d.cs os).1) (unhide HI) hf hdk hs
  have nS: ∀k,w.heap.size≤k→¬ DkS d.cs d.mb d.pb k:=fun k hk hs=>by have:=unhide HDL k (Or.inr (Or.inr hs));omega
  have hp1:=(hf.block _ (lt_of_blk (unhide HBP)) (nS _ (Nat.le_refl _))).trans (unhide HBP)
  have ho1:=(hf.block _ (lt_of_blk (unhide HBO)) (nS _ (Nat.le_succ _))).trans (unhide HBO)
  have pc:=fun o=>cell_of_blk hp1 o
  have oc:=fun o=>cell_of_blk ho1 o
  have pl:=lt_of_blk hp1
  have ol:=lt_of_blk ho1
  have hBw:B≤w1.heap.size:=Nat.le_trans (unhide HI).hB hb.size
  have HST:=hide (EndR_any w1 B d.rd d.t d.cs d.q.A d.q.n d.q.ab d.q.a0 d.q.fb d.q.f0 d.q.nb d.q.n0 d.q.ac d.q.fc d.q.nc d.q.rb d.q.ro d.q.rc d.lo d.lc hrp hBw os)
  have HT:=hide ht
  have HB:=hide hb
  clear ht hb hrp nS hp1 ho1 hf hdk hs
  go_wp2_with fail
  refine (unhide HST).mono ?_
  clear HST pc oc pl ol
  rintro e w2 ⟨rfl,hf2,lo',lc',hdr,hs2⟩
  have HFIN:=hide (LI.go2 (unhide HI) (unhide HT) (unhide HB) hf2 hdr hs2 (ev_end (unhide HEV) hos))
  clear hf2 hdr hs2
  go_wp2_with (go_at_call 93;refine (num_any _ _).mono ?_)
  rintro e w8 ⟨rfl,hw8⟩
  have hw:=hw8.symm
  clear hw8
  subst hw
  go_wp2_with fail
  go_ret
  exact ⟨ret_bool (by simp),_,unhide HFIN⟩
theorem sameTexts_n (w:World) (ao bo:Option Addr) (ac bc n b1 b2:Nat) (L:List ByteArray) (hn:n=L.length) (h1:w.ownsRow b1 9 1 (.slice ao n ac) n (strsC L)) (h2:w.ownsRow b2 9 1 (.slice bo n bc) n (strsC L)) (h8:n≤8):
  Calls Tryz.prog 61 #[.slice ao n ac,.slice bo n bc] w fun e w'=>e= .returned (.bool true)∧Below w.heap.size w w':=by
 subst hn
 refine (sameTexts_any w ao bo ac bc L L (txs_owns h1) (txs_owns h2) (by omega) (by omega)).mono ?_
 rintro e w' ⟨he,hb⟩
 refine ⟨?_,hb⟩
 obtain ⟨b,he,hb'⟩:=he
 rw [he,hb'.2 rfl]
section
variable {B lb : Nat} {X : List Th} {w0 w w' : World} {N : Nat} {a : Lw} {ds : List Dd} {bs : List Bk} {ws : List Wt}
theorem LI.hold1 (h:LI B lb X w0 w N a ds bs ws) (hb:Below w.heap.size w w') {v:Value} {n:Nat} {L:List ByteArray} (hn:n=L.length) (hr:w'.ownsRow w.heap.size 9 1 v n (strsC L)):LI B lb (rwT B v L::X) w0 w' N a ds bs ws:=by
 subst hn
 exact h.hold hb (rw_ok (owns_mono hr h.hB)) (fun k hk=>(own_lt hr k hk).1)
theorem LI.row {v:Value} {L:List ByteArray} (h:LI B lb X w0 w N a ds bs ws) (hx:rwT B v L∈X) {n:Nat} (hn:n=L.length):w.ownsRow B 9 1 v n (strsC L):=by
 subst hn
 exact h.keep hx
theorem LI.kept {lo:Option Addr} {lc n:Nat} {L:List ByteArray} {e:Ending} (h:LI B lb (rwT B (.slice lo n lc) L::X) w0 w N a ds bs ws) (hn:n=L.length) (h8:n≤8) (hwv:a.wv=ws.map Wt.l) (hev:a.ev=ws.map Wt.k) (hp:KpP B lb a (.slice lo n lc) L w w' e) {N':Nat} (hN:N≤N') (hnb:bs.length+ws.length+1≤2 * N'):
  e= .returned (.tuple #[])∧ ∃a' ws',LI B lb X w0 w' N' a' ds bs ws'∧a'.wv=ws'.map Wt.l∧a'.ev=ws'.map Wt.k∧ws'.length=ws.length+1∧a'.wn=a.wn+1∧a'.en=a.en+1:=by
 subst hn
 obtain ⟨he,wO,wc,eO,ec,ko,kc,a',rfl,p1,p2,p3,p4,p5⟩:=hp
 refine ⟨he,_,ws++[⟨L,lo,lc,ko,kc⟩],LI.waits (x:=⟨L,lo,lc,ko,kc⟩) h p2 p1 p3 p4 p5 h8 rfl rfl h.M hN hnb, ?_, ?_,by rw [List.length_append,List.length_singleton],rfl,rfl⟩
 ·rw [List.map_append,List.map_singleton,←hwv];rfl
 ·rw [List.map_append,List.map_singleton,←hev];rfl
theorem LI.wlen (h:LI B lb X w0 w N a ds bs ws) (hwv:a.wv=ws.map Wt.l) (hev:a.ev=ws.map Wt.k):a.wn=ws.length∧a.en=ws.length:=by
 have h1:=h.law.wt.1
 have h2:=h.law.et.1
 rw [hwv,List.length_map] at h1
 rw [hev,List.length_map] at h2
 omega
end
theorem OptP.nil {t:Tb} {cs:List Cs} {id:ByteArray} {w w':World} {e:Ending} (h:OptP t cs id w w' e) (hc:csAt cs id=none):Below w.heap.size w w'∧e= .returned (.tuple #[.slice none 0 0,.int .i64 8]):=by
 obtain ⟨hb,⟨_,he⟩|⟨c,_,_,hc',_⟩⟩:=h
 ·exact ⟨hb,he⟩
 ·rw [hc] at hc';cases hc'
theorem OptP.some {t:Tb} {cs:List Cs} {id:ByteArray} {w w':World} {e:Ending} {c:Cs} {n:Nat} (h:OptP t cs id w w' e) (hc:csAt cs id=some c) (hn:(optsT t c.st).length=n):Below w.heap.size w w'∧ ∃o k,e= .returned (.tuple #[.slice o n k,.int .i64 0])∧w'.ownsRow w.heap.size 9 1 (.slice o n k) n (strsC (optsT t c.st)):=by
 obtain ⟨hb,⟨hc',_⟩|⟨c',o,k,hc',he,ho⟩⟩:=h
 ·rw [hc] at hc';cases hc'
 ·rw [hc] at hc'
  cases hc'
  subst hn
  exact ⟨hb,o,k,he,ho⟩
theorem optsT_le (t:Tb) (s:Nat):(optsT t s).length≤t.acts.length:=by unfold optsT;exact List.length_filter_le _ _
set_option maxHeartbeats 4000000 in
set_option maxRecDepth 100000 in
theorem tells_opt0 (B lb:Nat) (X:List Th) (w0 w:World) (N:Nat) (a:Lw) (ds:List Dd) (d:Dd) (hmem:d∈ds) (bs:List Bk) (ws:List Wt) (h:LI B lb X w0 w N a ds bs ws) (hwv:a.wv=ws.map Wt.l) (hev:a.ev=ws.map Wt.k) (hN:N≤10000000) (oa:Int) (os ot:ByteArray) (hos:os.size≤140737488355328) (l1:Option Addr) (l2 l3:Nat) (f1:Option Addr) (f2 f3:Nat) (m1:Option Addr) (m2 m3:Nat) (hc:csAt d.cs os=none):
  Calls Tryz.prog 60 #[.pointer (some ⟨lb,0,none⟩),.agg #[.pointer (some ⟨d.db,0,none⟩),.pointer (some ⟨d.rd,0,none⟩)],.agg #[.int .i64 12,.int .i64 oa,.string os,.string ot,.slice l1 l2 l3,.slice f1 f2 f3,.slice m1 m2 m3]] w fun e w'=>StQ B lb X w0 N w' e:=by
 have HC:=hide hc
 clear hc
 have hbW:Below w.heap.size w ((w.alloc (.cells #[.pointer (some ⟨d.db,0,none⟩),.pointer (some ⟨d.rd,0,none⟩)] 112)).alloc (.cells #[.int .i64 12,.int .i64 oa,.string os,.string ot,.slice l1 l2 l3,.slice f1 f2 f3,.slice m1 m2 m3] 74)):=((Below.refl _ _).alloc (Nat.le_refl _) _).alloc (by simp) _
 have HBP:Hid (((w.alloc (.cells #[.pointer (some ⟨d.db,0,none⟩),.pointer (some ⟨d.rd,0,none⟩)] 112)).alloc (.cells #[.int .i64 12,.int .i64 oa,.string os,.string ot,.slice l1 l2 l3,.slice f1 f2 f3,.slice m1 m2 m3] 74)).heap[w.heap.size]? =some (.cells #[.pointer (some ⟨d.db,0,none⟩),.pointer (some ⟨d.rd,0,none⟩)] 112 (0,0))):=(Below.heap_alloc _ _ _ (by simp)).trans (blk_alloc _ _)
 have HBO:Hid (((w.alloc (.cells #[.pointer (some ⟨d.db,0,none⟩),.pointer (some ⟨d.rd,0,none⟩)] 112)).alloc (.cells #[.int .i64 12,.int .i64 oa,.string os,.string ot,.slice l1 l2 l3,.slice f1 f2 f3,.slice m1 m2 m3] 74)).heap[w.heap.size+1]? =some (.cells #[.int .i64 12,.int .i64 oa,.string os,.string ot,.slice l1 l2 l3,.slice f1 f2 f3,.slice m1 m2 m3] 74 (0,0))):=blk_alloc' _ _ _ (by simp)
 have hI:=h.later hbW
 have HST:=hide (Options_any _ d.db d.t d.cs d.p.A d.p.n d.p.ab d.p.a0 d.p.fb d.p.f0 d.p.nb d.p.n0 d.p.ac d.p.fc d.p.nc d.p.rb d.p.ro d.p.rc d.mb d.pb d.D (hI.desk hmem).1 os hos)
 have HI:=hide hI
 have HMEM:=hide hmem
 have HWV:=hide hwv
 have HEV:=hide hev
 have hnb:=h.nb
 clear hI h hbW hmem hwv hev
 go_enter Tryz.func60,Tryz.ntmps60
 go_wp2_with fail
 refine (unhide HST).mono ?_
 clear HST
 generalize ((w.alloc (.cells #[.pointer (some ⟨d.db,0,none⟩),.pointer (some ⟨d.rd,0,none⟩)] 112)).alloc (.cells #[.int .i64 12,.int .i64 oa,.string os,.string ot,.slice l1 l2 l3,.slice f1 f2 f3,.slice m1 m2 m3] 74))=W at *
 have h8:0≤8:=by decide
 have HN:Hid (0=([]:List ByteArray).length):=rfl
 rintro e w1 hp
 obtain ⟨hb1,rfl⟩:=hp.nil (unhide HC)
 have hr1:w1.ownsRow W.heap.size 9 1 (.slice none 0 0) 0 (strsC []):=World.ownsRow_nil _ _ _ _
 clear hp
 have HI1:=hide (LI.hold1 (unhide HI) hb1 (unhide HN) hr1)
 have HBP1:=hide ((hb1.block _ (lt_of_blk (unhide HBP))).trans (unhide HBP))
 have HBO1:=hide ((hb1.block _ (lt_of_blk (unhide HBO))).trans (unhide HBO))
 have pc1:=fun o=>cell_of_blk (unhide HBP1) o
 have oc1:=fun o=>cell_of_blk (unhide HBO1) o
 have pl1:=lt_of_blk (unhide HBP1)
 have ol1:=lt_of_blk (unhide HBO1)
 have HST:=hide (Options_any w1 d.db d.t d.cs d.p.A d.p.n d.p.ab d.p.a0 d.p.fb d.p.f0 d.p.nb d.p.n0 d.p.ac d.p.fc d.p.nc d.p.rb d.p.ro d.p.rc d.mb d.pb d.D ((unhide HI1).desk (unhide HMEM)).1 os hos)
 clear hb1 hr1
 go_wp2_with fail
 refine (unhide HST).mono ?_
 clear HST pc1 oc1 pl1 ol1
 rintro e w2 hp
 obtain ⟨hb2,rfl⟩:=hp.nil (unhide HC)
 have hr2:w2.ownsRow w1.heap.size 9 1 (.slice none 0 0) 0 (strsC []):=World.ownsRow_nil _ _ _ _
 clear hp
 have HI2:=hide (LI.hold1 (unhide HI1) hb2 (unhide HN) hr2)
 have HBP2:=hide ((hb2.block _ (lt_of_blk (unhide HBP1))).trans (unhide HBP1))
 have HBO2:=hide ((hb2.block _ (lt_of_blk (unhide HBO1))).trans (unhide HBO1))
 have pc2:=fun o=>cell_of_blk (unhide HBP2) o
 have oc2:=fun o=>cell_of_blk (unhide HBO2) o
 have pl2:=lt_of_blk (unhide HBP2)
 have ol2:=lt_of_blk (unhide HBO2)
 have HST:=hide (OptionsR_any w2 B d.rd d.t d.cs d.q.A d.q.n d.q.ab d.q.a0 d.q.fb d.q.f0 d.q.nb d.q.n0 d.q.ac d.q.fc d.q.nc d.q.rb d.q.ro d.q.rc d.lo d.lc ((unhide HI2).desk (unhide HMEM)).2 os)
 clear hb2 hr2
 go_wp2_with fail
 refine (unhide HST).mono ?_
 clear HST pc2 oc2 pl2 ol2
 rintro e w3 hp
 obtain ⟨hb3,rfl⟩:=hp.nil (unhide HC)
 have hr3:w3.ownsRow w2.heap.size 9 1 (.slice none 0 0) 0 (strsC []):=World.ownsRow_nil _ _ _ _
 clear hp
 have HI3:=hide (LI.hold1 (unhide HI2) hb3 (unhide HN) hr3)
 clear hb3 hr3 HI HI1 HI2 HBP1 HBO1 HBP2 HBO2 HBP HBO
 have HSM:=hide (sameTexts_n w3 _ _ _ _ _ _ _ _ (unhide HN) ((unhide HI3).row (List.mem_cons_of_mem _ (List.mem_cons_of_mem _ (List.mem_cons_self ..))) (unhide HN)) ((unhide HI3).row (List.mem_cons_self ..) (unhide HN)) h8)
 go_wp2_with fail
 refine (unhide HSM).mono ?_
 clear HSM
 rintro e w4 ⟨rfl,hb⟩
 have HI4:=hide ((unhide HI3).later hb)
 clear hb HI3
 have HSM:=hide (sameTexts_n w4 _ _ _ _ _ _ _ _ (unhide HN) ((unhide HI4).row (List.mem_cons_of_mem _ (List.mem_cons_self ..)) (unhide HN)) ((unhide HI4).row (List.mem_cons_self ..) (unhide HN)) h8)
 go_wp2_with fail
 refine (unhide HSM).mono ?_
 clear HSM
 rintro e w5 ⟨rfl,hb⟩
 have HI5:=hide ((unhide HI4).later hb)
 clear hb HI4
 have hwl:=(unhide HI5).wlen (unhide HWV) (unhide HEV)
 have HIa:=hide ((unhide HI5).permX ((List.Perm.cons _ (List.Perm.swap _ _ _)).trans (List.Perm.swap _ _ _)))
 have HKP:=hide (keepTexts_any w5 B lb a (unhide HIa).law (unhide HIa).hB none 0 _ _ B 0 _ (unhide HN) ((unhide HIa).row (List.mem_cons_of_mem _ (List.mem_cons_self ..)) (unhide HN)) h8 (by omega) (by omega))
 clear HI5
 go_wp2_with (go_at_call 93;refine (num_any _ _).mono ?_)
 rintro e w8 ⟨rfl,hw8⟩
 have hw:=hw8.symm
 clear hw8
 subst hw
 go_wp2_with fail
 refine (unhide HKP).mono ?_
 clear HKP
 rintro e w6 hp6
 obtain ⟨rfl,a6,ws6,hI6,hwv6,hev6,hlen6,hwn6,hen6⟩:=(unhide HIa).kept (unhide HN) h8 (unhide HWV) (unhide HEV) hp6 (Nat.le_succ N) (by omega)
 have HIb:=hide (hI6.permX (List.Perm.swap _ _ _))
 have HWV6:=hide hwv6
 have HEV6:=hide hev6
 have HKP:=hide (keepTexts_any w6 B lb a6 (unhide HIb).law (unhide HIb).hB none 0 _ _ B 0 _ (unhide HN) ((unhide HIb).row (List.mem_cons_of_mem _ (List.mem_cons_self ..)) (unhide HN)) h8 (by omega) (by omega))
 clear hp6 hI6 hwv6 hev6 HIa
 go_wp2_with fail
 refine (unhide HKP).mono ?_
 clear HKP
 rintro e w7 hp7
 obtain ⟨rfl,a7,ws7,hI7,hwv7,hev7,hlen7, -, -⟩:=(unhide HIb).kept (unhide HN) h8 (unhide HWV6) (unhide HEV6) hp7 (Nat.le_refl (N+1)) (by omega)
 have HFIN:=hide (show LF B lb X w0 w7 (N+1) from ⟨a7,ds,bs,ws7,hI7.drop,hwv7,hev7⟩)
 clear hp7 hI7 hwv7 hev7 HIb
 go_wp2_with fail
 go_ret
 exact ⟨rfl,unhide HFIN⟩
set_option maxHeartbeats 4000000 in
set_option maxRecDepth 100000 in
theorem tells_opt1 (B lb:Nat) (X:List Th) (w0 w:World) (N:Nat) (a:Lw) (ds:List Dd) (d:Dd) (hmem:d∈ds) (bs:List Bk) (ws:List Wt) (h:LI B lb X w0 w N a ds bs ws) (hwv:a.wv=ws.map Wt.l) (hev:a.ev=ws.map Wt.k) (hN:N≤10000000) (oa:Int) (os ot:ByteArray) (hos:os.size≤140737488355328) (l1:Option Addr) (l2 l3:Nat) (f1:Option Addr) (f2 f3:Nat) (m1:Option Addr) (m2 m3:Nat) (c:Cs) (hc:csAt d.cs os=some c):
  Calls Tryz.prog 60 #[.pointer (some ⟨lb,0,none⟩),.agg #[.pointer (some ⟨d.db,0,none⟩),.pointer (some ⟨d.rd,0,none⟩)],.agg #[.int .i64 12,.int .i64 oa,.string os,.string ot,.slice l1 l2 l3,.slice f1 f2 f3,.slice m1 m2 m3]] w fun e w'=>StQ B lb X w0 N w' e:=by
 have HC:=hide hc
 have h8:(optsT d.t c.st).length≤8:=by have:=optsT_le d.t c.st;have:=(h.desk hmem).1.tb.hA;have:=(h.desk hmem).1.tb.A6;omega
 obtain ⟨n,hn⟩: ∃n,n=(optsT d.t c.st).length:=⟨_,rfl⟩
 rw [←hn] at h8
 have HN:=hide hn
 clear hc hn
 have hbW:Below w.heap.size w ((w.alloc (.cells #[.pointer (some ⟨d.db,0,none⟩),.pointer (some ⟨d.rd,0,none⟩)] 112)).alloc (.cells #[.int .i64 12,.int .i64 oa,.string os,.string ot,.slice l1 l2 l3,.slice f1 f2 f3,.slice m1 m2 m3] 74)):=((Below.refl _ _).alloc (Nat.le_refl _) _).alloc (by simp) _
 have HBP:Hid (((w.alloc (.cells #[.pointer (some ⟨d.db,0,none⟩),.pointer (some ⟨d.rd,0,none⟩)] 112)).alloc (.cells #[.int .i64 12,.int .i64 oa,.string os,.string ot,.slice l1 l2 l3,.slice f1 f2 f3,.slice m1 m2 m3] 74)).heap[w.heap.size]? =some (.cells #[.pointer (some ⟨d.db,0,none⟩),.pointer (some ⟨d.rd,0,none⟩)] 112 (0,0))):=(Below.heap_alloc _ _ _ (by simp)).trans (blk_alloc _ _)
 have HBO:Hid (((w.alloc (.cells #[.pointer (some ⟨d.db,0,none⟩),.pointer (some ⟨d.rd,0,none⟩)] 112)).alloc (.cells #[.int .i64 12,.int .i64 oa,.string os,.string ot,.slice l1 l2 l3,.slice f1 f2 f3,.slice m1 m2 m3] 74)).heap[w.heap.size+1]? =some (.cells #[.int .i64 12,.int .i64 oa,.string os,.string ot,.slice l1 l2 l3,.slice f1 f2 f3,.slice m1 m2 m3] 74 (0,0))):=blk_alloc' _ _ _ (by simp)
 have hI:=h.later hbW
 have HST:=hide (Options_any _ d.db d.t d.cs d.p.A d.p.n d.p.ab d.p.a0 d.p.fb d.p.f0 d.p.nb d.p.n0 d.p.ac d.p.fc d.p.nc d.p.rb d.p.ro d.p.rc d.mb d.pb d.D (hI.desk hmem).1 os hos)
 have HI:=hide hI
 have HMEM:=hide hmem
 have HWV:=hide hwv
 have HEV:=hide hev
 have hnb:=h.nb
 clear hI h hbW hmem hwv hev
 go_enter Tryz.func60,Tryz.ntmps60
 go_wp2_with fail
 refine (unhide HST).mono ?_
 clear HST
 generalize ((w.alloc (.cells #[.pointer (some ⟨d.db,0,none⟩),.pointer (some ⟨d.rd,0,none⟩)] 112)).alloc (.cells #[.int .i64 12,.int .i64 oa,.string os,.string ot,.slice l1 l2 l3,.slice f1 f2 f3,.slice m1 m2 m3] 74))=W at *
 rintro e w1 hp
 obtain ⟨hb1,o1,k1,rfl,hr1⟩:=hp.some (unhide HC) (unhide HN).symm
 clear hp
 have HI1:=hide (LI.hold1 (unhide HI) hb1 (unhide HN) hr1)
 have HBP1:=hide ((hb1.block _ (lt_of_blk (unhide HBP))).trans (unhide HBP))
 have HBO1:=hide ((hb1.block _ (lt_of_blk (unhide HBO))).trans (unhide HBO))
 have pc1:=fun o=>cell_of_blk (unhide HBP1) o
 have oc1:=fun o=>cell_of_blk (unhide HBO1) o
 have pl1:=lt_of_blk (unhide HBP1)
 have ol1:=lt_of_blk (unhide HBO1)
 have HST:=hide (Options_any w1 d.db d.t d.cs d.p.A d.p.n d.p.ab d.p.a0 d.p.fb d.p.f0 d.p.nb d.p.n0 d.p.ac d.p.fc d.p.nc d.p.rb d.p.ro d.p.rc d.mb d.pb d.D ((unhide HI1).desk (unhide HMEM)).1 os hos)
 clear hb1 hr1
 go_wp2_with fail
 refine (unhide HST).mono ?_
 clear HST pc1 oc1 pl1 ol1
 rintro e w2 hp
 obtain ⟨hb2,o2,k2,rfl,hr2⟩:=hp.some (unhide HC) (unhide HN).symm
 clear hp
 have HI2:=hide (LI.hold1 (unhide HI1) hb2 (unhide HN) hr2)
 have HBP2:=hide ((hb2.block _ (lt_of_blk (unhide HBP1))).trans (unhide HBP1))
 have HBO2:=hide ((hb2.block _ (lt_of_blk (unhide HBO1))).trans (unhide HBO1))
 have pc2:=fun o=>cell_of_blk (unhide HBP2) o
 have oc2:=fun o=>cell_of_blk (unhide HBO2) o
 have pl2:=lt_of_blk (unhide HBP2)
 have ol2:=lt_of_blk (unhide HBO2)
 have HST:=hide (OptionsR_any w2 B d.rd d.t d.cs d.q.A d.q.n d.q.ab d.q.a0 d.q.fb d.q.f0 d.q.nb d.q.n0 d.q.ac d.q.fc d.q.nc d.q.rb d.q.ro d.q.rc d.lo d.lc ((unhide HI2).desk (unhide HMEM)).2 os)
 clear hb2 hr2
 go_wp2_with fail
 refine (unhide HST).mono ?_
 clear HST pc2 oc2 pl2 ol2
 rintro e w3 hp
 obtain ⟨hb3,o3,k3,rfl,hr3⟩:=hp.some (unhide HC) (unhide HN).symm
 clear hp
 have HI3:=hide (LI.hold1 (unhide HI2) hb3 (unhide HN) hr3)
 clear hb3 hr3 HI HI1 HI2 HBP1 HBO1 HBP2 HBO2 HBP HBO
 have HSM:=hide (sameTexts_n w3 _ _ _ _ _ _ _ _ (unhide HN) ((unhide HI3).row (List.mem_cons_of_mem _ (List.mem_cons_of_mem _ (List.mem_cons_self ..))) (unhide HN)) ((unhide HI3).row (List.mem_cons_self ..) (unhide HN)) h8)
 go_wp2_with fail
 refine (unhide HSM).mono ?_
 clear HSM
 rintro e w4 ⟨rfl,hb⟩
 have HI4:=hide ((unhide HI3).later hb)
 clear hb HI3
 have HSM:=hide (sameTexts_n w4 _ _ _ _ _ _ _ _ (unhide HN) ((unhide HI4).row (List.mem_cons_of_mem _ (List.mem_cons_self ..)) (unhide HN)) ((unhide HI4).row (List.mem_cons_self ..) (unhide HN)) h8)
 go_wp2_with fail
 refine (unhide HSM).mono ?_
 clear HSM
 rintro e w5 ⟨rfl,hb⟩
 have HI5:=hide ((unhide HI4).later hb)
 clear hb HI4
 have hwl:=(unhide HI5).wlen (unhide HWV) (unhide HEV)
 have HIa:=hide ((unhide HI5).permX ((List.Perm.cons _ (List.Perm.swap _ _ _)).trans (List.Perm.swap _ _ _)))
 have HKP:=hide (keepTexts_any w5 B lb a (unhide HIa).law (unhide HIa).hB o1 k1 _ _ B n _ (unhide HN) ((unhide HIa).row (List.mem_cons_of_mem _ (List.mem_cons_self ..)) (unhide HN)) h8 (by omega) (by omega))
 clear HI5
 go_wp2_with (go_at_call 93;refine (num_any _ _).mono ?_)
 rintro e w8 ⟨rfl,hw8⟩
 have hw:=hw8.symm
 clear hw8
 subst hw
 go_wp2_with fail
 refine (unhide HKP).mono ?_
 clear HKP
 rintro e w6 hp6
 obtain ⟨rfl,a6,ws6,hI6,hwv6,hev6,hlen6,hwn6,hen6⟩:=(unhide HIa).kept (unhide HN) h8 (unhide HWV) (unhide HEV) hp6 (Nat.le_succ N) (by omega)
 have HIb:=hide (hI6.permX (List.Perm.swap _ _ _))
 have HWV6:=hide hwv6
 have HEV6:=hide hev6
 have HKP:=hide (keepTexts_any w6 B lb a6 (unhide HIb).law (unhide HIb).hB o2 k2 _ _ B n _ (unhide HN) ((unhide HIb).row (List.mem_cons_of_mem _ (List.mem_cons_self ..)) (unhide HN)) h8 (by omega) (by omega))
 clear hp6 hI6 hwv6 hev6 HIa
 go_wp2_with fail
 refine (unhide HKP).mono ?_
 clear HKP
 rintro e w7 hp7
 obtain ⟨rfl,a7,ws7,hI7,hwv7,hev7,hlen7, -, -⟩:=(unhide HIb).kept (unhide HN) h8 (unhide HWV6) (unhide HEV6) hp7 (Nat.le_refl (N+1)) (by omega)
 have HFIN:=hide (show LF B lb X w0 w7 (N+1) from ⟨a7,ds,bs,ws7,hI7.drop,hwv7,hev7⟩)
 clear hp7 hI7 hwv7 hev7 HIb
 go_wp2_with fail
 go_ret
 exact ⟨rfl,unhide HFIN⟩
theorem TellP.nil {t:Tb} {cs:List Cs} {id:ByteArray} {e:Ending} (h:TellP t cs id e) (hc:csAt cs id=none):e= .returned (.tuple #[.agg #[.int .i64 0,.bool false],.int .i64 8]):=by
 rcases h with ⟨_,he⟩|⟨c,hc',_⟩
 ·exact he
 ·rw [hc] at hc';cases hc'
theorem TellP.some {t:Tb} {cs:List Cs} {id:ByteArray} {e:Ending} {c:Cs} (h:TellP t cs id e) (hc:csAt cs id=some c) {x:Int} {y:Bool} (hx:(c.ev:Int)=x) (hy:accT t c.st=y):e= .returned (.tuple #[.agg #[.int .i64 x,.bool y],.int .i64 0]):=by
 subst hx hy
 rcases h with ⟨hc',_⟩|⟨c',hc',he⟩
 ·rw [hc] at hc';cases hc'
 ·rw [hc] at hc'
  cases hc'
  exact he
set_option maxHeartbeats 4000000 in
set_option maxRecDepth 100000 in
theorem tells_tell0 (B lb:Nat) (X:List Th) (w0 w:World) (N:Nat) (a:Lw) (ds:List Dd) (d:Dd) (hmem:d∈ds) (bs:List Bk) (ws:List Wt) (h:LI B lb X w0 w N a ds bs ws) (hwv:a.wv=ws.map Wt.l) (hev:a.ev=ws.map Wt.k) (hN:N≤10000000) (oa:Int) (os ot:ByteArray) (hos:os.size≤140737488355328) (l1:Option Addr) (l2 l3:Nat) (f1:Option Addr) (f2 f3:Nat) (m1:Option Addr) (m2 m3:Nat) (hc:csAt d.cs os=none):
  Calls Tryz.prog 60 #[.pointer (some ⟨lb,0,none⟩),.agg #[.pointer (some ⟨d.db,0,none⟩),.pointer (some ⟨d.rd,0,none⟩)],.agg #[.int .i64 13,.int .i64 oa,.string os,.string ot,.slice l1 l2 l3,.slice f1 f2 f3,.slice m1 m2 m3]] w fun e w'=>StQ B lb X w0 N w' e:=by
 have HC:=hide hc
 clear hc
 have hbW:Below w.heap.size w ((w.alloc (.cells #[.pointer (some ⟨d.db,0,none⟩),.pointer (some ⟨d.rd,0,none⟩)] 112)).alloc (.cells #[.int .i64 13,.int .i64 oa,.string os,.string ot,.slice l1 l2 l3,.slice f1 f2 f3,.slice m1 m2 m3] 74)):=((Below.refl _ _).alloc (Nat.le_refl _) _).alloc (by simp) _
 have HBP:Hid (((w.alloc (.cells #[.pointer (some ⟨d.db,0,none⟩),.pointer (some ⟨d.rd,0,none⟩)] 112)).alloc (.cells #[.int .i64 13,.int .i64 oa,.string os,.string ot,.slice l1 l2 l3,.slice f1 f2 f3,.slice m1 m2 m3] 74)).heap[w.heap.size]? =some (.cells #[.pointer (some ⟨d.db,0,none⟩),.pointer (some ⟨d.rd,0,none⟩)] 112 (0,0))):=(Below.heap_alloc _ _ _ (by simp)).trans (blk_alloc _ _)
 have HBO:Hid (((w.alloc (.cells #[.pointer (some ⟨d.db,0,none⟩),.pointer (some ⟨d.rd,0,none⟩)] 112)).alloc (.cells #[.int .i64 13,.int .i64 oa,.string os,.string ot,.slice l1 l2 l3,.slice f1 f2 f3,.slice m1 m2 m3] 74)).heap[w.heap.size+1]? =some (.cells #[.int .i64 13,.int .i64 oa,.string os,.string ot,.slice l1 l2 l3,.slice f1 f2 f3,.slice m1 m2 m3] 74 (0,0))):=blk_alloc' _ _ _ (by simp)
 have hI:=h.later hbW
 have HST:=hide (Tell_any _ d.db d.t d.cs d.p.A d.p.n d.p.ab d.p.a0 d.p.fb d.p.f0 d.p.nb d.p.n0 d.p.ac d.p.fc d.p.nc d.p.rb d.p.ro d.p.rc d.mb d.pb d.D (hI.desk hmem).1 os hos)
 have HI:=hide hI
 have HMEM:=hide hmem
 have HWV:=hide hwv
 have HEV:=hide hev
 have hnb:=h.nb
 clear hI h hbW hmem hwv hev
 go_enter Tryz.func60,Tryz.ntmps60
 go_wp2_with fail
 refine (unhide HST).mono ?_
 clear HST
 generalize ((w.alloc (.cells #[.pointer (some ⟨d.db,0,none⟩),.pointer (some ⟨d.rd,0,none⟩)] 112)).alloc (.cells #[.int .i64 13,.int .i64 oa,.string os,.string ot,.slice l1 l2 l3,.slice f1 f2 f3,.slice m1 m2 m3] 74))=W at *
 rintro e w1 ⟨hp,hb1⟩
 have he:=hp.nil (unhide HC)
 subst he
 clear hp
 have hba:Below w1.heap.size w1 (w1.alloc (.cells #[.int .i64 0,.bool false] 105)):=(Below.refl _ _).alloc (Nat.le_refl _) _
 have hb2:=hb1.trans (hba.mono hb1.size)
 have HI1:=hide ((unhide HI).later hb2)
 have HST:=hide (TellR_any _ B d.rd d.t d.cs d.q.A d.q.n d.q.ab d.q.a0 d.q.fb d.q.f0 d.q.nb d.q.n0 d.q.ac d.q.fc d.q.nc d.q.rb d.q.ro d.q.rc d.lo d.lc ((unhide HI1).desk (unhide HMEM)).2 os)
 have HBP1:=hide ((hb2.block _ (lt_of_blk (unhide HBP))).trans (unhide HBP))
 have HBO1:=hide ((hb2.block _ (lt_of_blk (unhide HBO))).trans (unhide HBO))
 have pc1:=fun o=>cell_of_blk (unhide HBP1) o
 have oc1:=fun o=>cell_of_blk (unhide HBO1) o
 have pl1:=lt_of_blk (unhide HBP1)
 have ol1:=lt_of_blk (unhide HBO1)
 have HBS:=hide (blk_alloc w1 (.cells #[.int .i64 0,.bool false] 105))
 clear hb1 hb2 hba
 go_wp2_with fail
 refine (unhide HST).mono ?_
 clear HST
 generalize w1.alloc (.cells #[.int .i64 0,.bool false] 105)=W1 at *
 rintro e w3 ⟨hp,hb3⟩
 have he:=hp.nil (unhide HC)
 subst he
 clear hp pc1 oc1 pl1 ol1
 have hbs3:=(hb3.block _ (lt_of_blk (unhide HBS))).trans (unhide HBS)
 have sc:=fun o=>cell_of_blk hbs3 o
 have sl:=lt_of_blk hbs3
 have HFIN:=hide (show LF B lb X w0 (w3.alloc (.cells #[.int .i64 0,.bool false] 105)) (N+1) from ⟨a,ds,bs,ws,((unhide HI1).later (hb3.trans (((Below.refl w3.heap.size w3).alloc (Nat.le_refl _) _).mono hb3.size))).more (Nat.le_succ _),unhide HWV,unhide HEV⟩)
 clear hb3 hbs3
 go_wp2_with (go_at_call 93;refine (num_any _ _).mono ?_)
 rintro e w8 ⟨rfl,hw8⟩
 have hw:=hw8.symm
 clear hw8
 subst hw
 go_wp2_with fail
 go_ret
 exact ⟨ret_bool (by simp),unhide HFIN⟩
set_option maxHeartbeats 4000000 in
set_option maxRecDepth 100000 in
theorem tells_tell1 (B lb:Nat) (X:List Th) (w0 w:World) (N:Nat) (a:Lw) (ds:List Dd) (d:Dd) (hmem:d∈ds) (bs:List Bk) (ws:List Wt) (h:LI B lb X w0 w N a ds bs ws) (hwv:a.wv=ws.map Wt.l) (hev:a.ev=ws.map Wt.k) (hN:N≤10000000) (oa:Int) (os ot:ByteArray) (hos:os.size≤140737488355328) (l1:Option Addr) (l2 l3:Nat) (f1:Option Addr) (f2 f3:Nat) (m1:Option Addr) (m2 m3:Nat) (c:Cs) (hc:csAt d.cs os=some c):
  Calls Tryz.prog 60 #[.pointer (some ⟨lb,0,none⟩),.agg #[.pointer (some ⟨d.db,0,none⟩),.pointer (some ⟨d.rd,0,none⟩)],.agg #[.int .i64 13,.int .i64 oa,.string os,.string ot,.slice l1 l2 l3,.slice f1 f2 f3,.slice m1 m2 m3]] w fun e w'=>StQ B lb X w0 N w' e:=by
 have HC:=hide hc
 obtain ⟨x,hx⟩: ∃x:Int,(c.ev:Int)=x:=⟨_,rfl⟩
 obtain ⟨y,hy⟩: ∃y,accT d.t c.st=y:=⟨_,rfl⟩
 have HX:=hide hx
 have HY:=hide hy
 clear hc hx hy
 have hbW:Below w.heap.size w ((w.alloc (.cells #[.pointer (some ⟨d.db,0,none⟩),.pointer (some ⟨d.rd,0,none⟩)] 112)).alloc (.cells #[.int .i64 13,.int .i64 oa,.string os,.string ot,.slice l1 l2 l3,.slice f1 f2 f3,.slice m1 m2 m3] 74)):=((Below.refl _ _).alloc (Nat.le_refl _) _).alloc (by simp) _
 have HBP:Hid (((w.alloc (.cells #[.pointer (some ⟨d.db,0,none⟩),.pointer (some ⟨d.rd,0,none⟩)] 112)).alloc (.cells #[.int .i64 13,.int .i64 oa,.string os,.string ot,.slice l1 l2 l3,.slice f1 f2 f3,.slice m1 m2 m3] 74)).heap[w.heap.size]? =some (.cells #[.pointer (some ⟨d.db,0,none⟩),.pointer (some ⟨d.rd,0,none⟩)] 112 (0,0))):=(Below.heap_alloc _ _ _ (by simp)).trans (blk_alloc _ _)
 have HBO:Hid (((w.alloc (.cells #[.pointer (some ⟨d.db,0,none⟩),.pointer (some ⟨d.rd,0,none⟩)] 112)).alloc (.cells #[.int .i64 13,.int .i64 oa,.string os,.string ot,.slice l1 l2 l3,.slice f1 f2 f3,.slice m1 m2 m3] 74)).heap[w.heap.size+1]? =some (.cells #[.int .i64 13,.int .i64 oa,.string os,.string ot,.slice l1 l2 l3,.slice f1 f2 f3,.slice m1 m2 m3] 74 (0,0))):=blk_alloc' _ _ _ (by simp)
 have hI:=h.later hbW
 have HST:=hide (Tell_any _ d.db d.t d.cs d.p.A d.p.n d.p.ab d.p.a0 d.p.fb d.p.f0 d.p.nb d.p.n0 d.p.ac d.p.fc d.p.nc d.p.rb d.p.ro d.p.rc d.mb d.pb d.D (hI.desk hmem).1 os hos)
 have HI:=hide hI
 have HMEM:=hide hmem
 have HWV:=hide hwv
 have HEV:=hide hev
 have hnb:=h.nb
 clear hI h hbW hmem hwv hev
 go_enter Tryz.func60,Tryz.ntmps60
 go_wp2_with fail
 refine (unhide HST).mono ?_
 clear HST
 generalize ((w.alloc (.cells #[.pointer (some ⟨d.db,0,none⟩),.pointer (some ⟨d.rd,0,none⟩)] 112)).alloc (.cells #[.int .i64 13,.int .i64 oa,.string os,.string ot,.slice l1 l2 l3,.slice f1 f2 f3,.slice m1 m2 m3] 74))=W at *
 rintro e w1 ⟨hp,hb1⟩
 have he:=hp.some (unhide HC) (unhide HX) (unhide HY)
 subst he
 clear hp
 have hba:Below w1.heap.size w1 (w1.alloc (.cells #[.int .i64 x,.bool y] 105)):=(Below.refl _ _).alloc (Nat.le_refl _) _
 have hb2:=hb1.trans (hba.mono hb1.size)
 have HI1:=hide ((unhide HI).later hb2)
 have HST:=hide (TellR_any _ B d.rd d.t d.cs d.q.A d.q.n d.q.ab d.q.a0 d.q.fb d.q.f0 d.q.nb d.q.n0 d.q.ac d.q.fc d.q.nc d.q.rb d.q.ro d.q.rc d.lo d.lc ((unhide HI1).desk (unhide HMEM)).2 os)
 have HBP1:=hide ((hb2.block _ (lt_of_blk (unhide HBP))).trans (unhide HBP))
 have HBO1:=hide ((hb2.block _ (lt_of_blk (unhide HBO))).trans (unhide HBO))
 have pc1:=fun o=>cell_of_blk (unhide HBP1) o
 have oc1:=fun o=>cell_of_blk (unhide HBO1) o
 have pl1:=lt_of_blk (unhide HBP1)
 have ol1:=lt_of_blk (unhide HBO1)
 have HBS:=hide (blk_alloc w1 (.cells #[.int .i64 x,.bool y] 105))
 clear hb1 hb2 hba
 go_wp2_with fail
 refine (unhide HST).mono ?_
 clear HST
 generalize w1.alloc (.cells #[.int .i64 x,.bool y] 105)=W1 at *
 rintro e w3 ⟨hp,hb3⟩
 have he:=hp.some (unhide HC) (unhide HX) (unhide HY)
 subst he
 clear hp pc1 oc1 pl1 ol1
 have hbs3:=(hb3.block _ (lt_of_blk (unhide HBS))).trans (unhide HBS)
 have sc:=fun o=>cell_of_blk hbs3 o
 have sl:=lt_of_blk hbs3
 have HFIN:=hide (show LF B lb X w0 (w3.alloc (.cells #[.int .i64 x,.bool y] 105)) (N+1) from ⟨a,ds,bs,ws,((unhide HI1).later (hb3.trans (((Below.refl w3.heap.size w3).alloc (Nat.le_refl _) _).mono hb3.size))).more (Nat.le_succ _),unhide HWV,unhide HEV⟩)
 clear hb3 hbs3
 go_wp2_with (go_at_call 93;refine (num_any _ _).mono ?_)
 rintro e w8 ⟨rfl,hw8⟩
 have hw:=hw8.symm
 clear hw8
 subst hw
 go_wp2_with fail
 go_ret
 exact ⟨ret_bool (by simp),unhide HFIN⟩
end Go.Proofs.YtidakhhekofkoaaGreatDoor
