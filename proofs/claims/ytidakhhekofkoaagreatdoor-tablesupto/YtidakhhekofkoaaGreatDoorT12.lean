import Derived.Test.YtidakhhekofkoaaGreatDoorT09
import Derived.Laws.EntriesVeiled
set_option linter.all false
set_option maxHeartbeats 8000000
set_option maxRecDepth 100000
namespace Go.Proofs.YtidakhhekofkoaaGreatDoor
open Go.Proofs.Tryz
open Go.RowKit Go.Deep
open Value renaming slice -> xa, int -> xd, string -> xj, pointer -> xk, bool -> xn
open IntKind renaming i64 -> xh
open Obj renaming cells -> xi
open Ending renaming returned -> xm
open Go.RowKit.Below renaming heap_setCell -> Mr, heap_alloc -> Ms, refl -> Mt
open List renaming drop_eq_nil_of_le -> Mu, length -> Mx, mem_of_mem_drop -> MC
open Nat renaming le_refl -> Mw, zero_le -> Mz
open Or renaming inl -> My
open World renaming ownsRow_nil -> MD
variable {zq:Prop}
variable {w w':World} {b n cb B ac nn nc:Nat} {c:UInt8} {r:List UInt8} {A L:List Tk} {x m:Nat × Nat} {xx t:Tk} {cp:Option Addr} {cs:List Value} {cur:Array Value} {v:Value}
theorem zm28(h:zq:=by
 rintro e w1 ⟨v,rfl,hv,hb⟩;have HV:=fa hv;have HB:=fa hb;clear hv hb;go_wp2;go_ret;exact⟨v,rfl,HV.out,HB.out⟩
 ):zq:=h
theorem zm50(h:zq:=by
 have HB:=fa (HB.out.trans (hb5.mono HB.out.size));clear h5 hb5;go_wp2;go_ret;exact⟨p5,rfl,G5.out,HB.out⟩
 ):zq:=h
theorem zm72(h:zq:=by
 have HB:=fa (HB.out.trans (hb3.mono HB.out.size));clear h3 hb3;go_wp2;go_ret;exact⟨p3,rfl,G3.out,HB.out⟩
 ):zq:=h
theorem zm110(h:zq:=by
 rintro e w4 ⟨p4,rfl,h4,hb4⟩;have G4:=fa (h4 G3.out);have HB:=fa (HB.out.trans (hb4.mono HB.out.size));clear h4 hb4;go_wp2;go_ret;exact⟨p4,rfl,G4.out,HB.out⟩
 ):zq:=h
theorem zm118(h:zq:=by
 obtain⟨_,h2|⟨g,cap,cur,hv,_,hh,hle,hcap,_,htake⟩⟩:=h
 ·simp_all
 simp_all
 ):zq:=h
theorem zm135(h:zq:=by
 go_in;go_wp2;go_ret;exact⟨jG (by rw[HB.out];rfl),gz⟩
 ):zq:=h
theorem zm187(h:zq:=by
 show _=_;rw[HY.out,HFA.out,iJ,qK,HBAD.out,if_pos rfl,iJ];rfl
 ):zq:=h
def uU:List (List UInt8):=[[105,110,105,116],[108,97,115,116],[115,111,109,101],[102,101,119],[114,101,115,112,111,110,115,101],[112,114,101,99,101,100,101],[99,104,97,105,110],[98,101,102,111,114,101],[119,105,116,104],[97,112,97,114,116],[110,101,118,101,114],[110,111,116,110,101,120,116]]
def ri(l:List UInt8):List (List UInt8)->Nat->Nat
 |[],k=>k
 |x::r,k=>if l=x then k else ri l r (k+1)
theorem D7{l:List UInt8}:gR l=ri l uU 0:=rfl
def rF(k:Nat):ByteArray:=⟨(uU.getD k []).toArray⟩
def kB(k:Nat):Nat:=[228,229,230,232,234,235,236,237,238,239,240,241].getD k 0
def lU(b k:Nat):Nat:=if k<=1 then b else if k<=3 then b+1+1 else b+1
def jT(k:Nat):Nat:=if k<=1 then 1 else 2
def BD(b:Nat):Array Value:= #[xj ⟨#[105,110,105,116]⟩,xa (some ⟨b,0,none⟩) 1 1,.func (.func 228) #[] #[],xj ⟨#[108,97,115,116]⟩,xa (some ⟨b,0,none⟩) 1 1,.func (.func 229) #[] #[],xj ⟨#[115,111,109,101]⟩,xa (some ⟨b+1+1,0,none⟩) 2 2,.func (.func 230) #[] #[],xj ⟨#[102,101,119]⟩,xa (some ⟨b+1+1,0,none⟩) 2 2,.func (.func 232) #[] #[],xj ⟨#[114,101,115,112,111,110,115,101]⟩,xa (some ⟨b+1,0,none⟩) 2 2,.func (.func 234) #[] #[],xj ⟨#[112,114,101,99,101,100,101]⟩,xa (some ⟨b+1,0,none⟩) 2 2,.func (.func 235) #[] #[],xj ⟨#[99,104,97,105,110]⟩,xa (some ⟨b+1,0,none⟩) 2 2,.func (.func 236) #[] #[],xj ⟨#[98,101,102,111,114,101]⟩,xa (some ⟨b+1,0,none⟩) 2 2,.func (.func 237) #[] #[],xj ⟨#[119,105,116,104]⟩,xa (some ⟨b+1,0,none⟩) 2 2,.func (.func 238) #[] #[],xj ⟨#[97,112,97,114,116]⟩,xa (some ⟨b+1,0,none⟩) 2 2,.func (.func 239) #[] #[],xj ⟨#[110,101,118,101,114]⟩,xa (some ⟨b+1,0,none⟩) 2 2,.func (.func 240) #[] #[],xj ⟨#[110,111,116,110,101,120,116]⟩,xa (some ⟨b+1,0,none⟩) 2 2,.func (.func 241) #[] #[]]
theorem D3{k:Nat}(h:k<12):k=0\/k=1\/k=2\/k=3\/k=4\/k=5\/k=6\/k=7\/k=8\/k=9\/k=10\/k=11:=zo
theorem K7(b k:Nat)(h:k<12):(BD b)[k * 3]? =some (xj (rF k))/\(BD b)[k * 3+1]? =some (xa (some ⟨lU b k,0,none⟩) (jT k) (jT k))/\(BD b)[k * 3+2]? =some (.func (.func (kB k)) #[] #[]):=by
 rcases D3 h with rfl|rfl|rfl|rfl|rfl|rfl|rfl|rfl|rfl|rfl|rfl|rfl<;>exact⟨rfl,rfl,rfl⟩
theorem Cg(l:List UInt8)(k:Nat)(h:k<12):ri l (uU.drop k) k=if l=(rF k).toList then k else ri l (uU.drop (k+1)) (k+1):=by
 have I:k<uU.length:=h;have e:uU.drop k=uU.getD k []::uU.drop (k+1):=by
  rw[List.drop_eq_getElem_cons I];simp[List.getD,List.getElem?_eq_getElem I]
 have J:(rF k).toList=uU.getD k []:=by rw[ByteArray.toList_eq];rfl
 rw[e,ri,J]
structure TkAt (w:World) (b:Nat):Prop where
 b0:w.heap[b]? =some (xi #[xd xh 0] 314 (0,0))
 b1:w.heap[b+1]? =some (xi #[xd xh 0,xd xh 0] 314 (0,0))
 b2:w.heap[b+1+1]? =some (xi #[xd xh 0,xd xh 1] 314 (0,0))
theorem TkAt.later(h:TkAt w b)(I:Below w.heap.size w w'):TkAt w' b:=
 ⟨(I.block _ (fh h.b0)).trans h.b0,(I.block _ (fh h.b1)).trans h.b1,(I.block _ (fh h.b2)).trans h.b2⟩
theorem zS:
  Calls prog 195 #[] w fun e w'=>e=xm (xa (some ⟨w.heap.size+1+1+1,0,none⟩) 12 12)/\w'=(((w.alloc (xi #[xd xh 0] 314)).alloc (xi #[xd xh 0,xd xh 0] 314)).alloc (xi #[xd xh 0,xd xh 1] 314)).alloc (xi (BD w.heap.size) 265):=by
 go_in;go_wp2;go_ret;trivial
def Ge(s : ByteArray)(w w' : World)(e : Ending) : Prop :=
  Below w.heap.size w w' /\ ∃ b, w.heap.size <= b /\ TkAt w' b /\
    ((gR s.toList <= 11 /\ e =xm (.tuple #[.agg #[xj (rF (gR s.toList)), (xa (some ⟨lU b (gR s.toList), 0, none⟩) (jT (gR s.toList)) (jT (gR s.toList))), (.func (.func (kB (gR s.toList))) #[] #[])], xn true])) \/
     (¬ gR s.toList <= 11 /\ e =xm (.tuple #[.agg #[xj ⟨#[]⟩, xa none 0 0, .nilFunc], xn false])))
theorem rN(s:ByteArray):Calls prog 163 #[xj s] w fun e w'=>Ge s w w' e:=by
 go_in;go_wp2_with fail;refine(zS).mono ?_;rintro e w1 ⟨rfl,I⟩;have ae:(w.alloc (xi #[xj ⟨#[]⟩,xa none 0 0,.nilFunc] 265)).heap.size=w.heap.size+1:=zp;rw[ae] at I;simp only[ae];have hrb:w1.heap[w.heap.size]? =some (xi #[xj ⟨#[]⟩,xa none 0 0,.nilFunc] 265 (0,0)):=by
  rw[I];exact(Ms _ _ _ zs).trans ((Ms _ _ _ zs).trans ((Ms _ _ _ zs).trans ((Ms _ _ _ zp).trans (ft _ _))))
 have ar:TkAt w1 (w.heap.size+1):=by
  rw[I];exact⟨(Ms _ _ _ zp).trans ((Ms _ _ _ zp).trans ((Ms _ _ _ zp).trans (fk _ _ _ zp))),(Ms _ _ _ zp).trans ((Ms _ _ _ zp).trans (fk _ _ _ zp)),(Ms _ _ _ zp).trans (fk _ _ _ zp)⟩
 have htb:w1.heap[w.heap.size+1+1+1+1]? =some (xi (BD (w.heap.size+1)) 265 (0,0)):=by
  rw[I];exact fk _ _ _ zp
 have hB:Below w.heap.size w w1:=by
  rw[I];exact(((gz.alloc zp _).alloc zs _).alloc zs _).alloc zs _
 generalize htbe:w.heap.size+1+1+1+1=tb at *;have ak:=fa hrb;have av:=fa ar;have an:=fa htb;have R:=fa hB;clear I ae hrb ar htb hB htbe;go_wp2
 go_loopw [8] (fun i wr=> ∃k:Nat,i=xd xh (k:Int)/\k<=12/\Hid (gR s.toList=ri s.toList (uU.drop k) k)/\Below w1.heap.size w1 wr) (fun i _=>12 - (intOf i).toNat)
 ·exact⟨0,rfl,zo,D7,Mt _ _⟩
 obtain⟨k,rfl,hk12,H,hb⟩:=hrel;have hrb:=(hb.block _ (fh ak)).trans ak;have htb:=(hb.block _ (fh an)).trans an;have U:=fa hrb;have aa:=fa (av.later hb);have aw:=fh hrb;have rc:=cell_of_blk hrb;have rf:=fi hrb;have HB:=fa hb;by_cases hk:k<12
 ·obtain⟨c0,c1,c2⟩:=K7 (w.heap.size+1) k hk;have d0:=(cell_of_blk htb (k * 3)).trans c0;have d1:=(cell_of_blk htb (k * 3+1)).trans c1;have d2:=(cell_of_blk htb (k * 3+2)).trans c2;have HS:=fa (Cg s.toList k hk);clear hb hrb htb c0 c1 c2;go_wp2_with fail
  ·have he:s.toList=(rF k).toList:=za;have aq:gR s.toList=k:=by rw[H.out,HS.out,if_pos he]
   have J:(((wr.setCell ⟨w.heap.size,0,none⟩ (xj (rF k))).setCell ⟨w.heap.size,1,none⟩ (xa (some ⟨lU (w.heap.size+1) k,0,none⟩) (jT k) (jT k))).setCell ⟨w.heap.size,2,none⟩ (.func (.func (kB k)) #[] #[])).heap[w.heap.size]? =some (xi #[xj (rF k),(xa (some ⟨lU (w.heap.size+1) k,0,none⟩) (jT k) (jT k)),(.func (.func (kB k)) #[] #[])] 265 (0,0)):=fj (fj (fj U 0 _) 1 _) 2 _;have ag:=cell_of_blk J;clear rc;refine bodyPost_ret (v:= .tuple #[.agg #[xj (rF k),(xa (some ⟨lU (w.heap.size+1) k,0,none⟩) (jT k) (jT k)),(.func (.func (kB k)) #[] #[])],xn true]) (by simp[results,results163,go_sem,ag,aw]) rfl ?_;refine⟨((((R.trans (HB.mono R.size)).setCell (Mw _) _).setCell (Mw _) _).setCell (Mw _) _).alloc (by simp[World.setCell];omega) _,w.heap.size+1,zo, ?_,My ⟨zo,by rw[aq]⟩⟩;have h3:=aa.out;exact(show TkAt _ _ from⟨(Mr _ _ _ _ zp).trans ((Mr _ _ _ _ zp).trans ((Mr _ _ _ _ zp).trans h3.b0)),(Mr _ _ _ _ (by show w.heap.size+1+1≠w.heap.size;omega)).trans ((Mr _ _ _ _ (by show w.heap.size+1+1≠w.heap.size;omega)).trans ((Mr _ _ _ _ (by show w.heap.size+1+1≠w.heap.size;omega)).trans h3.b1)),(Mr _ _ _ _ (by show w.heap.size+1+1+1≠w.heap.size;omega)).trans ((Mr _ _ _ _ (by show w.heap.size+1+1+1≠w.heap.size;omega)).trans ((Mr _ _ _ _ (by show w.heap.size+1+1+1≠w.heap.size;omega)).trans h3.b2))⟩).later gz
  have he:¬ s.toList=(rF k).toList:=by intro e;simp_all
  go_round
  ·exact⟨k+1,zf,zo,by show _=_;rw[H.out,HS.out,if_neg he],HB.alloc HB.size _⟩
  simp[intOf];omega
 have ao:k=12:=zo;have HK:=fa ao;clear hb hrb htb ao;go_wp2_with fail;have aq:gR s.toList=12:=by rw[H.out,HK.out];rfl
 have J:(((wr.setCell ⟨w.heap.size,0,none⟩ (xj ⟨#[]⟩)).setCell ⟨w.heap.size,1,none⟩ (xa none 0 0)).setCell ⟨w.heap.size,2,none⟩ .nilFunc).heap[w.heap.size]? =some (xi #[xj ⟨#[]⟩,xa none 0 0,.nilFunc] 265 (0,0)):=fj (fj (fj U 0 _) 1 _) 2 _;have ag:=cell_of_blk J;clear rc;refine bodyPost_ret (v:= .tuple #[.agg #[xj ⟨#[]⟩,xa none 0 0,.nilFunc],xn false]) (by simp[results,results163,go_sem,ag]) rfl ?_;refine⟨(((R.trans (HB.mono R.size)).setCell (Mw _) _).setCell (Mw _) _).setCell (Mw _) _,w.heap.size+1,zo, ?_,Or.inr ⟨zo,rfl⟩⟩;have h3:=aa.out;exact⟨(Mr _ _ _ _ zp).trans ((Mr _ _ _ _ zp).trans ((Mr _ _ _ _ zp).trans h3.b0)),(Mr _ _ _ _ (by show w.heap.size+1+1≠w.heap.size;omega)).trans ((Mr _ _ _ _ (by show w.heap.size+1+1≠w.heap.size;omega)).trans ((Mr _ _ _ _ (by show w.heap.size+1+1≠w.heap.size;omega)).trans h3.b1)),(Mr _ _ _ _ (by show w.heap.size+1+1+1≠w.heap.size;omega)).trans ((Mr _ _ _ _ (by show w.heap.size+1+1+1≠w.heap.size;omega)).trans ((Mr _ _ _ _ (by show w.heap.size+1+1+1≠w.heap.size;omega)).trans h3.b2))⟩
theorem wG(t:Tk)(c:UInt8)(w:World)(hs:t.s=⟨#[c]⟩)(h1:48<=c.toNat)(h2:c.toNat<=57):
  Calls prog 161 #[je t] w fun e w'=>e=xm (xd xh ((c.toNat - 48:Nat):Int))/\Below w.heap.size w w':=by
 unfold je;rw[hs];clear hs;go_in;go_wp2;go_ret;refine⟨pL ?_,gz⟩;show((c.toNat:Int) - 48)%256=_;omega
def C5(t:Tk):Prop:=t.k=2\/(t.k=3/\ ∃d:UInt8,t.s=⟨#[d]⟩/\48<=d.toNat/\d.toNat<=57)
def vA(c:UInt8):Int:=if c.toNat=110 then 0 else 1
theorem GP(t:Tk)(c:UInt8)(w:World)(hc:c=110\/c=100)(ht:C5 t):
  Calls prog 194 #[je t,xd xh (vA c)] w fun e w'=>e=xm (xn (!iq [c] t))/\Below w.heap.size w w':=by
 rcases hc with rfl|rfl
 ·have hp:vA 110=0:=rfl;rw[hp];rcases ht with hk|⟨hk,d,hd,h1,h2⟩
  ·have e2:((t.k:Int)==2)=true:=mu (c:=2) hk;have HB:Hid (iq [110] t=false):=by show _=_;simp[iq,hk]
   unfold je;clear hk hp;exact zm135
  have e2:((t.k:Int)==2)=false:=iE (c:=2) zo;have HB:Hid (iq [110] t=true):=by show _=_;simp[iq,hk]
  unfold je;clear hk hp hd h1 h2;exact zm135
 have hp:vA 100=1:=rfl;rw[hp];rcases ht with hk|⟨hk,d,hd,h1,h2⟩
 ·have e3:((t.k:Int)==3)=false:=iE (c:=3) zo;have HB:Hid (iq [100] t=true):=by show _=_;simp[iq,hk]
  unfold je;clear hk hp;exact zm135
 have e3:((t.k:Int)==3)=true:=mu (c:=3) hk;have HB:Hid (iq [100] t=(decide (d.toNat<49)||decide (51<d.toNat))):=by show _=_;simp[iq,hk,hd]
 have HN:=fa (fun w=>wG t d w hd h1 h2);obtain⟨m,hm⟩: ∃m:Nat,m=d.toNat - 48:=⟨_,rfl⟩;rw[<-hm] at HN;have HM:=fa hm;have hm9:m<=9:=zo;have HD:=fa h1;clear hk hp hd hm h1 h2;by_cases hz:(1:Int)<=(m:Int)
 ·by_cases h3:(m:Int)<=3
  ·have HR:Hid ((!(decide (d.toNat<49)||decide (51<d.toNat)))=true):=by
    have:=HM.out;have:=HD.out;show _=_;rw[decide_eq_false zo,decide_eq_false zo];rfl
   go_in;unfold je at *
   go_wp2_with (go_at_call 161;refine(HN _).mono ?_;rintro e w1 ⟨rfl,I⟩;have R:=fa I;have J:=(I.block w.heap.size zp).trans (ft _ _);have xc:=fun o=>cell_of_blk J o;have ai:w.heap.size<w1.heap.size:=fh J;clear I J)
   refine(HN _).mono ?_;rintro e w2 ⟨rfl,U⟩;have aa:=fa U;clear U;go_wp2;go_ret;exact⟨jG (by rw[HB.out,HR.out]),(gz.trans (R.mono zp)).trans (aa.mono zo)⟩
  have HR:Hid ((!(decide (d.toNat<49)||decide (51<d.toNat)))=false):=by
   have:=HM.out;have:=HD.out;show _=_;rw[decide_eq_true (p:=51<d.toNat) zo];simp
  go_in;unfold je at *
  go_wp2_with (go_at_call 161;refine(HN _).mono ?_;rintro e w1 ⟨rfl,I⟩;have R:=fa I;have J:=(I.block w.heap.size zp).trans (ft _ _);have xc:=fun o=>cell_of_blk J o;have ai:w.heap.size<w1.heap.size:=fh J;clear I J)
  refine(HN _).mono ?_;rintro e w2 ⟨rfl,U⟩;have aa:=fa U;clear U;go_wp2;go_ret;exact⟨jG (by rw[HB.out,HR.out];simp_all),(gz.trans (R.mono zp)).trans (aa.mono zo)⟩
 have HR:Hid ((!(decide (d.toNat<49)||decide (51<d.toNat)))=false):=by
  have:=HM.out;have:=HD.out;show _=_;rw[decide_eq_true (p:=d.toNat<49) zo];simp
 go_in;unfold je at *
 go_wp2_with (go_at_call 161;refine(HN _).mono ?_;rintro e w1 ⟨rfl,I⟩;have R:=fa I;have J:=(I.block w.heap.size zp).trans (ft _ _);have xc:=fun o=>cell_of_blk J o;have ai:w.heap.size<w1.heap.size:=fh J;clear I J)
 go_ret;exact⟨jG (by rw[HB.out,HR.out]),gz.trans (R.mono zp)⟩
theorem K'(h:n<=11):(ir n).length=jT n:=by
 unfold ir jT
 repeat' split
 all_goals rfl
theorem J4{k:Nat}(h:TkAt w b)(hn:n<=11)(J:(ir n).drop k=c::r):w.cell? ⟨lU b n,k,none⟩=some (xd xh (vA c))/\(c=110\/c=100)/\lU b n<w.heap.size:=by
 have I:k<(ir n).length:=by
  rcases Nat.lt_or_ge k (ir n).length with h|h
  ·omega
  rw[Mu h] at J;cases J
 rcases tP hn with⟨ht,hl⟩|⟨ht,hl⟩|⟨ht,hl⟩
 ·have R:lU b n=b:=if_pos hl;rw[ht] at J I;have:k=0:=za;subst this;have hc:=((List.cons.inj J).1).symm;subst hc;rw[R];exact⟨cell_of_blk h.b0 0,My rfl,fh h.b0⟩
 ·have R:lU b n=b+1+1:=by unfold lU;rw[if_neg zo,if_pos hl.2]
  rw[ht] at J I;rw[R];have:k=0\/k=1:=by simp at I;omega
  rcases this with rfl|rfl
  ·have hc:=((List.cons.inj J).1).symm;subst hc;exact⟨cell_of_blk h.b2 0,My rfl,fh h.b2⟩
  have hc:=((List.cons.inj J).1).symm;subst hc;exact⟨cell_of_blk h.b2 1,Or.inr rfl,fh h.b2⟩
 have R:lU b n=b+1:=by unfold lU;rw[if_neg zo,if_neg zo]
 rw[ht] at J I;rw[R];have:k=0\/k=1:=by simp at I;omega
 rcases this with rfl|rfl
 ·have hc:=((List.cons.inj J).1).symm;subst hc;exact⟨cell_of_blk h.b1 0,My rfl,fh h.b1⟩
 have hc:=((List.cons.inj J).1).symm;subst hc;exact⟨cell_of_blk h.b1 1,My rfl,fh h.b1⟩
theorem me{ty:Nat}{c:Array Value}(hc:CK w cb B A x)(hf:CF cb B w w')(J:w.heap[b]? =some (xi c ty m))(I:ty≠9)(h2:ty≠198):w'.heap[b]? =some (xi c ty m):=
 Ak hf J I (by
  rintro rfl;obtain⟨ao,an,ac,h3,_⟩:=hc.blk;simp_all)
structure QS (W:World) (kb g b tb:Nat) (r:Rl) (ac:Nat) (xx:Tk) (n:Nat):Prop where
 kx:W.heap[kb]? =some (my r.word (some ⟨g,0,none⟩) r.args.length ac xx)
 gx: ∃cur,W.heap[g]? =some (xi cur 201 (0,0))/\cur.toList.take (r.args.length * 3)=gK r.args
 tk:TkAt W b
 tx:W.heap[tb]? =some (xi #[xj (rF n),xa (some ⟨lU b n,0,none⟩) (jT n) (jT n),.func (.func (kB n)) #[] #[]] 265 (0,0))
theorem QS.keep(hc:CK w cb B A x)(hf:CF cb B w w'){I g tb:Nat}{r:Rl}(h:QS w I g b tb r ac xx n):QS w' I g b tb r ac xx n:=by
 obtain⟨cur,J,R⟩:=h.gx;exact⟨me hc hf h.kx zp zp,⟨cur,me hc hf J zp zp,R⟩,⟨me hc hf h.tk.b0 zp zp,me hc hf h.tk.b1 zp zp,me hc hf h.tk.b2 zp zp⟩,me hc hf h.tx zp zp⟩
theorem GN{ks:List UInt8}{l:List Tk}{k:Nat}{r:List Tk}(h:l.drop k=t::r):fArgs A (ks.drop k) (l.drop k)=qK A (ks.drop k) t++fArgs A (ks.drop (k+1)) (l.drop (k+1)):=by
 rw[h,nT h,fArgs,List.tail_drop]
theorem BQ{ks:List UInt8}{k:Nat}(h:ks.drop k=c::r):iq (ks.drop k) t=iq [c] t:=by rw[h];rfl
theorem Di{ks:List UInt8}{k:Nat}(h:ks.length<=k):iq (ks.drop k) t=true:=by rw[Mu h];rfl
theorem zB(cb B:Nat)(A:List Tk)(x:Nat × Nat)(r:Rl)(kb g ac:Nat)(xx:Tk)(h:CK w cb B A x)
  (hk:w.heap[kb]? =some (my r.word (some ⟨g,0,none⟩) r.args.length ac xx))(hx:xx.p=r.fin)(aK: ∃cur,w.heap[g]? =some (xi cur 201 (0,0))/\cur.toList.take (r.args.length * 3)=gK r.args)(aj: ∀t∈r.args,C5 t)(hl:r.args.length<=2):
  Calls prog 160 #[xk (some ⟨cb,0,none⟩),xk (some ⟨kb,0,none⟩)] w fun e w'=>e=xm (.tuple #[])/\CK w' cb B A (gO x (oC A r))/\CF cb B w w':=by
 have HC:=fa h;have HK:=fa hk;have HX:=fa hx;have aI:=fa aK;have bc:=fa aj;unfold my at hk;have kc:=cell_of_blk hk;clear h hk hx aK aj;go_in;go_wp2_with fail;refine(nS cb B A x r.word HC).mono ?_;rintro e w1 ⟨rfl,bq,aB⟩;have aC:=me HC aB HK zp zp;have ar: ∃cur,w1.heap[g]? =some (xi cur 201 (0,0))/\cur.toList.take (r.args.length * 3)=gK r.args:=by
  obtain⟨cur,h1,h2⟩:=aI.out;exact⟨cur,me HC aB h1 zp zp,h2⟩
 have bf:=fa bq;have bh:=fa aB;have bl:=fa aC;have ai:=fa ar;have bA:=fh aC;clear kc;have kc:=cell_of_blk aC;clear bq aB aC ar aI HK;go_wp2_with fail;refine(rN r.word.s).mono ?_;rintro e w2 ⟨ak,b,hbb,aL,aV⟩;have bg:=fa (bf.later ak);have bj:=fa (bh.trans (CF.below ak));have J:=(ak.block _ bA).trans bl;have au: ∃cur,w2.heap[g]? =some (xi cur 201 (0,0))/\cur.toList.take (r.args.length * 3)=gK r.args:=by
  obtain⟨cur,h1,h2⟩:=ai.out;exact⟨cur,(ak.block _ (fh h1)).trans h1,h2⟩
 have bN:=fa J;have aS:=fa au;have bm:=fa aL;have bB:=fh J;clear kc;have kc:=cell_of_blk J;clear ak J au aL bl ai bf bh;rcases aV with⟨hn,rfl⟩|⟨hn,rfl⟩
 ·obtain⟨n,a6⟩: ∃n,n=gR r.word.s.toList:=⟨_,rfl⟩;rw[<-a6] at hn|-;have az:Hid (gO x (oC A r)=gO (gO (gO x (jq r.word)) (fArgs A (ir n) r.args)) (if r.args.length<(ir n).length then [(r.fin,4)] else [])):=by
   show _=_;unfold oC;rw[<-a6,if_pos hn,iJ,iJ]
  have bG:=K' hn;have aA:=fa bG;clear a6 bG;go_wp2
  go_loopw [37] (fun i wr=> ∃(k:Nat) (y:Nat × Nat),i=xd xh (k:Int)/\k<=r.args.length/\CK wr cb B A y/\CF cb B w wr/\Hid (gO (gO x (jq r.word)) (fArgs A (ir n) r.args)=gO y (fArgs A ((ir n).drop k) (r.args.drop k)))/\QS wr kb g b w2.heap.size r ac xx n) (fun i _=>r.args.length - (intOf i).toNat)
  ·obtain⟨cur,h1,h2⟩:=aS.out;refine⟨0,gO x (jq r.word),rfl,Mz _,bg.alloc _,bj.trans (CF.below gz),rfl,⟨(Ms _ _ _ bB).trans bN,⟨cur,(Ms _ _ _ (fh h1)).trans h1,h2⟩,bm.later gz,ft _ _⟩⟩
  clear kc;obtain⟨k,y,rfl,hkk,aX,aY,HY,hq⟩:=hrel;have U:=fa aX;have ay:=fa aY;have HQ:=fa hq;have aD:=hq.kx;have a7:=hq.tx;unfold my at aD;have kc:=cell_of_blk aD;have tc:=cell_of_blk a7;by_cases hlt:k<r.args.length
  ·obtain⟨t,rr,ht⟩: ∃t rr,r.args.drop k=t::rr:=by
    cases hd:r.args.drop k with
    |nil=>have:=congrArg Mx hd;simp at this;omega
    |cons t rr=>simp
   obtain⟨c0,c1,c2⟩:=l5 hq.gx ht;have bD:=bc t (MC (by rw[ht];simp));have bO:=fa bD;have HFA:=fa (GN (A:=A) (ks:=ir n) ht);clear aX aY hq aD a7 ht bD
   go_upto_if 44 with fail
   go_cut [] (fun wc=>CK wc cb B A (gO y (if t.k=2 then iW A t.s t.p else []))/\CF cb B w wc/\QS wc kb g b w2.heap.size r ac xx n/\wc.heap[wr.heap.size]? =some (xi #[xd xh t.k,xj t.s,xd xh t.p] 201 (0,0)))
   case first=>
    by_cases J:t.k=2
    ·have e2:=mu (c:=2) J;have HT:Hid (gO y (if t.k=2 then iW A t.s t.p else [])=gO y (iW A t.s t.p)):=by show _=_;rw[if_pos J]
     clear J;go_wp2_with fail;refine(qT cb B A y t (U.alloc _)).mono ?_;rintro e w3 ⟨rfl,an,bu⟩;have aM:=fa an;have aO:=fa bu;clear an bu;go_wp2_with fail
     go_meet
     rw[HT.out];refine⟨aM,(ay.trans (CF.below gz)).trans aO, ?_,me (U.alloc _) aO (ft _ _) zp zp⟩;exact QS.keep (U.alloc _) aO (QS.keep U (CF.below (cb:=cb) (B:=B) gz) HQ)
    ·have e2:=iE (c:=2) J;have HT:Hid (gO y (if t.k=2 then iW A t.s t.p else [])=y):=by show _=_;rw[if_neg J];rfl
     clear J;go_wp2_with fail
     go_meet
     rw[HT.out];exact⟨U.alloc _,ay.trans (CF.below gz),QS.keep U (CF.below (cb:=cb) (B:=B) gz) HQ,ft _ _⟩
   clear kc tc c0 c1 c2;obtain⟨br,bw,aE,aa⟩:=hcut;have av:=aE.tx;have bH:=fh av;have ad:=fh aa;have tc:=cell_of_blk av;have xc:=cell_of_blk aa;have ag:=fa br;have aP:=fa bw;have aR:=fa aE;have aG:=fa aa;clear br bw aa av;generalize wr.heap.size=xb at *;by_cases hkn:(ir n).length<=k
   ·have bR:((jT n:Nat):Int)<=(k:Int):=by rw[<-aA.out];omega
    have HBAD:=fa (Di (t:=t) hkn);go_wp2_with fail;refine wp_region_held_drew (S:=fun w'=>w'.cell? ⟨w2.heap.size,1,none⟩=some (xa (some ⟨lU b n,0,none⟩) (jT n) (jT n))/\w'.cell? ⟨xb,0,none⟩=some (xd xh t.k)/\w'.cell? ⟨xb,1,none⟩=some (xj t.s)/\w'.cell? ⟨xb,2,none⟩=some (xd xh t.p)) zk ?_ (fun I=> ?_)
    ·simp_all
    apply zt1 0 (xd xh (k:Int)) I;apply zt1 1 (xk (some ⟨w2.heap.size,1,none⟩)) I;apply zt1 2 (xa (some ⟨lU b n,0,none⟩) (jT n) (jT n)) I;apply zt1 3 (xd xh (jT n:Int)) I;apply zt1 4 (xn true) I;apply zt1 5 (xn true) I;apply zuH 6 I;apply zuH 7 I;apply zuH 8 I;apply zuH 9 I;apply zuH 10 I;apply zuH 11 I;apply zuH 12 I;apply zuH 13 I;apply zt1 14 (xn true) I;refine wpAnyH_done zk ?_ _;clear I;clear tc xc;have xc:=cell_of_blk aG;go_wp2_with fail;refine(lQ cb B A _ t.p 4 (ag.later (Mt _ _).drew)).mono ?_;rintro e w5 ⟨rfl,bt,bz⟩;have aw:=fa bt;have ae:=fa ((CF.below (cb:=cb) (B:=B) (Mt wc.heap.size wc).drew).trans (CF.grown bz));clear bt bz;go_wp2
    go_roundw
    ·refine⟨k+1,_,zf,zo,aw,aP.trans ae, ?_,QS.keep ag ae aR⟩;exact zm187
    simp[intOf];omega
   have hlk:k<(ir n).length:=zo;obtain⟨c,rc,aW⟩: ∃c rc,(ir n).drop k=c::rc:=by
    cases hd:(ir n).drop k with
    |nil=>have:=congrArg Mx hd;simp at this;omega
    |cons c rc=>simp
   have hlk2:k<jT n:=by rw[<-aA.out];omega
   obtain⟨pc,bQ,bF⟩:=J4 aE.tk hn aW;have bR:¬ ((jT n:Nat):Int)<=(k:Int):=zo;have aU:=BQ (t:=t) aW;obtain⟨v,hv⟩: ∃v,v=iq [c] t:=⟨_,rfl⟩;have aH:=fa (fun W=>GP t c W bQ bO);rw[<-hv] at aU aH;have HBAD:=fa aU;clear aE aW aU hv hkn;go_wp2_with fail;refine wp_region_held_drew (S:=fun w'=>w'.cell? ⟨w2.heap.size,1,none⟩=some (xa (some ⟨lU b n,0,none⟩) (jT n) (jT n))/\w'.cell? ⟨xb,0,none⟩=some (xd xh t.k)/\w'.cell? ⟨xb,1,none⟩=some (xj t.s)/\w'.cell? ⟨xb,2,none⟩=some (xd xh t.p)/\w'.cell? ⟨lU b n,k,none⟩=some (xd xh (vA c))) zk ?_ (fun I=> ?_)
   ·simp_all
   apply zt1 0 (xd xh (k:Int)) I;apply zt1 1 (xk (some ⟨w2.heap.size,1,none⟩)) I;apply zt1 2 (xa (some ⟨lU b n,0,none⟩) (jT n) (jT n)) I;apply zt1 3 (xd xh (jT n:Int)) I;apply zt1 4 (xn false) I;apply zt1 5 (xn false) I;apply zt1 6 (.agg #[xd xh t.k,xj t.s,xd xh t.p]) I;apply zt1 7 (xk (some ⟨w2.heap.size,1,none⟩)) I;apply zt1 8 (xa (some ⟨lU b n,0,none⟩) (jT n) (jT n)) I;apply zt1 9 (xd xh (k:Int)) I;apply zt1 10 (xk (some ⟨lU b n,k,none⟩)) I;apply zt1 11 (xd xh (vA c)) I;apply zrH 12;intro K hK;go_simp
   go_wp2_with (refine(aH _).mono ?_;rintro e w5 ⟨rfl,R⟩)
   have bE:w5.cell? ⟨w2.heap.size,1,none⟩=some (xa (some ⟨lU b n,0,none⟩) (jT n) (jT n))/\w5.cell? ⟨xb,0,none⟩=some (xd xh t.k)/\w5.cell? ⟨xb,1,none⟩=some (xj t.s)/\w5.cell? ⟨xb,2,none⟩=some (xd xh t.p)/\w5.cell? ⟨lU b n,k,none⟩=some (xd xh (vA c)):=
    ⟨(bcell3 R _ _ bH).trans (tc 1),(bcell3 R _ _ ad).trans (xc 0),(bcell3 R _ _ ad).trans (xc 1),(bcell3 R _ _ ad).trans (xc 2),(bcell3 R _ _ bF).trans pc⟩
   refine hK _ _ bE (fun I=> ?_);clear hK K bE;have aw:=fa (ag.later (((Mt _ _).drew).trans R));have ae:=fa (CF.below (cb:=cb) (B:=B) (((Mt wc.heap.size wc).drew).trans R));have aJ:=(R.block _ ad).trans aG;have bd:=fa aJ;clear R aJ tc xc pc;apply zt1 13 (xn v) I;apply zt1 14 (xn v) I;refine wpAnyH_done zk ?_ _;clear I;have xc:=cell_of_blk bd;cases v with
   |true=>
    go_wp2_with fail;refine(lQ cb B A _ t.p 4 aw).mono ?_;rintro e w6 ⟨rfl,ao,aq⟩;have aN:=fa ao;have ax:=fa (ae.trans (CF.grown aq));clear ao aq;go_wp2
    go_roundw
    ·refine⟨k+1,_,zf,zo,aN,aP.trans ax, ?_,QS.keep ag ax aR⟩;exact zm187
    simp[intOf];omega
   |false=>
    go_wp2
    go_roundw
    ·refine⟨k+1,_,zf,zo,aw,aP.trans ae, ?_,QS.keep ag ae aR⟩;show _=_;rw[HY.out,HFA.out,iJ,qK,HBAD.out,iJ];rfl
    simp[intOf];omega
  have bS:r.args.length<=k:=zo;have bn:Hid (gO (gO x (jq r.word)) (fArgs A (ir n) r.args)=y):=by
   show _=_;rw[HY.out,Mu bS,fArgs];rfl
  clear aX aY hq aD a7;by_cases hll:r.args.length<(ir n).length
  ·have bC:(r.args.length:Int)<((jT n:Nat):Int):=by rw[<-aA.out];omega
   have aQ:=fa hll;clear hll;go_wp2;go_quiet (fail);go_wp2_with fail;refine(lQ cb B A _ xx.p 4 (U.later (jA _ _))).mono ?_;rintro e w6 ⟨rfl,ao,aq⟩;have aN:=fa ao;have ax:=fa ((CF.below (cb:=cb) (B:=B) (jA wr nq)).trans (CF.grown aq));clear ao aq;go_wp2;go_end0;rw[az.out,bn.out,if_pos aQ.out,FX,<-HX.out];exact⟨rfl,aN,ay.trans ax⟩
  have bC:¬ (r.args.length:Int)<((jT n:Nat):Int):=by rw[<-aA.out];omega
  have aQ:=fa hll;clear hll;go_wp2;go_quiet (fail);go_wp2;go_end0;rw[az.out,bn.out,if_neg aQ.out,FW];exact⟨rfl,U.later (jA _ _),ay.trans (CF.below (jA _ _))⟩
 have az:Hid (gO x (oC A r)=tell (gO x (jq r.word)) r.word.p 3):=by
  show _=_;unfold oC;rw[if_neg hn,iJ];rfl
 clear hn;go_wp2_with fail;refine(lQ cb B A _ r.word.p 3 (bg.alloc _)).mono ?_;rintro e w3 ⟨rfl,an,bx⟩;have aM:=fa an;have bM:=fa bx;clear an bx;go_wp2_with fail;refine bodyPost_ret (v:= .tuple #[]) (by simp[results,results160,go_sem]) rfl ?_;rw[az.out];exact⟨rfl,aM,(bj.trans (CF.below gz)).trans (CF.grown bM)⟩
theorem KQ.cf(hc:CK w cb B A x)(hf:CF cb B w w'):KQ w w':=fun b c ty m I ht=>
 me hc hf I zo zo
def tf(r:Rl):List Tk:=if r.call=true then [] else kJ r.f
theorem RsIs.names{r:Rl}{I no:Option Addr}(h:RsIs w r I no nn nc cp):w.ownsRow 0 201 3 (xa no nn nc) (tf r).length (gK (tf r)):=by
 unfold RsIs at h;unfold tf;by_cases hc:r.call=true
 ·rw[if_pos hc] at h;obtain⟨_,rfl,rfl,rfl,_⟩:=h;rw[if_pos hc];exact MD _ _ _ _
 rw[if_neg hc] at h;rw[if_neg hc];exact h.2.2
theorem nG{no:Option Addr}(h:w.ownsRow 0 201 3 (xa no nn nc) L.length (gK L)):nn=L.length/\(L≠[]-> ∃g,no=some ⟨g,0,none⟩/\L.length<=nc/\nc<=maxLen/\ ∃cur,w.heap[g]? =some (xi cur 201 (0,0))/\cur.toList.take (L.length * 3)=gK L):=by
 exact zm118
def Ae(r:Rl):Prop:=r.call=true->(∀t∈r.args,C5 t)/\r.args.length<=2/\r.args≠[]
theorem zC(cb B:Nat)(A:List Tk)(x:Nat × Nat)(i:Nat)(r:Rl)(tk:Int)(ts:ByteArray)(fp no:Option Addr)(nn nc:Nat)(cp:Option Addr)(h:CK w cb B A x)(hr:RsIs w r fp no nn nc cp)(R:Ae r):
  Calls prog 116 #[xk (some ⟨cb,0,none⟩),xd xh (i:Int),.agg #[xd xh tk,xj ts,xd xh (r.pl:Int),xk fp,xa no nn nc,xk cp]] w fun e w'=>e=xm (.tuple #[])/\CK w' cb B A (gO x (pk A i r))/\CF cb B w w':=by
 have HC:=fa h;have HR:=fa hr;have aA:=fa R;have hcl:=h.lt;obtain⟨bj,aq⟩:=nG hr.names;have aE:=fa aq;have hnn1:nn<=(tf r).length:=zo;have hnn2:(tf r).length<=nn:=zo;clear h hr R aq bj;go_in
 go_upto_if 9 with fail
 go_cut [] (fun wc=>CK wc cb B A (gO x (if 4<=i then [(r.pl,4)] else []))/\CF cb B w wc/\wc.heap[w.heap.size]? =some (xi #[xd xh tk,xj ts,xd xh (r.pl:Int),xk fp,xa no nn nc,xk cp] 205 (0,0)))
 case first=>
  by_cases h4:4<=i
  ·have bd:(4:Int)<=(i:Int):=zo;have HT:Hid (gO x (if 4<=i then [(r.pl,4)] else [])=tell x r.pl 4):=by show _=_;rw[if_pos h4];rfl
   clear h4;go_wp2_with fail;refine(lQ cb B A x r.pl 4 (HC.alloc _)).mono ?_;rintro e w1 ⟨rfl,ad,ak⟩;have au:=fa ad;have aC:=fa ak;clear ad ak;go_wp2_with fail
   go_meet
   rw[HT.out];exact⟨au,(CF.below gz).trans (CF.grown aC),(aC.block _ zp zs).trans (ft _ _)⟩
  ·have bd:¬ (4:Int)<=(i:Int):=zo;have HT:Hid (gO x (if 4<=i then [(r.pl,4)] else [])=x):=by show _=_;rw[if_neg h4];rfl
   clear h4;go_wp2_with fail
   go_meet
   rw[HT.out];exact⟨HC.alloc _,CF.below gz,ft _ _⟩
 obtain⟨ad,aL,aa⟩:=hcut;have aB:=fa aa;have au:=fa ad;have aX:=fa aL;have xc:=cell_of_blk aa;have aD:Hid (gO x (pk A i r)=gO (gO (gO x (if 4<=i then [(r.pl,4)] else [])) ((tf r).flatMap (fun t=>iW A t.s t.p))) (if r.call=true then oC A r else [])):=by
  show _=_;unfold pk tf;rw[iJ];by_cases hc:r.call=true
  ·rw[if_pos hc,if_pos hc,if_pos hc];rfl
  rw[if_neg hc,if_neg hc,if_neg hc];rfl
 generalize gO x (if 4<=i then [(r.pl,4)] else [])=x1 at *;generalize tf r=NMS at *;clear ad aL aa;generalize wc=w1 at *;go_wp2
 go_loopw [18] (fun i wr=> ∃(k:Nat) (y:Nat × Nat),i=xd xh (k:Int)/\k<=NMS.length/\CK wr cb B A y/\CF cb B w wr/\Hid (gO x1 (NMS.flatMap (fun t=>iW A t.s t.p))=gO y ((NMS.drop k).flatMap (fun t=>iW A t.s t.p)))/\wr.heap[w.heap.size]? =some (xi #[xd xh tk,xj ts,xd xh (r.pl:Int),xk fp,xa no nn nc,xk cp] 205 (0,0))) (fun i _=>NMS.length - (intOf i).toNat)
 ·exact⟨0,x1,rfl,Mz _,au,aX,rfl,aB⟩
 clear xc;obtain⟨k,y,rfl,hkk,aK,aM,HY,ax⟩:=hrel;have aw:=fa aK;have aj:=fa aM;have aW:=fa ax;have xc:=cell_of_blk ax;clear aK aM ax;by_cases hlt:k<NMS.length
 ·obtain⟨t,rr,ht⟩: ∃t rr,NMS.drop k=t::rr:=by
   cases hd:NMS.drop k with
   |nil=>have:=congrArg Mx hd;simp at this;omega
   |cons t rr=>simp
  obtain⟨g,bl,hle,aJ,aQ⟩:=aE (by intro e;simp_all);unfold maxLen at aJ;have ar: ∃cur,wr.heap[g]? =some (xi cur 201 (0,0))/\cur.toList.take (NMS.length * 3)=gK NMS:=by
   obtain⟨cur,h1,h2⟩:=aQ;exact⟨cur,KQ.cf HC aj _ _ _ _ h1 (My rfl),h2⟩
  obtain⟨c0,c1,c2⟩:=l5 ar ht;subst bl;have aY:Hid ((NMS.drop k).flatMap (fun t=>iW A t.s t.p)=iW A t.s t.p++(NMS.drop (k+1)).flatMap (fun t=>iW A t.s t.p)):=by show _=_;rw[ht,nT ht,List.flatMap_cons]
  have aP:(k:Int)<(nn:Int):=zo;clear ht aQ ar;go_wp2_with fail;refine(qT cb B A y t (aw.alloc _)).mono ?_;rintro e w3 ⟨rfl,ae,ag⟩;have av:=fa ae;have ai:=fa ((CF.below (cb:=cb) (B:=B) ((Mt wr.heap.size wr).alloc (Mw _) (xi #[xd xh t.k,xj t.s,xd xh t.p] 201))).trans ag);clear ae ag;go_wp2
  go_roundw
  ·exact⟨k+1,_,zf,zo,av,aj.trans ai,by show _=_;rw[HY.out,aY.out,iJ],me aw ai aW zp zp⟩
  simp[intOf];omega
 have bh:NMS.length<=k:=zo;have aF:Hid (gO x1 (NMS.flatMap (fun t=>iW A t.s t.p))=y):=by show _=_;rw[HY.out,Mu bh];rfl
 have aP:¬ (k:Int)<(nn:Int):=zo;by_cases hcall:r.call=true
 ·have I:=HR.out;unfold RsIs at I;rw[if_pos hcall] at I;obtain⟨⟨kb,ao,an,ac,xx,ay,aO,aR,aI⟩,_⟩:=I;obtain⟨aG,bf,aH⟩:=aA hcall;obtain⟨bg,U⟩:=nG aI;obtain⟨g,ak,_,_,aN⟩:=U aH;subst ay bg ak;have az:=KQ.cf HC aj;have a7:=fa (az _ _ _ _ aO (Or.inr (My rfl)));have a6:Hid (∃cur,wr.heap[g]? =some (xi cur 201 (0,0))/\cur.toList.take (r.args.length * 3)=gK r.args):=by
   obtain⟨cur,h1,h2⟩:=aN;exact⟨cur,az _ _ _ _ h1 (My rfl),h2⟩
  have a':=fa aR;have aV:=fa aG;have J:Hid (gO x (pk A i r)=gO y (oC A r)):=by show _=_;rw[aD.out,aF.out,if_pos hcall]
  clear aO aR aN aI U aG aH hcall az;go_wp2_with fail;refine(zB cb B A y r kb g ac xx aw a7 a' a6 aV bf).mono ?_;rintro e w3 ⟨rfl,ae,ag⟩;have av:=fa ae;have ai:=fa ag;clear ae ag;go_wp2;go_end0;rw[J.out];exact⟨rfl,av,aj.trans ai⟩
 have I:=HR.out;unfold RsIs at I;rw[if_neg hcall] at I;have ay:=I.1;subst ay;have J:Hid (gO x (pk A i r)=y):=by show _=_;rw[aD.out,aF.out,if_neg hcall];rfl
 clear I hcall;go_wp2;go_end0;rw[J.out];trivial
theorem tJ: ∀{rs:List Rl} {cs:List Value} (k:Nat) {r:Rl} {rr:List Rl},RulesP w rs cs->rs.drop k=r::rr-> ∃J s I no nn nc cp,cs[k * 6]? =some (xd xh J)/\cs[k * 6+1]? =some (xj s)/\cs[k * 6+2]? =some (xd xh r.pl)/\cs[k * 6+3]? =some (xk I)/\cs[k * 6+4]? =some (xa no nn nc)/\cs[k * 6+5]? =some (xk cp)/\RsIs w r I no nn nc cp
 |[],_,_,_,_,_,h=>by simp at h
 |r0::rs,_,0,_,_,⟨J,s,I,no,nn,nc,cp,rest,e,h1,_⟩,h=>by
  cases h;subst e;exact⟨J,s,I,no,nn,nc,cp,rfl,rfl,rfl,rfl,rfl,rfl,h1⟩
 |r0::rs,_,k+1,_,_,⟨_,_,_,_,_,_,_,rest,e,_,h2⟩,h=>by
  obtain⟨J,s,I,no,nn,nc,cp,g0,g1,g2,g3,g4,g5,R⟩:=tJ k h2 (by simpa using h);subst e;have e0:(k+1) * 6=k * 6+6:=zo;refine⟨J,s,I,no,nn,nc,cp, ?_, ?_, ?_, ?_, ?_, ?_,R⟩
  ·simp_all
  ·simp_all
  ·simp_all
  ·simp_all
  ·simp_all
  simp_all
theorem C2{no:Option Addr}(h:w.ownsRow 0 205 6 (xa no nn nc) n cs):nn=n/\(n≠0-> ∃g,no=some ⟨g,0,none⟩/\n<=nc/\nc<=maxLen/\ ∃cur,w.heap[g]? =some (xi cur 205 (0,0))/\cur.toList.take (n * 6)=cs):=by
 exact zm118
theorem jL{k o:Nat}(h:cur.toList.take n=cs)(I:k+o<n)(hc:cs[k+o]? =some v):cur[k+o]? =some v:=by
 rw[<-h,List.getElem?_take,if_pos I] at hc;simp_all
theorem ED(w:World)(al:List Tk)(rs:List Rl)(o1:Option Addr)(n1 k1:Nat)(o2:Option Addr)(n2 k2:Nat)(cells:List Value)(ha:w.ownsRow 0 201 3 (xa o1 n1 k1) al.length (gK al))(hr:w.ownsRow 0 205 6 (xa o2 n2 k2) rs.length cells)(hp:RulesP w rs cells)(hg: ∀r∈rs,Ae r)(hal:al.length<=401)(hrs:rs.length<=401):
  Calls prog 70 #[.agg #[xa o1 n1 k1,xa o2 n2 k2]] w fun e w'=>e=xm (.agg #[xd xh ((gO (0,0) (pK al rs)).1:Nat),xd xh ((gO (0,0) (pK al rs)).2:Nat)])/\Below w.heap.size w w':=by
 obtain⟨bn,aq⟩:=nG ha;obtain⟨bo,ar⟩:=C2 hr;have hn1a:n1<=al.length:=zo;have hn1b:al.length<=n1:=zo;have hn2a:n2<=rs.length:=zo;have hn2b:rs.length<=n2:=zo;have ay:=fa aq;have az:=fa ar;have HP:=fa hp;have a6:=fa hg;clear ha hr hp hg bn bo aq ar;have HF:Hid (gO (0,0) (pK al rs)=gO (gO (0,0) (oB al 0 al)) (nY al 0 rs)):=iJ _ _ _;go_in;go_wp2_with fail;have ag:CK (((w.alloc (xi #[xa o1 n1 k1,xa o2 n2 k2] 128)).alloc (xi #[xd xh 0,xd xh 0] 80)).alloc (xi #[xa none 0 0,xd xh 0,xd xh 0] 198)) (w.heap.size+1+1) w.heap.size [] (0,0):=
  ⟨⟨none,0,0,fk _ _ _ zp,MD _ _ _ _⟩,zo⟩
 have aA:=fa ag;have aL:Below w.heap.size w (((w.alloc (xi #[xa o1 n1 k1,xa o2 n2 k2] 128)).alloc (xi #[xd xh 0,xd xh 0] 80)).alloc (xi #[xa none 0 0,xd xh 0,xd xh 0] 198)):=
  ((gz.alloc zp _).alloc zs _)
 have aT:=fa aL;have ai:(((w.alloc (xi #[xa o1 n1 k1,xa o2 n2 k2] 128)).alloc (xi #[xd xh 0,xd xh 0] 80)).alloc (xi #[xa none 0 0,xd xh 0,xd xh 0] 198)).heap[w.heap.size]? =some (kN o1 n1 k1 o2 n2 k2):=(Ms _ _ _ zs).trans ((Ms _ _ _ zp).trans (ft _ _));have U:(((w.alloc (xi #[xa o1 n1 k1,xa o2 n2 k2] 128)).alloc (xi #[xd xh 0,xd xh 0] 80)).alloc (xi #[xa none 0 0,xd xh 0,xd xh 0] 198)).heap[w.heap.size+1]? =some (xi #[xd xh 0,xd xh 0] 80 (0,0)):=(Ms _ _ _ zp).trans (fk _ _ _ zp);have ba:=fa ai;have a':=fa U;have hsz:w.heap.size+1+1+1=(((w.alloc (xi #[xa o1 n1 k1,xa o2 n2 k2] 128)).alloc (xi #[xd xh 0,xd xh 0] 80)).alloc (xi #[xa none 0 0,xd xh 0,xd xh 0] 198)).heap.size:=zp;clear ag aL ai U;generalize hW0:((w.alloc (xi #[xa o1 n1 k1,xa o2 n2 k2] 128)).alloc (xi #[xd xh 0,xd xh 0] 80)).alloc (xi #[xa none 0 0,xd xh 0,xd xh 0] 198)=W0 at *;clear hW0
 go_loopw [13] (fun i wr=> ∃(k:Nat) (y:Nat × Nat),i=xd xh (k:Int)/\k<=al.length/\CK wr (w.heap.size+1+1) w.heap.size (al.take k) y/\CF (w.heap.size+1+1) w.heap.size W0 wr/\Hid (gO (0,0) (oB al 0 al)=gO y (oB al k (al.drop k)))) (fun i _=>al.length - (intOf i).toNat)
 ·exact⟨0,(0,0),rfl,Mz _,aA,CF.refl _ _ _,rfl⟩
 obtain⟨k,y,rfl,bl,aa,J,HY⟩:=hrel;have aF:=fa aa;have aY:=fa J;have I:=aT.trans (J.low zo zo);have aS:=fa I;have hwl:=I.size;by_cases hlt:k<al.length
 ·obtain⟨t,rr,ht⟩: ∃t rr,al.drop k=t::rr:=by
   cases hd:al.drop k with
   |nil=>have:=congrArg Mx hd;simp at this;omega
   |cons t rr=>simp
  obtain⟨g,aC,bm,aj,cur,ad,R⟩:=ay (by intro e;simp_all);unfold maxLen at aj;have ak:=fh ad;have aw: ∃cur,wr.heap[g]? =some (xi cur 201 (0,0))/\cur.toList.take (al.length * 3)=gK al:=⟨cur,(I.block _ ak).trans ad,R⟩;obtain⟨c0,c1,c2⟩:=l5 aw ht;subst aC;have ax:Hid (oB al k (al.drop k)=tA (al.take k) k t++oB al (k+1) (al.drop (k+1))):=by show _=_;rw[ht,nT ht,oB]
  have bd:=fa (nK ht);have aB:(k:Int)<(n1:Int):=zo;clear aa J I ht ad R aw cur;go_wp2_with fail;refine(An (w.heap.size+1+1) w.heap.size (al.take k) y k t (aF.alloc _) zs zs).mono ?_;rintro e w3 ⟨rfl,aM,aO⟩;have aU:=fa aM;have aW:=fa ((CF.below (cb:=w.heap.size+1+1) (B:=w.heap.size) ((Mt wr.heap.size wr).alloc (Mw _) (xi #[xd xh t.k,xj t.s,xd xh t.p] 201))).trans aO);clear aM aO;go_wp2
  go_roundw
  ·exact⟨k+1,_,zf,zo,by rw[bd.out];exact aU,aY.trans aW,by show _=_;rw[HY.out,ax.out,iJ]⟩
  simp[intOf];omega
 have av:al.length<=k:=zo;have bg:Hid (gO (0,0) (oB al 0 al)=y):=by show _=_;rw[HY.out,Mu av];rfl
 have aE:Hid (CK wr (w.heap.size+1+1) w.heap.size al y):=by have:=aF.out;rw[List.take_of_length_le av] at this;exact this
 have aB:¬ (k:Int)<(n1:Int):=zo;have ai:=me aA J ba zp zp;have U:=me aA J a' zp zp;have HSX2:=fa ai;have aI:=fa U;have sc:=cell_of_blk ai;clear aa J I ai U HY;generalize wr=w4 at *;go_wp2
 go_loopw [26] (fun i wr=> ∃(k:Nat) (z:Nat × Nat),i=xd xh (k:Int)/\k<=rs.length/\CK wr (w.heap.size+1+1) w.heap.size al z/\CF (w.heap.size+1+1) w.heap.size w4 wr/\Hid (gO y (nY al 0 rs)=gO z (nY al k (rs.drop k)))) (fun i _=>rs.length - (intOf i).toNat)
 ·exact⟨0,y,rfl,Mz _,aE,CF.refl _ _ _,rfl⟩
 clear sc;obtain⟨k,z,rfl,bl,aa,J,HZ⟩:=hrel;have aG:=fa aa;have aH:=fa J;have I:=aS.trans (J.low zo zo);have aD:=fa I;have aR:=I.size;by_cases hlt:k<rs.length
 ·obtain⟨r,rr,ht⟩: ∃r rr,rs.drop k=r::rr:=by
   cases hd:rs.drop k with
   |nil=>have:=congrArg Mx hd;simp at this;omega
   |cons r rr=>simp
  obtain⟨g,aC,bm,aj,cur,ad,R⟩:=az zo;unfold maxLen at aj;have ak:=fh ad;obtain⟨kk,s,fp,no,nn,nc,cp,g0,g1,g2,g3,g4,g5,g6⟩:=tJ k HP ht;have ae:=(I.block _ ak).trans ad;have d0:=(cell_of_blk ae (k * 6)).trans (jL (k:=k * 6) (o:=0) R zo g0);have d1:=(cell_of_blk ae (k * 6+1)).trans (jL R zo g1);have d2:=(cell_of_blk ae (k * 6+2)).trans (jL R zo g2);have d3:=(cell_of_blk ae (k * 6+3)).trans (jL R zo g3);have d4:=(cell_of_blk ae (k * 6+4)).trans (jL R zo g4);have d5:=(cell_of_blk ae (k * 6+5)).trans (jL R zo g5);subst aC;have a8:=fa (g6.keep (KQ.below (w:=w) (w':=wr.alloc (xi #[xd xh kk,xj s,xd xh r.pl,xk fp,xa no nn nc,xk cp] 205)) (I.alloc aR _)));have a7:=fa (a6 r (MC (by rw[ht];simp)));have ax:Hid (nY al k (rs.drop k)=pk al k r++nY al (k+1) (rs.drop (k+1))):=by show _=_;rw[ht,nT ht,nY]
  have aB:(k:Int)<(n2:Int):=zo;clear aa J I ht ad R ae cur g0 g1 g2 g3 g4 g5 g6;go_wp2_with fail;refine(zC (w.heap.size+1+1) w.heap.size al z k r kk s fp no nn nc cp (aG.alloc _) a8 a7).mono ?_;rintro e w5 ⟨rfl,aN,aP⟩;have aV:=fa aN;have aX:=fa ((CF.below (cb:=w.heap.size+1+1) (B:=w.heap.size) ((Mt wr.heap.size wr).alloc (Mw _) (xi #[xd xh kk,xj s,xd xh r.pl,xk fp,xa no nn nc,xk cp] 205))).trans aP);clear aN aP;go_wp2
  go_roundw
  ·exact⟨k+1,_,zf,zo,aV,aH.trans aX,by show _=_;rw[HZ.out,ax.out,iJ]⟩
  simp[intOf];omega
 have av:rs.length<=k:=zo;have bh:Hid (gO (0,0) (pK al rs)=z):=by show _=_;rw[HF.out,bg.out,HZ.out,Mu av];rfl
 have aB:¬ (k:Int)<(n2:Int):=zo;have U:=me aE J aI zp zp;obtain⟨ao,an,ac,aK,_⟩:=aa.blk;have bc:=cell_of_blk aK;have rc:=cell_of_blk U;have rf:=fi U;have aJ:=fa U;clear aa J I aK U;go_wp2_with fail;have aQ:((wr.setCell ⟨w.heap.size+1,0,none⟩ (xd xh z.1)).setCell ⟨w.heap.size+1,1,none⟩ (xd xh z.2)).heap[w.heap.size+1]? =some (xi #[xd xh z.1,xd xh z.2] 80 (0,0)):=fj (fj aJ 0 _) 1 _;have br:=cell_of_blk aQ;clear rc;refine bodyPost_ret (v:= .agg #[xd xh z.1,xd xh z.2]) (by simp[results,results70,go_sem,br]) rfl ?_;rw[bh.out];exact⟨rfl,(aD.setCell zp _).setCell zp _⟩
theorem oV(f:Fm)(p:Option Addr):Calls prog 233 #[xk p] w fun e w'=> ∃v,e=xm (xk v)/\(IsG w f p->IsG w' (one 4 f) v)/\Below w.heap.size w w':=by
 go_in;go_wp2_with fail;refine(nv 4 f p).mono ?_;exact zm28
theorem rE(f:Fm)(p:Option Addr):Calls prog 267 #[xk p] w fun e w'=> ∃v,e=xm (xk v)/\(IsG w f p->IsG w' (one 5 f) v)/\Below w.heap.size w w':=by
 go_in;go_wp2_with fail;refine(nv 5 f p).mono ?_;exact zm28
theorem Cn(f:Fm)(p:Option Addr):Calls prog 274 #[xk p] w fun e w'=> ∃v,e=xm (xk v)/\(IsG w f p->IsG w' (one 6 f) v)/\Below w.heap.size w w':=by
 go_in;go_wp2_with fail;refine(nv 6 f p).mono ?_;exact zm28
theorem kC(f:Fm)(p:Option Addr):Calls prog 265 #[xk p] w fun e w'=> ∃v,e=xm (xk v)/\(IsG w f p->IsG w' (one 7 f) v)/\Below w.heap.size w w':=by
 go_in;go_wp2_with fail;refine(nv 7 f p).mono ?_;exact zm28
theorem lq(f:Fm)(p:Option Addr):Calls prog 270 #[xk p] w fun e w'=> ∃v,e=xm (xk v)/\(IsG w f p->IsG w' (one 8 f) v)/\Below w.heap.size w w':=by
 go_in;go_wp2_with fail;refine(nv 8 f p).mono ?_;exact zm28
theorem Ii(f g:Fm)(p q:Option Addr):Calls prog 273 #[xk p,xk q] w fun e w'=> ∃v,e=xm (xk v)/\(IsG w f p->IsG w g q->IsG w' (two 9 f g) v)/\Below w.heap.size w w':=by
 go_in;go_wp2_with fail;refine(kj 9 f g p q).mono ?_;exact zm28
theorem xy(f g:Fm)(p q:Option Addr):Calls prog 266 #[xk p,xk q] w fun e w'=> ∃v,e=xm (xk v)/\(IsG w f p->IsG w g q->IsG w' (two 10 f g) v)/\Below w.heap.size w w':=by
 go_in;go_wp2_with fail;refine(kj 10 f g p q).mono ?_;exact zm28
theorem Lv(f g:Fm)(p q:Option Addr):Calls prog 272 #[xk p,xk q] w fun e w'=> ∃v,e=xm (xk v)/\(IsG w f p->IsG w g q->IsG w' (two 11 f g) v)/\Below w.heap.size w w':=by
 go_in;go_wp2_with fail;refine(kj 11 f g p q).mono ?_;exact zm28
theorem mO(f g:Fm)(p q:Option Addr):Calls prog 271 #[xk p,xk q] w fun e w'=> ∃v,e=xm (xk v)/\(IsG w f p->IsG w g q->IsG w' (two 12 f g) v)/\Below w.heap.size w w':=by
 go_in;go_wp2_with fail;refine(kj 12 f g p q).mono ?_;exact zm28
theorem vF(a:ByteArray): ∀(n:Nat) (U:Option Addr) (w:World),n<=9->IsG w (gV a) U->
  Calls prog 231 #[xk U,xd xh (n:Int)] w fun e w'=> ∃v,e=xm (xk v)/\IsG w' (lg a n) v/\Below w.heap.size w w'
 |0,U,w,_,ha=>by
  have R:=fa ha;clear ha;go_in;go_wp2_with fail;refine(kC (gV a) U).mono ?_;rintro e w1 ⟨p1,rfl,h1,I⟩;have G1:=fa (h1 R);have J:=fa I;clear h1 I;go_wp2;go_ret;exact⟨p1,rfl,G1,J⟩
 |1,U,w,_,ha=>by
  have R:=fa ha;clear ha;go_in;go_wp2_with fail;refine(kC (gV a) U).mono ?_;rintro e w1 ⟨p1,rfl,h1,I⟩;have G1:=fa (h1 R);have J:=fa I;clear h1 I;go_wp2;go_ret;exact⟨p1,rfl,G1,J⟩
 |n+2,U,w,hn,ha=>by
  have R:=fa ha;have HI:=fa (vF a (n+1));have hle:¬ ((n+2:Nat):Int)<=1:=zo;have he:((n+2:Nat):Int) - 1=((n+1:Nat):Int):=zo;clear ha;generalize hm:((n+2:Nat):Int)=m at *;have hm1:m<=100:=zo;have HE:=fa he;clear he hm;go_in;go_wp2_with fail;rw[HE.out];refine(HI U _ zo R).mono ?_;rintro e w1 ⟨p1,rfl,h1,I⟩;have G1:=fa h1;have R:=fa (R.later I);have J:=fa I;clear h1 I;go_wp2_with fail;refine(rE (lg a (n+1)) p1).mono ?_;rintro e w2 ⟨p2,rfl,h2,ad⟩;have G2:=fa (h2 G1);have R:=fa (R.later ad);have J:=fa (J.trans (ad.mono J.size));clear h2 ad;go_wp2_with fail;refine(xy (gV a) (one 5 (lg a (n+1))) U p2).mono ?_;rintro e w3 ⟨p3,rfl,h3,ag⟩;have G3:=fa (h3 R G2);have J:=fa (J.trans (ag.mono J.size));clear h3 ag;go_wp2_with fail;refine(kC (two 10 (gV a) (one 5 (lg a (n+1)))) p3).mono ?_;rintro e w4 ⟨p4,rfl,h4,ai⟩;have G4:=fa (h4 G3);have J:=fa (J.trans (ai.mono J.size));clear h4 ai;go_wp2;go_ret;exact⟨p4,rfl,G4,J⟩
theorem J6(a b:ByteArray)(n:Nat)(I pb:Option Addr)(w:World)(J:IsG w (gV a) I):Calls prog 228 #[xk I,xk pb,xd xh (n:Int)] w fun e w'=> ∃v,e=xm (xk v)/\IsG w' (i' 0 a b n) v/\Below w.heap.size w w':=by
 have R:=fa J;have U:=fa (Mt w.heap.size w);clear J;go_in;go_wp2;go_ret;exact⟨I,rfl,R,U⟩
theorem J7(a b:ByteArray)(n:Nat)(pa pb:Option Addr)(w:World)(ha:IsG w (gV a) pa):Calls prog 229 #[xk pa,xk pb,xd xh (n:Int)] w fun e w'=> ∃v,e=xm (xk v)/\IsG w' (i' 1 a b n) v/\Below w.heap.size w w':=by
 have R:=fa ha;have HB:=fa (Mt w.heap.size w);clear ha;go_in;go_wp2_with fail;refine(yF 1).mono ?_;rintro e w1 ⟨p1,rfl,h1,ad⟩;have G1:=fa h1;have R:=fa (R.later ad);have HB:=fa (HB.trans (ad.mono HB.size));clear h1 ad;go_wp2_with fail;refine(rE (leaf 1 ByteArray.empty 0) p1).mono ?_;rintro e w2 ⟨p2,rfl,h2,U⟩;have G2:=fa (h2 G1);have G1:=fa (G1.later U);have R:=fa (R.later U);have HB:=fa (HB.trans (U.mono HB.size));clear h2 U;go_wp2_with fail;refine(oV (one 5 (leaf 1 ByteArray.empty 0)) p2).mono ?_;rintro e w3 ⟨p3,rfl,h3,J⟩;have G3:=fa (h3 G2);have G1:=fa (G1.later J);have G2:=fa (G2.later J);have R:=fa (R.later J);have HB:=fa (HB.trans (J.mono HB.size));clear h3 J;go_wp2_with fail;refine(xy (gV a) (one 4 (one 5 (leaf 1 ByteArray.empty 0))) pa p3).mono ?_;rintro e w4 ⟨p4,rfl,h4,I⟩;have G4:=fa (h4 R G3);have G1:=fa (G1.later I);have G2:=fa (G2.later I);have G3:=fa (G3.later I);have R:=fa (R.later I);have HB:=fa (HB.trans (I.mono HB.size));clear h4 I;go_wp2_with fail;refine(kC (two 10 (gV a) (one 4 (one 5 (leaf 1 ByteArray.empty 0)))) p4).mono ?_;rintro e w5 ⟨p5,rfl,h5,hb5⟩;have G5:=fa (h5 G4);exact zm50
theorem J8(a b:ByteArray)(n:Nat)(pa pb:Option Addr)(w:World)(U:IsG w (gV a) pa)(hn:n<=9):Calls prog 230 #[xk pa,xk pb,xd xh (n:Int)] w fun e w'=> ∃v,e=xm (xk v)/\IsG w' (i' 2 a b n) v/\Below w.heap.size w w':=by
 have HA:=fa U;have J:=fa (Mt w.heap.size w);clear U;go_in;go_wp2_with fail;refine(vF a n _ _ hn HA).mono ?_;rintro e w1 ⟨p1,rfl,R,I⟩;have G1:=fa R;have J:=fa (J.trans (I.mono J.size));clear R I;go_wp2;go_ret;exact⟨p1,rfl,G1,J⟩
theorem La(a b:ByteArray)(n:Nat)(pa pb:Option Addr)(w:World)(ha:IsG w (gV a) pa)(hn:n<=9):Calls prog 232 #[xk pa,xk pb,xd xh (n:Int)] w fun e w'=> ∃v,e=xm (xk v)/\IsG w' (i' 3 a b n) v/\Below w.heap.size w w':=by
 have U:=fa ha;have I:=fa (Mt w.heap.size w);clear ha;go_in;go_wp2_with fail;refine(vF a n _ _ hn U).mono ?_;rintro e w1 ⟨p1,rfl,h1,J⟩;have G1:=fa h1;have U:=fa (U.later J);have I:=fa (I.trans (J.mono I.size));clear h1 J;go_wp2_with fail;refine(oV (lg a n) p1).mono ?_;rintro e w2 ⟨p2,rfl,h2,R⟩;have G2:=fa (h2 G1);have I:=fa (I.trans (R.mono I.size));clear h2 R;go_wp2;go_ret;exact⟨p2,rfl,G2,I⟩
theorem Cu(a b:ByteArray)(n:Nat)(pa pb:Option Addr)(w:World)(ha:IsG w (gV a) pa)(aa:IsG w (gV b) pb):Calls prog 234 #[xk pa,xk pb,xd xh (n:Int)] w fun e w'=> ∃v,e=xm (xk v)/\IsG w' (i' 4 a b n) v/\Below w.heap.size w w':=by
 have U:=fa ha;have I:=fa aa;have HB:=fa (Mt w.heap.size w);clear ha aa;go_in;go_wp2_with fail;refine(kC (gV b) pb).mono ?_;rintro e w1 ⟨p1,rfl,h1,R⟩;have G1:=fa (h1 I);have U:=fa (U.later R);have I:=fa (I.later R);have HB:=fa (HB.trans (R.mono HB.size));clear h1 R;go_wp2_with fail;refine(mO (gV a) (one 7 (gV b)) pa p1).mono ?_;rintro e w2 ⟨p2,rfl,h2,J⟩;have G2:=fa (h2 U G1);have G1:=fa (G1.later J);have U:=fa (U.later J);have I:=fa (I.later J);have HB:=fa (HB.trans (J.mono HB.size));clear h2 J;go_wp2_with fail;refine(lq (two 12 (gV a) (one 7 (gV b))) p2).mono ?_;rintro e w3 ⟨p3,rfl,h3,hb3⟩;have G3:=fa (h3 G2);exact zm72
theorem D6(a b:ByteArray)(n:Nat)(pa pb:Option Addr)(w:World)(ha:IsG w (gV a) pa)(ai:IsG w (gV b) pb):Calls prog 235 #[xk pa,xk pb,xd xh (n:Int)] w fun e w'=> ∃v,e=xm (xk v)/\IsG w' (i' 5 a b n) v/\Below w.heap.size w w':=by
 have HA:=fa ha;have I:=fa ai;have HB:=fa (Mt w.heap.size w);clear ha ai;go_in;go_wp2_with fail;refine(oV (gV b) pb).mono ?_;rintro e w1 ⟨p1,rfl,h1,ad⟩;have G1:=fa (h1 I);have HA:=fa (HA.later ad);have I:=fa (I.later ad);have HB:=fa (HB.trans (ad.mono HB.size));clear h1 ad;go_wp2_with fail;refine(Ii (one 4 (gV b)) (gV a) p1 pa).mono ?_;rintro e w2 ⟨p2,rfl,h2,U⟩;have G2:=fa (h2 G1 HA);have G1:=fa (G1.later U);have HA:=fa (HA.later U);have I:=fa (I.later U);have HB:=fa (HB.trans (U.mono HB.size));clear h2 U;go_wp2_with fail;refine(oV (gV b) pb).mono ?_;rintro e w3 ⟨p3,rfl,h3,R⟩;have G3:=fa (h3 I);have G1:=fa (G1.later R);have G2:=fa (G2.later R);have HA:=fa (HA.later R);have I:=fa (I.later R);have HB:=fa (HB.trans (R.mono HB.size));clear h3 R;go_wp2_with fail;refine(lq (one 4 (gV b)) p3).mono ?_;rintro e w4 ⟨p4,rfl,h4,J⟩;have G4:=fa (h4 G3);have G1:=fa (G1.later J);have G2:=fa (G2.later J);have G3:=fa (G3.later J);have HA:=fa (HA.later J);have I:=fa (I.later J);have HB:=fa (HB.trans (J.mono HB.size));clear h4 J;go_wp2_with fail;refine(Lv (two 9 (one 4 (gV b)) (gV a)) (one 8 (one 4 (gV b))) p2 p4).mono ?_;rintro e w5 ⟨p5,rfl,h5,hb5⟩;have G5:=fa (h5 G2 G4);exact zm50
theorem II(a b:ByteArray)(n:Nat)(pa pb:Option Addr)(w:World)(ha:IsG w (gV a) pa)(aa:IsG w (gV b) pb):Calls prog 236 #[xk pa,xk pb,xd xh (n:Int)] w fun e w'=> ∃v,e=xm (xk v)/\IsG w' (i' 6 a b n) v/\Below w.heap.size w w':=by
 have U:=fa ha;have I:=fa aa;have HB:=fa (Mt w.heap.size w);clear ha aa;go_in;go_wp2_with fail;refine(rE (gV b) pb).mono ?_;rintro e w1 ⟨p1,rfl,h1,R⟩;have G1:=fa (h1 I);have U:=fa (U.later R);have I:=fa (I.later R);have HB:=fa (HB.trans (R.mono HB.size));clear h1 R;go_wp2_with fail;refine(mO (gV a) (one 5 (gV b)) pa p1).mono ?_;rintro e w2 ⟨p2,rfl,h2,J⟩;have G2:=fa (h2 U G1);have G1:=fa (G1.later J);have U:=fa (U.later J);have I:=fa (I.later J);have HB:=fa (HB.trans (J.mono HB.size));clear h2 J;go_wp2_with fail;refine(lq (two 12 (gV a) (one 5 (gV b))) p2).mono ?_;rintro e w3 ⟨p3,rfl,h3,hb3⟩;have G3:=fa (h3 G2);exact zm72
theorem F0(a b:ByteArray)(n:Nat)(pa pb:Option Addr)(w:World)(ha:IsG w (gV a) pa)(ai:IsG w (gV b) pb):Calls prog 237 #[xk pa,xk pb,xd xh (n:Int)] w fun e w'=> ∃v,e=xm (xk v)/\IsG w' (i' 7 a b n) v/\Below w.heap.size w w':=by
 have HA:=fa ha;have I:=fa ai;have HB:=fa (Mt w.heap.size w);clear ha ai;go_in;go_wp2_with fail;refine(oV (gV b) pb).mono ?_;rintro e w1 ⟨p1,rfl,h1,ad⟩;have G1:=fa (h1 I);have HA:=fa (HA.later ad);have I:=fa (I.later ad);have HB:=fa (HB.trans (ad.mono HB.size));clear h1 ad;go_wp2_with fail;refine(rE (gV b) pb).mono ?_;rintro e w2 ⟨p2,rfl,h2,U⟩;have G2:=fa (h2 I);have G1:=fa (G1.later U);have HA:=fa (HA.later U);have I:=fa (I.later U);have HB:=fa (HB.trans (U.mono HB.size));clear h2 U;go_wp2_with fail;refine(mO (one 5 (gV b)) (gV a) p2 pa).mono ?_;rintro e w3 ⟨p3,rfl,h3,R⟩;have G3:=fa (h3 G2 HA);have G1:=fa (G1.later R);have G2:=fa (G2.later R);have HA:=fa (HA.later R);have I:=fa (I.later R);have HB:=fa (HB.trans (R.mono HB.size));clear h3 R;go_wp2_with fail;refine(lq (two 12 (one 5 (gV b)) (gV a)) p3).mono ?_;rintro e w4 ⟨p4,rfl,h4,J⟩;have G4:=fa (h4 G3);have G1:=fa (G1.later J);have G2:=fa (G2.later J);have G3:=fa (G3.later J);have HA:=fa (HA.later J);have I:=fa (I.later J);have HB:=fa (HB.trans (J.mono HB.size));clear h4 J;go_wp2_with fail;refine(xy (one 4 (gV b)) (one 8 (two 12 (one 5 (gV b)) (gV a))) p1 p4).mono ?_;rintro e w5 ⟨p5,rfl,h5,hb5⟩;have G5:=fa (h5 G1 G4);exact zm50
theorem J9(a b:ByteArray)(n:Nat)(pa pb:Option Addr)(w:World)(ha:IsG w (gV a) pa)(aa:IsG w (gV b) pb):Calls prog 238 #[xk pa,xk pb,xd xh (n:Int)] w fun e w'=> ∃v,e=xm (xk v)/\IsG w' (i' 8 a b n) v/\Below w.heap.size w w':=by
 have U:=fa ha;have I:=fa aa;have HB:=fa (Mt w.heap.size w);clear ha aa;go_in;go_wp2_with fail;refine(kC (gV a) pa).mono ?_;rintro e w1 ⟨p1,rfl,h1,R⟩;have G1:=fa (h1 U);have U:=fa (U.later R);have I:=fa (I.later R);have HB:=fa (HB.trans (R.mono HB.size));clear h1 R;go_wp2_with fail;refine(kC (gV b) pb).mono ?_;rintro e w2 ⟨p2,rfl,h2,J⟩;have G2:=fa (h2 I);have G1:=fa (G1.later J);have U:=fa (U.later J);have I:=fa (I.later J);have HB:=fa (HB.trans (J.mono HB.size));clear h2 J;go_wp2_with fail;refine(mO (one 7 (gV a)) (one 7 (gV b)) p1 p2).mono ?_;rintro e w3 ⟨p3,rfl,h3,hb3⟩;have G3:=fa (h3 G1 G2);exact zm72
theorem IG(a b:ByteArray)(n:Nat)(pa pb:Option Addr)(w:World)(ha:IsG w (gV a) pa)(ae:IsG w (gV b) pb):Calls prog 239 #[xk pa,xk pb,xd xh (n:Int)] w fun e w'=> ∃v,e=xm (xk v)/\IsG w' (i' 9 a b n) v/\Below w.heap.size w w':=by
 have HA:=fa ha;have I:=fa ae;have HB:=fa (Mt w.heap.size w);clear ha ae;go_in;go_wp2_with fail;refine(kC (gV a) pa).mono ?_;rintro e w1 ⟨p1,rfl,h1,U⟩;have G1:=fa (h1 HA);have HA:=fa (HA.later U);have I:=fa (I.later U);have HB:=fa (HB.trans (U.mono HB.size));clear h1 U;go_wp2_with fail;refine(kC (gV b) pb).mono ?_;rintro e w2 ⟨p2,rfl,h2,R⟩;have G2:=fa (h2 I);have G1:=fa (G1.later R);have HA:=fa (HA.later R);have I:=fa (I.later R);have HB:=fa (HB.trans (R.mono HB.size));clear h2 R;go_wp2_with fail;refine(xy (one 7 (gV a)) (one 7 (gV b)) p1 p2).mono ?_;rintro e w3 ⟨p3,rfl,h3,J⟩;have G3:=fa (h3 G1 G2);have G1:=fa (G1.later J);have G2:=fa (G2.later J);have HA:=fa (HA.later J);have I:=fa (I.later J);have HB:=fa (HB.trans (J.mono HB.size));clear h3 J;go_wp2_with fail;refine(oV (two 10 (one 7 (gV a)) (one 7 (gV b))) p3).mono ?_;exact zm110
theorem IJ(a b:ByteArray)(n:Nat)(pa pb:Option Addr)(w:World)(ha:IsG w (gV a) pa)(ai:IsG w (gV b) pb):Calls prog 240 #[xk pa,xk pb,xd xh (n:Int)] w fun e w'=> ∃v,e=xm (xk v)/\IsG w' (i' 10 a b n) v/\Below w.heap.size w w':=by
 have HA:=fa ha;have I:=fa ai;have HB:=fa (Mt w.heap.size w);clear ha ai;go_in;go_wp2_with fail;refine(oV (gV b) pb).mono ?_;rintro e w1 ⟨p1,rfl,h1,ad⟩;have G1:=fa (h1 I);have HA:=fa (HA.later ad);have I:=fa (I.later ad);have HB:=fa (HB.trans (ad.mono HB.size));clear h1 ad;go_wp2_with fail;refine(lq (one 4 (gV b)) p1).mono ?_;rintro e w2 ⟨p2,rfl,h2,U⟩;have G2:=fa (h2 G1);have G1:=fa (G1.later U);have HA:=fa (HA.later U);have I:=fa (I.later U);have HB:=fa (HB.trans (U.mono HB.size));clear h2 U;go_wp2_with fail;refine(Cn (one 8 (one 4 (gV b))) p2).mono ?_;rintro e w3 ⟨p3,rfl,h3,R⟩;have G3:=fa (h3 G2);have G1:=fa (G1.later R);have G2:=fa (G2.later R);have HA:=fa (HA.later R);have I:=fa (I.later R);have HB:=fa (HB.trans (R.mono HB.size));clear h3 R;go_wp2_with fail;refine(mO (gV a) (one 6 (one 8 (one 4 (gV b)))) pa p3).mono ?_;rintro e w4 ⟨p4,rfl,h4,J⟩;have G4:=fa (h4 HA G3);have G1:=fa (G1.later J);have G2:=fa (G2.later J);have G3:=fa (G3.later J);have HA:=fa (HA.later J);have I:=fa (I.later J);have HB:=fa (HB.trans (J.mono HB.size));clear h4 J;go_wp2_with fail;refine(lq (two 12 (gV a) (one 6 (one 8 (one 4 (gV b))))) p4).mono ?_;rintro e w5 ⟨p5,rfl,h5,hb5⟩;have G5:=fa (h5 G4);exact zm50
theorem D5(a b:ByteArray)(n:Nat)(pa pb:Option Addr)(w:World)(ha:IsG w (gV a) pa)(ae:IsG w (gV b) pb):Calls prog 241 #[xk pa,xk pb,xd xh (n:Int)] w fun e w'=> ∃v,e=xm (xk v)/\IsG w' (i' 11 a b n) v/\Below w.heap.size w w':=by
 have HA:=fa ha;have I:=fa ae;have HB:=fa (Mt w.heap.size w);clear ha ae;go_in;go_wp2_with fail;refine(rE (gV b) pb).mono ?_;rintro e w1 ⟨p1,rfl,h1,U⟩;have G1:=fa (h1 I);have HA:=fa (HA.later U);have I:=fa (I.later U);have HB:=fa (HB.trans (U.mono HB.size));clear h1 U;go_wp2_with fail;refine(oV (one 5 (gV b)) p1).mono ?_;rintro e w2 ⟨p2,rfl,h2,R⟩;have G2:=fa (h2 G1);have G1:=fa (G1.later R);have HA:=fa (HA.later R);have I:=fa (I.later R);have HB:=fa (HB.trans (R.mono HB.size));clear h2 R;go_wp2_with fail;refine(mO (gV a) (one 4 (one 5 (gV b))) pa p2).mono ?_;rintro e w3 ⟨p3,rfl,h3,J⟩;have G3:=fa (h3 HA G2);have G1:=fa (G1.later J);have G2:=fa (G2.later J);have HA:=fa (HA.later J);have I:=fa (I.later J);have HB:=fa (HB.trans (J.mono HB.size));clear h3 J;go_wp2_with fail;refine(lq (two 12 (gV a) (one 4 (one 5 (gV b)))) p3).mono ?_;exact zm110
theorem tV(k:Nat)(hk:k<=11)(a b:ByteArray)(n:Nat)(I pb:Option Addr)(J:IsG w (gV a) I)(R:4<=k->IsG w (gV b) pb)(hn:n<=9):
  Calls prog (kB k) #[xk I,xk pb,xd xh (n:Int)] w fun e w'=> ∃v,e=xm (xk v)/\IsG w' (i' k a b n) v/\Below w.heap.size w w':=by
 rcases D3 (show k<12 from zo) with rfl|rfl|rfl|rfl|rfl|rfl|rfl|rfl|rfl|rfl|rfl|rfl
 ·exact J6 a b n I pb w J
 ·exact J7 a b n I pb w J
 ·exact J8 a b n I pb w J hn
 ·exact La a b n I pb w J hn
 ·exact Cu a b n I pb w J (R zp)
 ·exact D6 a b n I pb w J (R zp)
 ·exact II a b n I pb w J (R zp)
 ·exact F0 a b n I pb w J (R zp)
 ·exact J9 a b n I pb w J (R zp)
 ·exact IG a b n I pb w J (R zp)
 ·exact IJ a b n I pb w J (R zp)
 exact D5 a b n I pb w J (R zp)
end Go.Proofs.YtidakhhekofkoaaGreatDoor
