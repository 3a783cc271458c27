/- The row of Prints and its card, by the contract of the program's Print. -/
import Derived.Test.YtidakhhekofkoaaGreatDoorCards
import Derived.Test.YtidakhhekofkoaaGreatDoorTie
import Derived.ProofKit
import Derived.OpenShut
import Derived.Deep.DeepHandedRow
import Derived.Deep.Slices
import Derived.Deep.Strs
import Derived.Lib.LaidTab
import Derived.Test.YtidakhhekofkoaaGreatDoorJ15
set_option linter.unusedSimpArgs false
set_option maxRecDepth 100000
namespace Go.Proofs.YtidakhhekofkoaaGreatDoor
open Go.ChangeShapes Go.WideShapes Go.ChangeAt Go.RowKit Go.Deep
theorem own1:ownKnob Tryz.prog.godebug=none:=by kernel_rfl
theorem laidOut1:laidOutB Tryz.prog=true:=by kernel_rfl
theorem cellsOp:Tryz.prog.cellsOf 74=7:=by kernel_rfl
theorem cellsInt:Tryz.prog.cellsOf 3=1:=by kernel_rfl
theorem cellsStr:Tryz.prog.cellsOf 9=1:=by kernel_rfl
theorem cellsL:Tryz.prog.cellsOf 25=1:=by kernel_rfl
theorem cellsF:Tryz.prog.cellsOf 33=1:=by kernel_rfl
theorem cellsN:Tryz.prog.cellsOf 34=1:=by kernel_rfl
section
variable {H : Type} {enc : TypeId × Value → H}
theorem slice_val {w:World} {base:Nat} {sp:Nat→Bool} {held:Bool} {fuel:Nat} {t e:TypeId} {cs:List Value} {x:DataW H × List MemPlace} (ht:Tryz.prog.underlying t=some (.slice e)) (h:DataW.trod enc Tryz.prog w base sp held fuel t cs=some x):
  ∃a n k,cs=[.slice a n k]:=by
 rcases DataW.trod_slice ht h with ⟨h0,_⟩|⟨a,len,cap,_,_,_,_,h0,_⟩
 ·exact ⟨_,_,_,h0⟩
 ·exact ⟨_,_,_,h0⟩
set_option maxRecDepth 100000 in
theorem op_open {w:World} {base:Nat} {sp:Nat→Bool} {held:Bool} {fuel:Nat} {cs:List Value} {x:DataW H × List MemPlace} (h:DataW.trod enc Tryz.prog w base sp held fuel 74 cs=some x):
  ∃(kd oa:Int) (os ot:ByteArray) (l1:Option Addr) (l2 l3:Nat) (f1:Option Addr) (f2 f3:Nat) (m1:Option Addr) (m2 m3:Nat),cs=[.int .i64 kd,.int .i64 oa,.string os,.string ot,.slice l1 l2 l3,.slice f1 f2 f3,.slice m1 m2 m3]:=by
 obtain ⟨xs,n,_,_,hl,hlen,hf⟩:=DataW.trod_struct Tryz.underlying74 h
 rw [cellsOp] at hl
 match cs,hl with
 |[c0,c1,c2,c3,c4,c5,c6],_=>
 have h7:xs.length=7:=hlen
 match xs,h7 with
 |[y0,y1,y2,y3,y4,y5,y6],_=>
 have t0:=hf 0 _ rfl
 have t1:=hf 1 _ rfl
 have t2:=hf 2 _ rfl
 have t3:=hf 3 _ rfl
 have t4:=hf 4 _ rfl
 have t5:=hf 5 _ rfl
 have t6:=hf 6 _ rfl
 simp [cellsInt,cellsStr,cellsL,cellsF,cellsN] at t0 t1 t2 t3 t4 t5 t6
 obtain ⟨kd,e0,_⟩:=DataW.trod_int Tryz.underlying3 t0
 obtain ⟨oa,e1,_⟩:=DataW.trod_int Tryz.underlying3 t1
 obtain ⟨os,e2,_⟩:=DataW.trod_string Tryz.underlying9 t2
 obtain ⟨ot,e3,_⟩:=DataW.trod_string Tryz.underlying9 t3
 obtain ⟨l1,l2,l3,e4⟩:=slice_val Tryz.underlying25 t4
 obtain ⟨f1,f2,f3,e5⟩:=slice_val Tryz.underlying33 t5
 obtain ⟨m1,m2,m3,e6⟩:=slice_val Tryz.underlying34 t6
 cases e0;cases e1;cases e2;cases e3;cases e4;cases e5;cases e6
 exact ⟨kd,oa,os,ot,l1,l2,l3,f1,f2,f3,m1,m2,m3,rfl⟩
end
/-! What the row's list of variables gives. -/
theorem laid_mem {P:Program} {w:World}: ∀{l:List (String × DataW Unit)} {ps:List MemPlace},DataW.LaidVars P w l ps→ ∀x∈l,∃g t cs fuel p,P.globalNamed x.1=some g∧(P.globals[g]?).map (·.type)=some t∧w.var? P x.1=some cs∧DataW.trod (fun _=>()) P w 0 (fun _=>true) false fuel t cs.toList=some (x.2,p)
 |[],_,_,x,hx=>(List.not_mem_nil hx).elim
 |(n,d)::r,ps,⟨g,t,cs,fuel,p,q,h1,h2,h3,h4,h5,_⟩,x,hx=>by
  rcases List.mem_cons.1 hx with rfl|hx
  ·exact ⟨g,t,cs,fuel,p,h1,h2,h3,h4⟩
  ·exact laid_mem h5 x hx
theorem var_blk {P:Program} {w:World} {n:String} {g:Nat} {cs:Array Value} (hg:P.globalNamed n=some g) (h:w.var? P n=some cs): ∃t m,w.heap[g]? =some (.cells cs t m):=by
 unfold World.var? at h
 rw [hg] at h
 simp only [Option.bind_some] at h
 split at h
 ·rename_i c t m e;cases h;exact ⟨t,m,e⟩
 ·cases h
theorem arr_cells {P:Program} {w:World} {base:Nat} {sp:Nat→Bool} {held:Bool} {fuel:Nat} {t e:TypeId} {n k:Nat} {cs:List Value} {ds:List (DataW Unit)} {p:List MemPlace}
  (ht:P.underlying t=some (.array n e)) (hce:P.cellsOf e=k) (hct:P.cellsOf t=n * k)
  (h:DataW.trod (fun _=>()) P w base sp held fuel t cs=some (.agg ds,p)):
  cs.length=n * k∧ds.length=n∧ ∀i d,ds[i]? =some d→ ∃f q,DataW.trod (fun _=>()) P w base sp held f e ((cs.drop (i * k)).take k)=some (d,q):=by
 cases fuel with
 |zero=>simp [DataW.trod] at h
 |succ fuel=>
  simp only [DataW.trod,ht,hce,hct] at h
  split at h
  ·rename_i hl
   obtain ⟨xs,hm,hx⟩:=Option.map_eq_some_iff.1 h
   have hxs:xs.map (·.1)=ds:=by
    have:=congrArg Prod.fst hx
    simpa using this
   have hxl:xs.length=n:=by simpa using Lib.mapM_length hm
   refine ⟨by simpa using hl,by rw [←hxs];simpa using hxl,fun i d hd=> ?_⟩
   have hi:i<n:=by
    rcases Nat.lt_or_ge i n with h|h
    ·exact h
    ·rw [List.getElem?_eq_none (by rw [←hxs];simp;omega)] at hd;cases hd
   obtain ⟨b,hb,hf⟩:=Lib.mapM_at hm i i (by simp [hi])
   have h2:(xs.map (·.1))[i]? =some b.1:=by simp [hb]
   rw [hxs,hd] at h2
   cases h2
   exact ⟨_,b.2,hf⟩
  ·cases h
theorem chunks {α:Type} {k:Nat} (F:α→List Value) (hF: ∀x,(F x).length=k): ∀(l:List α) (cs:List Value),cs.length=l.length * k→(∀i x,l[i]? =some x→(cs.drop (i * k)).take k=F x)→cs=l.flatMap F
 |[],cs,hl,_=>by simpa using hl
 |x::r,cs,hl,h=>by
  have h0:=h 0 x rfl
  simp at h0
  have hr:=chunks F hF r (cs.drop k) (by simp at hl⊢;rw [hl,Nat.succ_mul];omega) (fun i y hy=>by
   have:=h (i+1) y (by simpa using hy)
   rw [List.drop_drop]
   rw [Nat.succ_mul,Nat.add_comm] at this
   exact this)
  rw [List.flatMap_cons,←hr,←h0,List.take_append_drop]
theorem strs_cells {w:World} {base:Nat} {sp:Nat→Bool} {held:Bool} {fuel:Nat} {t:TypeId} {n:Nat} {cs:List Value} {l:List (List UInt8)} {p:List MemPlace}
  (ht:Tryz.prog.underlying t=some (.array n 9)) (hct:Tryz.prog.cellsOf t=n)
  (h:DataW.trod (fun _=>()) Tryz.prog w base sp held fuel t cs=some (.agg (l.map fun x=> .lit (.string x)),p)):cs=l.flatMap fun x=>[.string ⟨x.toArray⟩]:=by
 obtain ⟨h1,h2,h3⟩:=arr_cells ht cellsStr (by rw [hct,Nat.mul_one]) h
 refine chunks (k:=1) _ (fun _=>rfl) l cs (by rw [h1];simp at h2;rw [h2]) (fun i x hx=> ?_)
 obtain ⟨f,q,hf⟩:=h3 i (.lit (.string x)) (by simp [hx])
 obtain ⟨s,e1,e2,_⟩:=DataW.trod_string Tryz.underlying9 hf
 rw [e1]
 have:x=s.data.toList:=by simpa using congrArg Prod.fst e2
 rw [this]
theorem pairs_cells {w:World} {base:Nat} {sp:Nat→Bool} {held:Bool} {fuel:Nat} {t:TypeId} {n:Nat} {cs:List Value} {l:List (List UInt8 × Int)} {p:List MemPlace}
  (ht:Tryz.prog.underlying t=some (.array n 309)) (hct:Tryz.prog.cellsOf t=n * 2) (hcs:Tryz.prog.cellsOf 309=2)
  (h:DataW.trod (fun _=>()) Tryz.prog w base sp held fuel t cs=some (.agg (l.map fun x=> .agg [.lit (.string x.1),.lit (.int .i64 x.2)]),p)):cs=l.flatMap fun x=>[.string ⟨x.1.toArray⟩,.int .i64 x.2]:=by
 obtain ⟨h1,h2,h3⟩:=arr_cells ht hcs hct h
 refine chunks (k:=2) _ (fun _=>rfl) l cs (by rw [h1];simp at h2;rw [h2]) (fun i x hx=> ?_)
 obtain ⟨f,q,hf⟩:=h3 i (.agg [.lit (.string x.1),.lit (.int .i64 x.2)]) (by simp [hx])
 obtain ⟨y0,y1,m,hy,hl2,t0,t1⟩:=trod_struct2 Tryz.underlying309 hf
 rw [hcs] at hl2
 generalize (cs.drop (i * 2)).take 2=c at *
 match c,hl2 with
 |[c0,c1],_=>
 simp [cellsStr,show Tryz.prog.cellsOf 199=1 by kernel_rfl] at t0 t1
 obtain ⟨s,e0,e2,_⟩:=DataW.trod_string Tryz.underlying9 t0
 obtain ⟨z,e1,e3,_⟩:=DataW.trod_int Tryz.underlying199 t1
 cases e0;cases e1
 subst e2 e3
 have h5:=congrArg Prod.fst hy
 simp at h5
 rw [h5.1,h5.2]
def wordsL:List (List UInt8 × Int):=[([97,99,116,115],4),([114,117,108,101],5),([116,114,117,101],6),([102,97,108,115,101],7),([101,110,100],8)]
def rsignsL:List (List UInt8 × Int):=[([88],9),([78],10),([70],11),([71],12),([85],13),([45,62],14),([124],15),([38],16),([33],17),([40],18),([41],19),([44],20),([59],21)]
def fsignsL:List (List UInt8):=[[],[116,114,117,101],[102,97,108,115,101],[101,110,100],[33],[88],[78],[70],[71],[85],[38],[124],[45,62]]
end Go.Proofs.YtidakhhekofkoaaGreatDoor
