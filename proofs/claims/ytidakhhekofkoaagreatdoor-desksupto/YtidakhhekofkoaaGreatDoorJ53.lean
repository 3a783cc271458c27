/- The row of Desks, lifted, and its card, in the second form: for every script (of bulk 1048576 at most) each answer of desks is the document's, in turns over several, with lists that the caller writes into. -/
import Derived.Test.YtidakhhekofkoaaGreatDoorJ52
import Derived.Test.YtidakhhekofkoaaGreatDoorJ48
set_option linter.unusedSimpArgs false
set_option linter.unusedVariables false
set_option maxRecDepth 100000
namespace Go.Proofs.YtidakhhekofkoaaGreatDoor
open Go.ChangeShapes Go.WideShapes Go.ChangeAt Go.RowKit Go.Deep
theorem desks_gv {W:World} (h:laidMetH Tryz.prog Rows.desksUptoRow.laid W):GVF W:=
 gv_of (laid:=Rows.desksUptoRow.laid) h Rows.desksUptoRow.laid[3] Rows.desksUptoRow.laid[4] Rows.desksUptoRow.laid[5] (List.getElem_mem _) (List.getElem_mem _) (List.getElem_mem _) (by kernel_rfl) (by kernel_rfl) (by kernel_rfl) rfl rfl rfl
theorem desks_tab {W:World} (h:laidMetH Tryz.prog Rows.desksUptoRow.laid W):Lib.TabIs Tryz.prog W "internal/strconv.uint64pow10" .u64 Lib.pow10Tab:=
 tab_of (laid:=Rows.desksUptoRow.laid) h Rows.desksUptoRow.laid[2] (List.getElem_mem _) rfl rfl
theorem bulkO {H:Type} (d:DataW H):1≤Rows.uptoBulk d:=by
 cases d with
 |lit l=>cases l<;>simp [Rows.uptoBulk]
 |nil=>simp [Rows.uptoBulk]
 |ptr d=>simp [Rows.uptoBulk]
 |slice elems spare=>simp [Rows.uptoBulk]
 |agg parts=>simp [Rows.uptoBulk]
 |iface t d=>simp [Rows.uptoBulk]
 |map entries=>simp [Rows.uptoBulk]
 |held h=>simp [Rows.uptoBulk]
theorem bulkL {H:Type} (l:List (DataW H)):l.length≤Rows.uptoBulkAll l:=by
 induction l with
 |nil=>simp [Rows.uptoBulkAll]
 |cons x r ih=>have:=bulkO x;simp only [Rows.uptoBulkAll,List.length_cons];omega
theorem bulkM {H:Type} {l:List (DataW H)} {d:DataW H} (h:d∈l):Rows.uptoBulk d≤Rows.uptoBulkAll l:=by
 induction l with
 |nil=>exact (List.not_mem_nil h).elim
 |cons x r ih=>
  simp only [Rows.uptoBulkAll]
  rcases List.mem_cons.1 h with rfl|h
  ·omega
  ·have:=ih h;omega
section
variable {H : Type} {enc : TypeId × Value → H}
theorem op_open3 {w:World} {fuel:Nat} {cs:List Value} {x:DataW H × List MemPlace} (h:DataW.trod enc Tryz.prog w 0 (fun _=>true) true fuel 74 cs=some x) (hw:Rows.uptoBulk x.1≤1048576):
  ∃(kd oa:Int) (os ot:ByteArray) (l1:Option Addr) (l2 l3:Nat) (f1:Option Addr) (f2 f3:Nat) (m1:Option Addr) (m2 m3:Nat),((-9223372036854775808≤oa∧oa≤9223372036854775807)∧os.size≤140737488355328)∧cs=[.int .i64 kd,.int .i64 oa,.string os,.string ot,.slice l1 l2 l3,.slice f1 f2 f3,.slice m1 m2 m3]:=by
 obtain ⟨xs,n,_,hx,hl,hlen,hf⟩:=DataW.trod_struct Tryz.underlying74 h
 rw [cellsOp] at hl
 match cs,hl with
 |[c0,c1,c2,c3,c4,c5,c6],_=>
 have h7:xs.length=7:=hlen
 match xs,h7 with
 |[y0,y1,y2,y3,y4,y5,y6],_=>
 have t0:=hf 0 _ rfl
 have t1:=hf 1 _ rfl
 have t2:=hf 2 _ rfl
 have t3:=hf 3 _ rfl
 have t4:=hf 4 _ rfl
 have t5:=hf 5 _ rfl
 have t6:=hf 6 _ rfl
 simp [cellsInt,cellsStr,cellsL,cellsF,cellsN] at t0 t1 t2 t3 t4 t5 t6
 obtain ⟨kd,e0,_⟩:=DataW.trod_int Tryz.underlying3 t0
 obtain ⟨oa,e1,_,hwf⟩:=DataW.trod_int Tryz.underlying3 t1
 obtain ⟨os,e2,ex2,_⟩:=DataW.trod_string Tryz.underlying9 t2
 obtain ⟨ot,e3,_⟩:=DataW.trod_string Tryz.underlying9 t3
 obtain ⟨l1,l2,l3,e4⟩:=slice_val Tryz.underlying25 t4
 obtain ⟨f1,f2,f3,e5⟩:=slice_val Tryz.underlying33 t5
 obtain ⟨m1,m2,m3,e6⟩:=slice_val Tryz.underlying34 t6
 have hsz:os.size≤1048576:=by
  rw [hx] at hw
  have h1:Rows.uptoBulk y2.1≤Rows.uptoBulkAll [y0.1,y1.1,y2.1,y3.1,y4.1,y5.1,y6.1]:=bulkM (by simp)
  have h2:Rows.uptoBulkAll [y0.1,y1.1,y2.1,y3.1,y4.1,y5.1,y6.1]≤1048576:=by
   have:Rows.uptoBulk (DataW.agg [y0.1,y1.1,y2.1,y3.1,y4.1,y5.1,y6.1])≤1048576:=hw
   simp only [Rows.uptoBulk] at this
   omega
  have h4:Rows.uptoBulk y2.1=os.data.toList.length+1:=by rw [ex2];simp only [Rows.uptoBulk]
  have h3:os.data.toList.length=os.size:=by rw [Array.length_toList];rfl
  omega
 have hr: -9223372036854775808≤oa∧oa≤9223372036854775807:=by
  rw [Lit.wf_int_iff] at hwf
  have h3:IntKind.i64.min= -9223372036854775808:=by decide
  have h4:IntKind.i64.max=9223372036854775807:=by decide
  rw [h3,h4] at hwf
  exact hwf
 cases e0;cases e1;cases e2;cases e3;cases e4;cases e5;cases e6
 exact ⟨kd,oa,os,ot,l1,l2,l3,f1,f2,f3,m1,m2,m3,⟨hr,by omega⟩,rfl⟩
theorem script_open3 {w:World} {fuel:Nat} {v:Value} {x:DataW H × List MemPlace} (h:DataW.trod enc Tryz.prog w 0 (fun _=>true) true fuel 22 [v]=some x) (hlt: ∀p∈x.2,p.block<w.heap.size) (hw:Rows.uptoBulk x.1≤1048576):
  ∃o n k,v= .slice o n k∧Sc3 w o n∧n≤1048576:=by
 rcases open_slice Tryz.underlying22 h with ⟨hc,hx⟩|⟨a,len,cap,m,n,D,Pl,hc,_,hl,hm,hmm,hx,hel⟩
 ·cases hc
  exact ⟨none,0,0,rfl,fun i hi=>absurd hi (Nat.not_lt_zero i),by omega⟩
 ·cases hc
  simp only [if_true] at hmm
  subst hmm
  rw [hx] at hw
  simp only [Rows.uptoBulk] at hw
  refine ⟨some a,len,m,rfl,fun i hi=> ?_, ?_⟩
  ·obtain ⟨cs',hc',ht'⟩:=hel i (by omega)
   rw [cellsOp] at hc'
   obtain ⟨kd,oa,os,ot,l1,l2,l3,f1,f2,f3,m1,m2,m3,hL,rfl⟩:=op_open3 ht' (by
    refine Nat.le_trans (bulkM (List.mem_map.2 ⟨i,List.mem_range.2 hi,rfl⟩)) (?_:_≤1048576)
    omega)
   obtain ⟨_,_,hcell⟩:=World.cells?_some hc'
   obtain ⟨b,off,spot⟩:=a
   have hspot:spot=none:=by
    obtain ⟨cs0,hc0,ht0⟩:=hel 0 (by omega)
    rw [cellsOp] at hc0
    obtain ⟨_,_,_,_,_,_,_,_,_,_,_,_,_,rfl⟩:=op_open ht0
    obtain ⟨_,_,hcell0⟩:=World.cells?_some hc0
    simpa [Addr.add] using World.cell?_spot (hcell0 0 (by omega))
   subst hspot
   simp only [add_plain] at hcell
   have hb:b<w.heap.size:=by
    refine hlt (.cell b off) ?_
    rw [hx]
    refine List.mem_append_left _ ?_
    simp only [MemPlace.row,List.mem_map,List.mem_range]
    exact ⟨0,by rw [cellsOp];omega,rfl⟩
   refine ⟨b,off,rfl,hb,kd,oa,os,ot,l1,l2,l3,f1,f2,f3,m1,m2,m3,hL, ?_, ?_, ?_, ?_, ?_, ?_, ?_⟩
   ·exact hcell 0 (by omega)
   ·exact hcell 1 (by omega)
   ·exact hcell 2 (by omega)
   ·exact hcell 3 (by omega)
   ·exact hcell 4 (by omega)
   ·exact hcell 5 (by omega)
   ·exact hcell 6 (by omega)
  ·have h1:=bulkL ((List.range len).map D)
   rw [List.length_map,List.length_range] at h1
   omega
end
theorem desks_contract (H:Type) (enc:TypeId × Value→H) (W:World) (base:Nat) (args:Array Value) (ds gs:List (DataW H)) (before:List MemPlace)
  (hval: ∀(j:Nat) t v,Tryz.f10.params[j]? =some t→args[j]? =some v→Value.okWide Tryz.prog W .any base t v)
  (hW:DataW.Whole enc Tryz.prog Tryz.f10.params.toList Rows.desksSpec.vars false W args.toList ds gs before) (hL:laidMetH Tryz.prog Rows.desksUptoRow.laid W) (hk:Rows.uptoSmall H (ds++gs)=true):
  Calls Tryz.prog 10 args W fun e W'=> ∃v,e= .returned v∧Rows.desksSpec.post enc Tryz.prog Tryz.f10 false true false false W args v W':=by
 have hW':=hW
 obtain ⟨p,q,hA0,hV,rfl,hfz,hnd⟩:=hW
 have hA:DataW.TrodAll enc Tryz.prog W 0 (fun _=>true) true Tryz.f10.params.toList args.toList ds p:=hA0
 rw [Tryz.params10] at hA hval
 obtain ⟨v0,d0,rfl,rfl,h0⟩:=trodAll_one hA
 obtain ⟨rfl,rfl⟩:=trodVars_none hV
 have h0k:=h0
 obtain ⟨fuel,hf⟩:=h0
 clear hA0
 simp only [List.append_nil] at hW'
 have hlt: ∀x∈p,x.block<W.heap.size:=fun x hx=>by simpa using hW'.lt x hx
 obtain ⟨a0,len,cap,rfl⟩:=okWide_slice Tryz.underlying22 (hval 0 22 v0 rfl rfl)
 have hk2:Rows.uptoBulkAll ([d0]++([]:List (DataW H)))≤1048576:=of_decide_eq_true hk
 simp only [List.append_nil,Rows.uptoBulkAll] at hk2
 have hw:Rows.uptoBulk d0≤1048576:=by omega
 obtain ⟨o,n,k,hv,hS,hn⟩:=script_open3 (v:= .slice a0 len cap) (x:=(d0,p)) hf hlt hw
 cases hv
 refine (Desks_any W _ _ _ hS (desks_gv hL).g (desks_tab hL) hn).mono fun e W' ⟨he,hb⟩=> ?_
 subst he
 exact ⟨_,rfl,⟨_,_,_,[],_,[],hW',trodAll_mk1 (shut_bool Tryz.underlying4 true),trodAll_mk1 (Below.trod laidOut1 (by kernel_rfl) (of_decide_eq_true (by kernel_rfl)) h0k hb hlt),rfl,hb.frame _,fun h=>by cases h⟩⟩
theorem desks_witness (os:Os): ∃w0:World,w0.os=os∧(w0.forCall (fun _ _=>0) ⟨#[],#[.slice none 0 0],[]⟩).variablesB Tryz.prog=true∧
  (((w0.forCall (fun _ _=>0) ⟨#[],#[.slice none 0 0],[]⟩).heap.toList.drop Tryz.prog.globals.size).take ((begin Tryz.prog (fun _ _=>0) default).world.heap.size - Tryz.prog.globals.size)=(begin Tryz.prog (fun _ _=>0) default).world.heap.toList.drop Tryz.prog.globals.size)∧
  Input.okWideB Tryz.prog (w0.forCall (fun _ _=>0) ⟨#[],#[.slice none 0 0],[]⟩) 10 ⟨#[],#[.slice none 0 0],[]⟩=true∧
  laidMet Tryz.prog Rows.desksUptoRow.laid (w0.forCall (fun _ _=>0) ⟨#[],#[.slice none 0 0],[]⟩).memory∧
  (∀(H:Type) (enc:TypeId × Value→H),∃places,DataW.whole enc Tryz.prog (w0.forCall (fun _ _=>0) ⟨#[],#[.slice none 0 0],[]⟩).memory Tryz.f10.params.toList Rows.desksSpec.vars false #[Value.slice none 0 0].toList 8=some ([.nil],[],places))∧
  (∀(H:Type) (enc:TypeId × Value→H),(Rows.OpenSpec.upto Rows.desksSpec).bare.sizedB enc Tryz.prog Tryz.f10 false (w0.forCall (fun _ _=>0) ⟨#[],#[.slice none 0 0],[]⟩).memory #[.slice none 0 0] 8=true):=
 ⟨{World.holding Tryz.prog os ⟨#[],#[],[]⟩ with heap:=Rows.desksUptoRow.laid.foldl (layH Tryz.prog) (World.holding Tryz.prog os ⟨#[],#[],[]⟩).heap},
  rfl,by as_aux_lemma=>kernel_rfl,by as_aux_lemma=>kernel_rfl,by as_aux_lemma=>kernel_rfl,laidMet_lin 8 (by as_aux_lemma=>kernel_rfl) (by as_aux_lemma=>kernel_rfl),fun H enc=>⟨[],by as_aux_lemma=>kernel_rfl⟩,fun H enc=>by as_aux_lemma=>kernel_rfl⟩
theorem desks_lifted (os:Os) (started:os.Started) (H:Type) (enc:TypeId × Value→H) (F:Stop.Interp):
  ReturnsInHanded {} Tryz.checked os 10 .any ((Rows.OpenSpec.upto Rows.desksSpec).preRow enc Tryz.prog Tryz.f10 Rows.desksUptoRow.domain false Rows.desksUptoRow.laid) (((Rows.OpenSpec.upto Rows.desksSpec).at F).post enc Tryz.prog Tryz.f10 false true false false):=by
 obtain ⟨w0,hos,hv,hr,hok,hlaid,hx,hsz⟩:=desks_witness os
 obtain ⟨places,hx⟩:=hx H enc
 refine returnsInHanded_of_row (C:=Tryz.checked) (s:=Rows.OpenSpec.upto Rows.desksSpec) own1 started (by kernel_rfl) Tryz.func10
  (witness_row_at (enc:=enc) (C:=Tryz.checked) false w0 #[.slice none 0 0] hos hv hr hok
   (OpenSpec.preRow_of_cond 8 hx (by kernel_rfl) (fun k hk=>by cases hk;kernel_rfl) (hsz H enc) hlaid)) ?_
 intro W base args ds gs before hval hW _ hcond hZ hL _ _
 exact desks_contract H enc W base args ds gs before hval hW hL (hcond _ rfl)
set_option maxHeartbeats 20000000 in
theorem desks_closed:joinedFacts Tryz.pinned.checked.prog 10 Tryz.f10 (Rows.OpenSpec.upto Rows.desksSpec).bare Rows.desksUptoRow=true:=by
 unfold joinedFacts
 simp only [Bool.and_eq_true]
 repeat' (refine And.intro ?_ ?_)
 all_goals (as_aux_lemma=>kernel_rfl)
theorem desks_said:Rows.DesksUptoSaid:=
 OpenClaim.holds_of_cond 10 Tryz.f10 rfl rfl rfl rfl rfl rfl rfl ⟨rfl,rfl,rfl,rfl,rfl⟩ rfl rfl rfl rfl rfl (by as_aux_lemma=>kernel_rfl) Tryz.func10 desks_closed
  (of_decide_eq_true (by as_aux_lemma=>kernel_rfl)) (by unfold Func.isWrapper;first|(rw [if_pos (by decide+kernel)];kernel_rfl)|(rw [if_neg (by decide+kernel)];exact ⟨rfl,rfl⟩))
  (fun os started H enc _ F=>by rw [OpenClaim.pre_eq_preRow];exact desks_lifted os started H enc F)
theorem desks_plain (f:FuncId) (fn:Func) (hf:Tryz.pinned.checked.prog.funcNamed Rows.desksUptoRow.func=some f) (hfn:Tryz.pinned.checked.prog.funcs[f]? =some fn):
  false=Tryz.pinned.checked.prog.looks []∧ ∀(j:Nat) t,fn.params[j]? =some t→Tryz.pinned.checked.prog.wantsStandIn t=false:=by
 obtain rfl:f=10:=Option.some.inj ((show Tryz.prog.funcNamed Rows.desksUptoRow.func=some 10 by kernel_rfl).symm.trans hf)|>.symm
 obtain rfl:fn=Tryz.f10:=(Option.some.inj (Tryz.func10.symm.trans hfn)).symm
 refine ⟨by kernel_rfl,fun j t ht=> ?_⟩
 rw [Tryz.params10] at ht
 obtain rfl:t=22:=by simpa using Array.mem_of_getElem? ht
 exact (show Tryz.prog.wantsStandIn 22=false by kernel_rfl)
theorem desksUpto : Rows.DesksUptoCardSaid :=
 Claim7.holds_tied_plain_at .later [] _ _ _ _ desks_said (fun _ h=>by cases h) (by kernel_rfl) (fun _ h=>by cases h) desksUpto_row_tie rfl ⟨rfl,rfl⟩ (by kernel_rfl) rfl desks_plain (by kernel_rfl)
end Go.Proofs.YtidakhhekofkoaaGreatDoor
