/- The reference's Parse. -/
import Derived.Test.YtidakhhekofkoaaGreatDoorJ10
import Derived.Deep.RegionHeld
import Derived.Test.YtidakhhekofkoaaGreatDoorJ04
set_option linter.unusedSimpArgs false
namespace Go.Proofs.YtidakhhekofkoaaGreatDoor
open Go.RowKit Go.Deep
def PLeft (l:List Tk) (w w':World) (e:Ending):Prop:=
 Below w.heap.size w w'∧ ∃o1 n1 k1 o2 n2 k2,(match modelRead l with
  | .ok (al,rs)=>e= .returned (.tuple #[.agg #[.slice o1 n1 k1,.slice o2 n2 k2],.int .i64 (-1)])∧w'.ownsRow 0 232 3 (.slice o1 n1 k1) al.length (tkCellsR al)∧(∃cells,w'.ownsRow 0 235 7 (.slice o2 n2 k2) rs.length cells∧RulesAre w' rs cells)
  | .error q=>e= .returned (.tuple #[.agg #[.slice o1 n1 k1,.slice o2 n2 k2],.int .i64 q]))
theorem bcell3 {W w1:World} (hb:Below W.heap.size W w1): ∀b o,b<W.heap.size→w1.cell? ⟨b,o,none⟩=W.cell? ⟨b,o,none⟩:=fun b o h=>hb.cell (p:=⟨b,o,none⟩) h
theorem bfroz3 {W w1:World} (hb:Below W.heap.size W w1): ∀b o,b<W.heap.size→w1.frozen? ⟨b,o,none⟩=W.frozen? ⟨b,o,none⟩:=fun b o h=>hb.frozen (p:=⟨b,o,none⟩) h
theorem below_grown {w a b:World} {pb:Nat} (h:Below w.heap.size w a) (hg:a.grownBy b (some pb)) (hp:w.heap.size≤pb):Below w.heap.size w b:=h.grown hg h.size (fun k hk=>by cases hk;exact hp)
set_option maxHeartbeats 2000000 in
set_option maxRecDepth 100000 in
theorem Parse_any (s:ByteArray) (w:World) (hs:s.size≤400):
  Calls Tryz.prog 173 #[.string s] w fun e w'=>PLeft (lexR s (s.size+1) 0) w w' e:=by
 have hends:=lexR_ends s (s.size+1) 0 (Nat.zero_le _) (by omega)
 have hok:=lexR_ok s (s.size+1) 0
 have hlen:=lexR_len s (s.size+1) 0 (Nat.zero_le _)
 have HTK:=hide (fun w=>Tokens_any s w hs)
 generalize lexR s (s.size+1) 0=L at *
 have HE:=hide hends
 have HOK:=hide hok
 clear hends hok
 have fl2:=field2
 go_enter Tryz.func173,Tryz.ntmps173
 go_wp2_with (go_at_call 199;refine ((unhide HTK) _).mono ?_)
 rintro e w1 ⟨v1,rfl,hown1,hb1⟩
 obtain ⟨hl1,h1|⟨g,cap,cur,hv1,hgb,hrow,hle,hcap,hcs,htake⟩⟩:=hown1
 ·exact absurd h1.2 (by intro e;have:=(unhide HE).ne;rw [List.length_eq_zero_iff] at e;exact this e)
 subst hv1
 have HPS:Hid (PS (w1.alloc (.cells #[.slice (some ⟨g,0,none⟩) L.length cap,.int .i64 ((0:Nat):Int),.bool false] 325)) w1.heap.size g cap L 0 false):=
  ⟨blk_alloc _ _,⟨cur,(Below.heap_alloc _ _ _ (lt_of_blk hrow)).trans hrow,htake⟩,hle,hcap,by omega,by have:=(unhide HE).ne;exact List.length_pos_iff.2 this,unhide HE,unhide HOK⟩
 have hz1:w.heap.size<w1.heap.size:=by have:=hb1.size;simp at this;omega
 have HR1:=hide (show w1.heap[w.heap.size]? =some (.cells #[.slice none 0 0,.slice none 0 0] 228 (0,0)) from (hb1.block _ (by simp)).trans (blk_alloc _ _))
 have HB1:=hide (((Below.refl w.heap.size w).alloc (Nat.le_refl _) (.cells #[.slice none 0 0,.slice none 0 0] 228)).trans (hb1.mono (by simp)))
 clear hb1 hrow htake hcs hle hcap hl1 hgb
 go_wp2_with (go_at_call 200;refine (model_any _ _ _ _ _ (unhide HPS)).mono ?_)
 rintro e w2 ⟨hg2,o1,n1,k1,o2,n2,k2,rfl,hx2⟩
 have HX2:=hide hx2
 have HB2:=hide (below_grown ((unhide HB1).alloc (by omega) _) hg2 (by omega))
 have HR2:=hide ((hg2.block w.heap.size (by simp;omega) (by simp;omega)).trans ((Below.heap_alloc _ _ _ hz1).trans (unhide HR1)))
 have hz2:w1.heap.size<w2.heap.size:=by have:=hg2.size;simp at this;omega
 clear hg2 hx2
 rw [List.drop_zero] at HX2
 cases hmr:modelRead L with
 |error q=>
  have hx:=unhide HX2
  rw [hmr] at hx
  obtain ⟨j,hq,hp⟩:=hx
  obtain ⟨y,r1,hy⟩:=drop_ne hp.lt
  have HP:=hide hp
  have HY:=hide hy
  have hyq:y.p=q:=by rw [hy] at hq;exact hq
  subst hyq
  have HMR:=hide hmr
  obtain ⟨c0,c1,c2⟩:=hp.cells
  clear hmr hp hy hq HX2
  have rc:=fun o=>cell_of_blk (unhide HR2) o
  have rf:=fun o=>frozen_of_blk (unhide HR2) o
  have hpb:=lt_of_blk (unhide HP).blk
  go_wp2_with fail
  clear c0 c1 c2
  refine wp_region_held_drew (S:=fun w'=>w'.cell? ⟨w2.heap.size,0,none⟩=some (.slice o1 n1 k1)∧w'.cell? ⟨w2.heap.size,1,none⟩=some (.slice o2 n2 k2)) (by kernel_rfl) ?_ (fun hHeld=> ?_)
  ·constructor<;>simp
  refine wpAnyH_take (i:=0) (v:= .agg #[.slice o1 n1 k1,.slice o2 n2 k2]) rfl (by kernel_rfl) (by kernel_rfl) (by kernel_rfl) (fun _ _ _ h=>h) (Or.inl ⟨by kernel_rfl,fun w hw=>by obtain ⟨s0,s1⟩:=hw;go_simp⟩) hHeld ?_
  try simp only [Act.put,List.setIfInBounds_toArray,List.set_cons_zero,List.set_cons_succ,List.getElem_toArray,List.getElem_cons_succ,List.getElem_cons_zero]
  refine wpAnyH_take (i:=1) (v:= .pointer (some ⟨w1.heap.size,0,none⟩)) rfl (by kernel_rfl) (by kernel_rfl) (by kernel_rfl) (fun _ _ _ h=>h) (Or.inl ⟨by kernel_rfl,fun w hw=>by obtain ⟨s0,s1⟩:=hw;go_simp⟩) hHeld ?_
  try simp only [Act.put,List.setIfInBounds_toArray,List.set_cons_zero,List.set_cons_succ,List.getElem_toArray,List.getElem_cons_succ,List.getElem_cons_zero]
  refine wpAnyH_ready (rs:=[2]) (by kernel_rfl) (by simp) ?_
  refine AllReadyH.cons rfl (fun K hK=> ?_) AllReadyH.nil
  go_simp
  go_wp2_with (go_at_call 201;refine (now_any _ _ _ _ _ _ _ _ _ ((unhide HP).later (by exact ((Below.refl _ _).alloc (Nat.le_refl _) _).drew)) (unhide HY)).mono ?_;rintro e w3 ⟨rfl,hb3⟩;simp only [tkR])
  have hS3:w3.cell? ⟨w2.heap.size,0,none⟩=some (.slice o1 n1 k1)∧w3.cell? ⟨w2.heap.size,1,none⟩=some (.slice o2 n2 k2):=by
   constructor
   ·rw [bcell3 hb3 _ _ (by simp)];simp
   ·rw [bcell3 hb3 _ _ (by simp)];simp
  refine hK.out _ _ hS3 (fun hS3'=> ?_)
  clear hK K
  have HR3:=hide ((hb3.block w.heap.size (by simp;omega)).trans ((Below.heap_alloc _ _ _ (by omega)).trans (unhide HR2)))
  have hz3:w2.heap.size<w3.heap.size:=by have:=hb3.size;simp at this;omega
  have HB3:=hide (((unhide HB2).alloc (by omega) _).drew.trans (hb3.mono (by simp;omega)))
  clear rc rf hb3
  have rc:=fun o=>cell_of_blk (unhide HR3) o
  have rf:=fun o=>frozen_of_blk (unhide HR3) o
  refine wpAnyH_take (i:=3) (v:= .int .i64 (y.p:Int)) rfl (by kernel_rfl) (by kernel_rfl) (by kernel_rfl) (fun _ _ _ h=>h) (Or.inl ⟨by kernel_rfl,fun w hw=>by obtain ⟨s0,s1⟩:=hw;go_simp⟩) hS3' ?_
  try simp only [Act.put,List.setIfInBounds_toArray,List.set_cons_zero,List.set_cons_succ,List.getElem_toArray,List.getElem_cons_succ,List.getElem_cons_zero]
  refine wpAnyH_ready (rs:=[4]) (by kernel_rfl) (by simp) ?_
  refine AllReadyH.cons rfl (fun K hK=> ?_) AllReadyH.nil
  go_simp
  have hS4:((w3.setCell ⟨w.heap.size,0,none⟩ (.slice o1 n1 k1)).setCell ⟨w.heap.size,1,none⟩ (.slice o2 n2 k2)).cell? ⟨w2.heap.size,0,none⟩=some (.slice o1 n1 k1)∧((w3.setCell ⟨w.heap.size,0,none⟩ (.slice o1 n1 k1)).setCell ⟨w.heap.size,1,none⟩ (.slice o2 n2 k2)).cell? ⟨w2.heap.size,1,none⟩=some (.slice o2 n2 k2):=by
   constructor
   ·rw [World.cell?_of_block (w:=w3) ((Below.heap_setCell _ _ _ _ (by show w2.heap.size≠w.heap.size;omega)).trans (Below.heap_setCell _ _ _ _ (by show w2.heap.size≠w.heap.size;omega)))];exact hS3.1
   ·rw [World.cell?_of_block (w:=w3) ((Below.heap_setCell _ _ _ _ (by show w2.heap.size≠w.heap.size;omega)).trans (Below.heap_setCell _ _ _ _ (by show w2.heap.size≠w.heap.size;omega)))];exact hS3.2
  refine hK.out _ _ hS4 (fun hS4'=> ?_)
  clear hK K
  refine wpAnyH_take (i:=5) (v:= .int .i64 (y.p:Int)) rfl (by kernel_rfl) (by kernel_rfl) (by kernel_rfl) (fun _ _ _ h=>h) (Or.inl ⟨by kernel_rfl,fun w hw=>by obtain ⟨s0,s1⟩:=hw;go_simp⟩) hS4' ?_
  try simp only [Act.put,List.setIfInBounds_toArray,List.set_cons_zero,List.set_cons_succ,List.getElem_toArray,List.getElem_cons_succ,List.getElem_cons_zero]
  refine wpAnyH_done (by kernel_rfl) ?_ _
  clear hS3 hS3' hS4 hS4' hHeld
  go_wp2_with fail
  refine bodyPost_ret (v:= .tuple #[.agg #[.slice o1 n1 k1,.slice o2 n2 k2],.int .i64 y.p]) ?_ rfl ?_
  ·simp [results,Tryz.results173,go_sem,rc]
  refine ⟨((unhide HB3).setCell (Nat.le_refl _) _).setCell (Nat.le_refl _) _,o1,n1,k1,o2,n2,k2, ?_⟩
  rw [unhide HMR]
 |ok x=>
  obtain ⟨al,rs⟩:=x
  have hx:=unhide HX2
  rw [hmr] at hx
  obtain ⟨ha,⟨cells,hr,hrs⟩,j,hp⟩:=hx
  have HP:=hide hp
  have HMR:=hide hmr
  have HA:=hide ha
  have HRR:=hide hr
  have HRS:=hide hrs
  obtain ⟨c0,c1,c2⟩:=hp.cells
  have hpb:=lt_of_blk hp.blk
  have hzz:w.heap.size<w2.heap.size:=by omega
  clear hmr hp ha hr hrs HX2
  have rc:=fun o=>cell_of_blk (unhide HR2) o
  have rf:=fun o=>frozen_of_blk (unhide HR2) o
  go_wp2_with fail
  refine bodyPost_ret (v:= .tuple #[.agg #[.slice o1 n1 k1,.slice o2 n2 k2],.int .i64 (-1)]) ?_ rfl ?_
  ·simp [results,Tryz.results173,go_sem,rc,hzz]
  have tR:TyAt w2 w.heap.size 228:=⟨_,_,unhide HR2⟩
  have hkt:=(((KT.set 0 (.slice o1 n1 k1) tR (by decide) (by decide)).trans (KT.set 1 (.slice o2 n2 k2) (tR.set _ _) (by decide) (by decide)))).trans (KT.alloc _ (.cells #[.slice o1 n1 k1,.slice o2 n2 k2] 228))
  have hne:(Value.slice o2 n2 k2).ownBlock≠some w.heap.size:=fun e=>own_ty (unhide HRR) e (unhide HR2) (by decide)
  refine ⟨(((unhide HB2).setCell (Nat.le_refl _) _).setCell (Nat.le_refl _) _).alloc (by simp [World.setCell];omega) _,o1,n1,k1,o2,n2,k2, ?_⟩
  rw [unhide HMR]
  exact ⟨rfl,hkt.owns (unhide HA),cells,(owns_keep (owns_keep (unhide HRR) (grown_set _ _ _ _) (Or.inr hne)) (grown_set _ _ _ _) (Or.inr hne)).alloc _,hkt.rules (unhide HRS)⟩
def FB (w:World) (fb:Nat) (x:Nat × Nat):Prop:=w.heap[fb]? =some (.cells #[.int .i64 x.1,.int .i64 x.2] 284 (0,0))
set_option maxHeartbeats 1000000 in
theorem meets_any (w:World) (fb:Nat) (x:Nat × Nat) (p e:Nat) (h:FB w fb x):
  Calls Tryz.prog 174 #[.pointer (some ⟨fb,0,none⟩),.int .i64 p,.int .i64 e] w fun r w'=>r= .returned (.tuple #[])∧FB w' fb (meet x p e)∧w.grownBy w' (some fb):=by
 have HF:=hide h
 have fc:=fun o=>cell_of_blk h o
 have ff:=fun o=>frozen_of_blk h o
 clear h
 have yes:(x.2=0∨p<x.1∨(p=x.1∧e<x.2))→FB ((w.setCell ⟨fb,0,none⟩ (.int .i64 p)).setCell ⟨fb,1,none⟩ (.int .i64 e)) fb (meet x p e)∧w.grownBy ((w.setCell ⟨fb,0,none⟩ (.int .i64 p)).setCell ⟨fb,1,none⟩ (.int .i64 e)) (some fb):=by
  intro hc
  refine ⟨?_,(grown_set _ _ _ _).trans (grown_set _ _ _ _)⟩
  unfold FB
  rw [blk_set (blk_set (unhide HF) _ _) _ _,meet,if_pos hc]
  rfl
 have no:¬ (x.2=0∨p<x.1∨(p=x.1∧e<x.2))→FB w fb (meet x p e)∧w.grownBy w (some fb):=by
  intro hc
  rw [meet,if_neg hc];exact ⟨unhide HF,World.grownBy.refl _ _⟩
 have Y:=hide yes
 have N:=hide no
 clear yes no
 by_cases h0:x.2=0
 ·have e0:((x.2:Int)==0)=true:=beq_iff_eq.2 (by omega)
  have H0:=hide h0
  clear h0
  go_enter Tryz.func174,Tryz.ntmps174
  go_wp2
  go_end0
  exact ⟨rfl,(unhide Y) (Or.inl (unhide H0))⟩
 ·have e0:((x.2:Int)==0)=false:=beq_eq_false_iff_ne.2 (by omega)
  by_cases h1:p<x.1
  ·have H1:=hide h1
   have e1:decide (p<x.1)=true:=by simp;omega
   clear h1 h0
   go_enter Tryz.func174,Tryz.ntmps174
   go_wp2
   go_end0
   exact ⟨rfl,(unhide Y) (Or.inr (Or.inl (unhide H1)))⟩
  ·have e1:decide (p<x.1)=false:=by simp;omega
   by_cases h2:p=x.1
   ·have e2:((p:Int)==(x.1:Int))=true:=beq_iff_eq.2 (by omega)
    by_cases h3:e<x.2
    ·have H3:=hide (And.intro h2 h3)
     have e3:decide (e<x.2)=true:=by simp;omega
     clear h0 h1 h2 h3
     go_enter Tryz.func174,Tryz.ntmps174
     go_wp2
     go_end0
     exact ⟨rfl,(unhide Y) (Or.inr (Or.inr (unhide H3)))⟩
    ·have HN:=hide (show ¬ (x.2=0∨p<x.1∨(p=x.1∧e<x.2)) by omega)
     have e3:decide (e<x.2)=false:=by simp;omega
     clear h0 h1 h2 h3
     go_enter Tryz.func174,Tryz.ntmps174
     go_wp2
     go_end0
     exact ⟨rfl,(unhide N) (unhide HN)⟩
   ·have e2:((p:Int)==(x.1:Int))=false:=beq_eq_false_iff_ne.2 (by omega)
    have HN:=hide (show ¬ (x.2=0∨p<x.1∨(p=x.1∧e<x.2)) by omega)
    clear h0 h1 h2
    go_enter Tryz.func174,Tryz.ntmps174
    go_wp2
    go_end0
    exact ⟨rfl,(unhide N) (unhide HN)⟩
def ActsAre (w:World) (o:Option Addr) (n k:Nat) (al:List Tk):Prop:=w.ownsRow 0 232 3 (.slice o n k) al.length (tkCellsR al)
theorem ActsAre.len {w:World} {o:Option Addr} {n k:Nat} {al:List Tk} (h:ActsAre w o n k al):n=al.length:=by
 obtain ⟨_,⟨h1,h2⟩|⟨g,cap,cur,hv,_⟩⟩:=h
 ·cases h1;exact h2.symm
 ·cases hv;rfl
theorem ActsAre.tok {w:World} {o:Option Addr} {n k:Nat} {al:List Tk} (h:ActsAre w o n k al) {i:Nat} {t:Tk} {r:List Tk} (ht:al.drop i=t::r):
  ∃g,o=some ⟨g,0,none⟩∧g<w.heap.size∧TyAt w g 232∧w.cell? ⟨g,i * 3,none⟩=some (.int .u8 (refK t.k))∧w.cell? ⟨g,i * 3+1,none⟩=some (.string t.s)∧w.cell? ⟨g,i * 3+2,none⟩=some (.int .i64 t.p):=by
 have hi:i<al.length:=by
  rcases Nat.lt_or_ge i al.length with h|h
  ·exact h
  ·rw [List.drop_eq_nil_of_le h] at ht;cases ht
 obtain ⟨_,⟨h1,h2⟩|⟨g,cap,cur,hv,_,hrow,hle,_,hcs,htake⟩⟩:=h
 ·omega
 ·cases hv
  have h3:=tkCells_at al i t r ht
  rw [←htake,List.getElem?_take,List.getElem?_take,List.getElem?_take,if_pos (by omega),if_pos (by omega),if_pos (by omega)] at h3
  refine ⟨g,rfl,lt_of_blk hrow,⟨_,_,hrow⟩, ?_, ?_, ?_⟩<;>rw [cell_of_blk hrow,←Array.getElem?_toList]
  ·exact h3.1
  ·exact h3.2.1
  ·exact h3.2.2
theorem KT.acts {w w':World} (h:KT w w') {o:Option Addr} {n k:Nat} {al:List Tk} (ha:ActsAre w o n k al):ActsAre w' o n k al:=h.owns ha
theorem hasN_yes {al:List Tk} {s:ByteArray} {i:Nat} {t:Tk} {r:List Tk} (ht:al.drop i=t::r) (e:(t.s.toList==s.toList)=true):hasN (al.drop i) s=true:=by
 rw [ht,hasN,if_pos (by simpa using e)]
theorem hasN_no {al:List Tk} {s:ByteArray} {i:Nat} {t:Tk} {r:List Tk} (ht:al.drop i=t::r) (e:(t.s.toList==s.toList)=false):hasN (al.drop i) s=hasN (al.drop (i+1)) s:=by
 rw [drop_tail ht,ht,hasN,if_neg (by simpa using e)]
set_option maxHeartbeats 1000000 in
theorem has_any (w:World) (o1:Option Addr) (n1 k1:Nat) (o2:Option Addr) (n2 k2:Nat) (al:List Tk) (s:ByteArray) (h:ActsAre w o1 n1 k1 al) (hlen:al.length≤401):
  Calls Tryz.prog 249 #[.agg #[.slice o1 n1 k1,.slice o2 n2 k2],.string s] w fun r w'=>r= .returned (.bool (hasN al s))∧Below w.heap.size w w':=by
 have HA:=hide h
 have hn:=h.len
 subst hn
 clear h
 have HB:=hide (show Below w.heap.size w (w.alloc (.cells #[.slice o1 al.length k1,.slice o2 n2 k2] 228)) from (Below.refl _ _).alloc (Nat.le_refl _) _)
 go_enter Tryz.func249,Tryz.ntmps249
 go_wp2
 go_loop [5] (fun v=> ∃k:Nat,k≤al.length∧v= .int .i64 k∧Hid (hasN al s=hasN (al.drop k) s)) (fun v=>al.length - (intOf v).toNat)
 case atStart=>exact ⟨0,Nat.zero_le _,rfl,rfl⟩
 case round=>
  obtain ⟨k,hk,rfl,H⟩:=hrel
  by_cases hlt:k<al.length
  ·obtain ⟨t,r,ht⟩:=drop_ne hlt
   obtain ⟨g,rfl,hg,_,t0,t1,t2⟩:=(unhide HA).tok ht
   have HT:=hide ht
   clear ht
   cases he:(t.s.toList==s.toList) with
   |true=>
    have HE:=hide he
    go_wp2
    go_ret
    exact ⟨ret_bool (by rw [H.out,hasN_yes (unhide HT) (unhide HE)]),unhide HB⟩
   |false=>
    have HE:=hide he
    go_wp2
    go_round
    case rel=>exact ⟨k+1,by omega,by go_num,H.out.trans (hasN_no (unhide HT) (unhide HE))⟩
    case measure=>simp [intOf];omega
  ·go_wp2
   go_ret
   exact ⟨ret_bool (by rw [H.out,List.drop_eq_nil_of_le (by omega)];rfl),unhide HB⟩
def TxS (w:World) (o:Option Addr) (tr:List ByteArray):Prop:= ∀j x,tr[j]? =some x→ ∃b off,o=some ⟨b,off,none⟩∧b<w.heap.size∧w.cell? ⟨b,off+j,none⟩=some (.string x)
theorem TxS.later {w w':World} {o:Option Addr} {tr:List ByteArray} (h:TxS w o tr) (hb:Below w.heap.size w w'):TxS w' o tr:=fun j x hx=>by
 obtain ⟨b,off,h1,h2,h3⟩:=h j x hx
 exact ⟨b,off,h1,Nat.lt_of_lt_of_le h2 hb.size,(bcell3 hb _ _ h2).trans h3⟩
end Go.Proofs.YtidakhhekofkoaaGreatDoor
