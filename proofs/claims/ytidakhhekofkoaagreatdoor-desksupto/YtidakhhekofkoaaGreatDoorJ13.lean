/- The reference's faults: named, names; its size. -/
import Derived.Test.YtidakhhekofkoaaGreatDoorJ11
import Derived.Deep.QuietTactic
import Derived.BigQuiet
set_option linter.unusedSimpArgs false
namespace Go.Proofs.YtidakhhekofkoaaGreatDoor
open Go.RowKit Go.Deep
theorem FB.later {w w':World} {fb:Nat} {x:Nat × Nat} (h:FB w fb x) (hb:Below w.heap.size w w'):FB w' fb x:=(hb.block fb (lt_of_blk h)).trans h
theorem KT.fb {w w':World} {fb:Nat} {x:Nat × Nat} (h:FB w fb x) (hg:w.grownBy w' (some fb)):KT w w':=KT.grown hg ⟨_,_,h⟩ (by decide) (by decide)
set_option maxHeartbeats 1000000 in
theorem named_any (w:World) (o1:Option Addr) (n1 k1:Nat) (o2:Option Addr) (n2 k2:Nat) (al:List Tk) (fb:Nat) (x:Nat × Nat) (s:ByteArray) (p:Nat) (h:ActsAre w o1 n1 k1 al) (hlen:al.length≤401) (hf:FB w fb x) (hs:s.size≤400):
  Calls Tryz.prog 202 #[.agg #[.slice o1 n1 k1,.slice o2 n2 k2],.pointer (some ⟨fb,0,none⟩),.string s,.int .i64 p] w fun r w'=>r= .returned (.tuple #[])∧FB w' fb (meets x (fName al s p))∧w.grownBy w' (some fb):=by
 have HA:=hide h
 have HF:=hide hf
 have hfl:=lt_of_blk hf
 clear h hf
 cases hh:hasN al s
 ·by_cases hl:8<s.size
  ·have HFN:Hid (meets x (fName al s p)=meet (meet x p 1) p 3):=by show _=_;simp [fName,hh,hl,meets]
   have hL:(8:Int)<(s.size:Int):=by omega
   have HH:=hide hh
   clear hl hh
   go_enter Tryz.func202,Tryz.ntmps202
   go_wp2_with (go_at_call 174;refine (meets_any _ fb x p 1 ((unhide HF).later ((Below.refl _ _).alloc (Nat.le_refl _) _))).mono ?_)
   rintro e w1 ⟨rfl,hf1,hg1⟩
   have HF1:=hide hf1
   have HA1:=hide ((KT.fb ((unhide HF).later ((Below.refl _ _).alloc (Nat.le_refl _) (.cells #[.slice o1 n1 k1,.slice o2 n2 k2] 228))) hg1).acts ((KT.alloc _ _).acts (unhide HA)))
   have HG1:=hide ((grown_alloc (World.grownBy.refl w (some fb)) (.cells #[.slice o1 n1 k1,.slice o2 n2 k2] 228)).trans hg1)
   have hbx:=(hg1.block w.heap.size (by simp) (by simp;omega)).trans (blk_alloc w (.cells #[.slice o1 n1 k1,.slice o2 n2 k2] 228))
   have bc:=fun o=>cell_of_blk hbx o
   clear hf1 hg1 hbx
   go_wp2_with (go_at_call 249;refine (has_any _ _ _ _ _ _ _ _ _ (unhide HA1) hlen).mono ?_)
   rintro e w2 ⟨rfl,hb2⟩
   have HF2:=hide ((unhide HF1).later hb2)
   have HG2:=hide ((unhide HG1).trans (grown_below hb2 _))
   rw [unhide HH]
   clear hb2
   go_wp2_with (go_at_call 174;refine (meets_any _ fb (meet x p 1) p 3 (unhide HF2)).mono ?_)
   rintro e w3 ⟨rfl,hf3,hg3⟩
   have HF3:=hide hf3
   have HG3:=hide ((unhide HG2).trans hg3)
   clear hf3 hg3
   go_wp2_with fail
   go_end0
   refine ⟨rfl, ?_,unhide HG3⟩
   rw [unhide HFN];exact unhide HF3
  ·have HFN:Hid (meets x (fName al s p)=meet x p 3):=by show _=_;simp [fName,hh,hl,meets]
   have hL:¬ (8:Int)<(s.size:Int):=by omega
   have HH:=hide hh
   clear hl hh
   go_enter Tryz.func202,Tryz.ntmps202
   go_wp2_with fail
   refine (has_any _ _ _ _ _ _ _ _ _ ((KT.alloc _ _).acts (unhide HA)) hlen).mono ?_
   rintro e w2 ⟨rfl,hb2⟩
   have HF2:=hide (((unhide HF).later ((Below.refl _ _).alloc (Nat.le_refl _) _)).later hb2)
   have HG2:=hide ((grown_alloc (World.grownBy.refl w (some fb)) (.cells #[.slice o1 n1 k1,.slice o2 n2 k2] 228)).trans (grown_below hb2 _))
   rw [unhide HH]
   clear hb2
   go_wp2_with (go_at_call 174;refine (meets_any _ fb x p 3 (unhide HF2)).mono ?_)
   rintro e w3 ⟨rfl,hf3,hg3⟩
   have HF3:=hide hf3
   have HG3:=hide ((unhide HG2).trans hg3)
   clear hf3 hg3
   go_wp2_with fail
   go_end0
   refine ⟨rfl, ?_,unhide HG3⟩
   rw [unhide HFN];exact unhide HF3
 ·by_cases hl:8<s.size
  ·have HFN:Hid (meets x (fName al s p)=(meet x p 1)):=by show _=_;simp [fName,hh,hl,meets]
   have hL:(8:Int)<(s.size:Int):=by omega
   have HH:=hide hh
   clear hl hh
   go_enter Tryz.func202,Tryz.ntmps202
   go_wp2_with (go_at_call 174;refine (meets_any _ fb x p 1 ((unhide HF).later ((Below.refl _ _).alloc (Nat.le_refl _) _))).mono ?_)
   rintro e w1 ⟨rfl,hf1,hg1⟩
   have HF1:=hide hf1
   have HA1:=hide ((KT.fb ((unhide HF).later ((Below.refl _ _).alloc (Nat.le_refl _) (.cells #[.slice o1 n1 k1,.slice o2 n2 k2] 228))) hg1).acts ((KT.alloc _ _).acts (unhide HA)))
   have HG1:=hide ((grown_alloc (World.grownBy.refl w (some fb)) (.cells #[.slice o1 n1 k1,.slice o2 n2 k2] 228)).trans hg1)
   have hbx:=(hg1.block w.heap.size (by simp) (by simp;omega)).trans (blk_alloc w (.cells #[.slice o1 n1 k1,.slice o2 n2 k2] 228))
   have bc:=fun o=>cell_of_blk hbx o
   clear hf1 hg1 hbx
   go_wp2_with (go_at_call 249;refine (has_any _ _ _ _ _ _ _ _ _ (unhide HA1) hlen).mono ?_)
   rintro e w2 ⟨rfl,hb2⟩
   have HF2:=hide ((unhide HF1).later hb2)
   have HG2:=hide ((unhide HG1).trans (grown_below hb2 _))
   rw [unhide HH]
   clear hb2
   go_wp2_with fail
   go_end0
   refine ⟨rfl, ?_,unhide HG2⟩
   rw [unhide HFN];exact unhide HF2
  ·have HFN:Hid (meets x (fName al s p)=x):=by show _=_;simp [fName,hh,hl,meets]
   have hL:¬ (8:Int)<(s.size:Int):=by omega
   have HH:=hide hh
   clear hl hh
   go_enter Tryz.func202,Tryz.ntmps202
   go_wp2_with fail
   refine (has_any _ _ _ _ _ _ _ _ _ ((KT.alloc _ _).acts (unhide HA)) hlen).mono ?_
   rintro e w2 ⟨rfl,hb2⟩
   have HF2:=hide (((unhide HF).later ((Below.refl _ _).alloc (Nat.le_refl _) _)).later hb2)
   have HG2:=hide ((grown_alloc (World.grownBy.refl w (some fb)) (.cells #[.slice o1 n1 k1,.slice o2 n2 k2] 228)).trans (grown_below hb2 _))
   rw [unhide HH]
   clear hb2
   go_wp2_with fail
   go_end0
   refine ⟨rfl, ?_,unhide HG2⟩
   rw [unhide HFN];exact unhide HF2
theorem refO_97 (k:Nat):(refO k==97)=decide (k=0):=by
 unfold refO;repeat' split
 all_goals simp_all
def Leaf (f:Fm) (s:ByteArray) (p:Nat):Prop:=
 match f with
 | .nil=>False
 | .node _ _ a l r=>(a.1=0∧a.2.1=s∧a.2.2=p)∨Leaf l s p∨Leaf r s p
set_option maxHeartbeats 2000000 in
set_option maxRecDepth 100000 in
theorem names_any (al:List Tk) (hlen:al.length≤401): ∀(f:Fm) (w:World) (o1:Option Addr) (n1 k1:Nat) (o2:Option Addr) (n2 k2:Nat) (fb:Nat) (x:Nat × Nat) (q:Option Addr),ActsAre w o1 n1 k1 al→FB w fb x→IsF w f q→(∀s p,Leaf f s p→s.size≤400)→
  Calls Tryz.prog 175 #[.agg #[.slice o1 n1 k1,.slice o2 n2 k2],.pointer (some ⟨fb,0,none⟩),.pointer q] w fun r w'=>r= .returned (.tuple #[])∧FB w' fb (meets x (fFm al f))∧w.grownBy w' (some fb)
 | .nil,w,o1,n1,k1,o2,n2,k2,fb,x,q,ha,hf,hq,_=>by
  cases (show q=none from hq)
  have HF:=hide hf
  clear hf ha
  go_enter Tryz.func175,Tryz.ntmps175
  go_wp2_with fail
  exact bodyPost_ret (v:= .tuple #[]) (by simp [results,Tryz.results175,go_sem]) rfl ⟨rfl,(unhide HF).later ((Below.refl _ _).alloc (Nat.le_refl _) _),grown_alloc (World.grownBy.refl _ _) _⟩
 | .node u v a l r,w,o1,n1,k1,o2,n2,k2,fb,x,q,ha,hf,hq,hsz=>by
  obtain ⟨b,pl,pr,rfl,hb,hl,hr⟩:=hq
  have IHL:=hide (names_any al hlen l)
  have IHR:=hide (names_any al hlen r)
  have HA:=hide ha
  have HF:=hide hf
  have HB:=hide hb
  have HL:=hide hl
  have HRR:=hide hr
  have HSZ:=hide hsz
  have hbl:=lt_of_blk hb
  have hfl:=lt_of_blk hf
  have hbf:b≠fb:=by rintro rfl;rw [show w.heap[b]? =_ from hf] at hb;simp at hb
  have bc:=fun o=>cell_of_blk hb o
  clear ha hf hb hl hr hsz
  have hleaf:fFm al (.node u v a l r)=(if a.1=0 then fName al a.2.1 a.2.2 else [])++(fFm al l++fFm al r):=rfl
  have HLF:=hide hleaf
  clear hleaf
  by_cases h0:a.1=0
  ·have e0:(refO a.1==97)=true:=by rw [refO_97];simp [h0]
   have H0:=hide h0
   clear h0
   go_enter Tryz.func175,Tryz.ntmps175
   go_wp2_with fail
   refine wp_region_held_drew (S:=fun w'=>w'.heap[w.heap.size]? =some (.cells #[.slice o1 n1 k1,.slice o2 n2 k2] 228 (0,0))∧w'.heap[b]? =some (.cells #[.int .u8 (refO a.1),.string a.2.1,.int .i64 a.2.2,.pointer pl,.pointer pr] 292 (0,0))) (by kernel_rfl) ?_ (fun hHeld=> ?_)
   ·exact ⟨(blk_alloc _ _),((Below.heap_alloc _ _ _ hbl).trans (unhide HB))⟩
   refine wpAnyH_take (i:=0) (v:= .agg #[.slice o1 n1 k1,.slice o2 n2 k2]) rfl (by kernel_rfl) (by kernel_rfl) (by kernel_rfl) (fun _ _ _ h=>h) (Or.inl ⟨by kernel_rfl,fun w hw=>by obtain ⟨s0,s1⟩:=hw;have sa:=fun o=>cell_of_blk s0 o;have sb:=fun o=>cell_of_blk s1 o;go_simp⟩) hHeld ?_
   try simp only [Act.put,List.setIfInBounds_toArray,List.set_cons_zero,List.set_cons_succ,List.getElem_toArray,List.getElem_cons_succ,List.getElem_cons_zero]
   refine wpAnyH_take (i:=1) (v:= .pointer (some ⟨fb,0,none⟩)) rfl (by kernel_rfl) (by kernel_rfl) (by kernel_rfl) (fun _ _ _ h=>h) (Or.inl ⟨by kernel_rfl,fun w hw=>by obtain ⟨s0,s1⟩:=hw;have sa:=fun o=>cell_of_blk s0 o;have sb:=fun o=>cell_of_blk s1 o;go_simp⟩) hHeld ?_
   try simp only [Act.put,List.setIfInBounds_toArray,List.set_cons_zero,List.set_cons_succ,List.getElem_toArray,List.getElem_cons_succ,List.getElem_cons_zero]
   refine wpAnyH_take (i:=2) (v:= .pointer (some ⟨b,0,none⟩)) rfl (by kernel_rfl) (by kernel_rfl) (by kernel_rfl) (fun _ _ _ h=>h) (Or.inl ⟨by kernel_rfl,fun w hw=>by obtain ⟨s0,s1⟩:=hw;have sa:=fun o=>cell_of_blk s0 o;have sb:=fun o=>cell_of_blk s1 o;go_simp⟩) hHeld ?_
   try simp only [Act.put,List.setIfInBounds_toArray,List.set_cons_zero,List.set_cons_succ,List.getElem_toArray,List.getElem_cons_succ,List.getElem_cons_zero]
   refine wpAnyH_take (i:=3) (v:= .pointer (some ⟨b,0,none⟩)) rfl (by kernel_rfl) (by kernel_rfl) (by kernel_rfl) (fun _ _ _ h=>h) (Or.inl ⟨by kernel_rfl,fun w hw=>by obtain ⟨s0,s1⟩:=hw;have sa:=fun o=>cell_of_blk s0 o;have sb:=fun o=>cell_of_blk s1 o;go_simp⟩) hHeld ?_
   try simp only [Act.put,List.setIfInBounds_toArray,List.set_cons_zero,List.set_cons_succ,List.getElem_toArray,List.getElem_cons_succ,List.getElem_cons_zero]
   refine wpAnyH_take (i:=4) (v:= .pointer (some ⟨b,1,none⟩)) rfl (by kernel_rfl) (by kernel_rfl) (by kernel_rfl) (fun _ _ _ h=>h) (Or.inl ⟨by kernel_rfl,fun w hw=>by obtain ⟨s0,s1⟩:=hw;have sa:=fun o=>cell_of_blk s0 o;have sb:=fun o=>cell_of_blk s1 o;go_simp⟩) hHeld ?_
   try simp only [Act.put,List.setIfInBounds_toArray,List.set_cons_zero,List.set_cons_succ,List.getElem_toArray,List.getElem_cons_succ,List.getElem_cons_zero]
   refine wpAnyH_take (i:=5) (v:= .string a.2.1) rfl (by kernel_rfl) (by kernel_rfl) (by kernel_rfl) (fun _ _ _ h=>h) (Or.inl ⟨by kernel_rfl,fun w hw=>by obtain ⟨s0,s1⟩:=hw;have sa:=fun o=>cell_of_blk s0 o;have sb:=fun o=>cell_of_blk s1 o;go_simp⟩) hHeld ?_
   try simp only [Act.put,List.setIfInBounds_toArray,List.set_cons_zero,List.set_cons_succ,List.getElem_toArray,List.getElem_cons_succ,List.getElem_cons_zero]
   refine wpAnyH_take (i:=6) (v:= .pointer (some ⟨b,0,none⟩)) rfl (by kernel_rfl) (by kernel_rfl) (by kernel_rfl) (fun _ _ _ h=>h) (Or.inl ⟨by kernel_rfl,fun w hw=>by obtain ⟨s0,s1⟩:=hw;have sa:=fun o=>cell_of_blk s0 o;have sb:=fun o=>cell_of_blk s1 o;go_simp⟩) hHeld ?_
   try simp only [Act.put,List.setIfInBounds_toArray,List.set_cons_zero,List.set_cons_succ,List.getElem_toArray,List.getElem_cons_succ,List.getElem_cons_zero]
   refine wpAnyH_take (i:=7) (v:= .pointer (some ⟨b,0,none⟩)) rfl (by kernel_rfl) (by kernel_rfl) (by kernel_rfl) (fun _ _ _ h=>h) (Or.inl ⟨by kernel_rfl,fun w hw=>by obtain ⟨s0,s1⟩:=hw;have sa:=fun o=>cell_of_blk s0 o;have sb:=fun o=>cell_of_blk s1 o;go_simp⟩) hHeld ?_
   try simp only [Act.put,List.setIfInBounds_toArray,List.set_cons_zero,List.set_cons_succ,List.getElem_toArray,List.getElem_cons_succ,List.getElem_cons_zero]
   refine wpAnyH_take (i:=8) (v:= .pointer (some ⟨b,2,none⟩)) rfl (by kernel_rfl) (by kernel_rfl) (by kernel_rfl) (fun _ _ _ h=>h) (Or.inl ⟨by kernel_rfl,fun w hw=>by obtain ⟨s0,s1⟩:=hw;have sa:=fun o=>cell_of_blk s0 o;have sb:=fun o=>cell_of_blk s1 o;go_simp⟩) hHeld ?_
   try simp only [Act.put,List.setIfInBounds_toArray,List.set_cons_zero,List.set_cons_succ,List.getElem_toArray,List.getElem_cons_succ,List.getElem_cons_zero]
   refine wpAnyH_take (i:=9) (v:= .int .i64 a.2.2) rfl (by kernel_rfl) (by kernel_rfl) (by kernel_rfl) (fun _ _ _ h=>h) (Or.inl ⟨by kernel_rfl,fun w hw=>by obtain ⟨s0,s1⟩:=hw;have sa:=fun o=>cell_of_blk s0 o;have sb:=fun o=>cell_of_blk s1 o;go_simp⟩) hHeld ?_
   try simp only [Act.put,List.setIfInBounds_toArray,List.set_cons_zero,List.set_cons_succ,List.getElem_toArray,List.getElem_cons_succ,List.getElem_cons_zero]
   refine wpAnyH_ready (rs:=[10]) (by kernel_rfl) (by simp) ?_
   refine AllReadyH.cons rfl (fun K hK=> ?_) AllReadyH.nil
   go_simp
   go_wp2_with fail
   refine (named_any _ _ _ _ _ _ _ _ _ x _ _ ((KT.below ((Below.refl w.heap.size w).alloc (Nat.le_refl _) (.cells #[.slice o1 n1 k1,.slice o2 n2 k2] 228)).drew).acts (unhide HA)) hlen ((unhide HF).later ((Below.refl w.heap.size w).alloc (Nat.le_refl _) (.cells #[.slice o1 n1 k1,.slice o2 n2 k2] 228)).drew) ((unhide HSZ) _ _ (Or.inl ⟨unhide H0,rfl,rfl⟩))).mono ?_
   rintro e w1 ⟨rfl,hf1,hg1⟩
   have HF1:=hide hf1
   have HT1:=hide ((KT.below ((Below.refl w.heap.size w).alloc (Nat.le_refl _) (.cells #[.slice o1 n1 k1,.slice o2 n2 k2] 228)).drew).trans (KT.fb ((unhide HF).later ((Below.refl w.heap.size w).alloc (Nat.le_refl _) (.cells #[.slice o1 n1 k1,.slice o2 n2 k2] 228)).drew) hg1))
   have HG1:=hide ((grown_below ((Below.refl w.heap.size w).alloc (Nat.le_refl _) (.cells #[.slice o1 n1 k1,.slice o2 n2 k2] 228)).drew (some fb)).trans hg1)
   have HX1:=hide ((hg1.block w.heap.size (by first|(simp;done)|(simp;omega)) (by simp;omega)).trans (blk_alloc _ _))
   have HB1:=hide ((hg1.block b (by first|(simp;done)|(simp;omega)) (by simp;omega)).trans ((Below.heap_alloc _ _ _ hbl).trans (unhide HB)))
   have hz1:w.heap.size<w1.heap.size:=lt_of_blk (unhide HX1)
   have hzb1:b<w1.heap.size:=lt_of_blk (unhide HB1)
   clear hf1 hg1
   refine hK.out _ _ ⟨unhide HX1,unhide HB1⟩ (fun _=> ?_)
   clear hK K hHeld
   refine wpAnyH_done (by kernel_rfl) ?_ _
   go_wp2_with fail
   refine wp_region_held_drew (S:=fun w'=>w'.heap[w.heap.size]? =some (.cells #[.slice o1 n1 k1,.slice o2 n2 k2] 228 (0,0))∧w'.heap[b]? =some (.cells #[.int .u8 (refO a.1),.string a.2.1,.int .i64 a.2.2,.pointer pl,.pointer pr] 292 (0,0))) (by kernel_rfl) ?_ (fun hHeld=> ?_)
   ·exact ⟨(unhide HX1),(unhide HB1)⟩
   refine wpAnyH_take (i:=0) (v:= .agg #[.slice o1 n1 k1,.slice o2 n2 k2]) rfl (by kernel_rfl) (by kernel_rfl) (by kernel_rfl) (fun _ _ _ h=>h) (Or.inl ⟨by kernel_rfl,fun w hw=>by obtain ⟨s0,s1⟩:=hw;have sa:=fun o=>cell_of_blk s0 o;have sb:=fun o=>cell_of_blk s1 o;go_simp⟩) hHeld ?_
   try simp only [Act.put,List.setIfInBounds_toArray,List.set_cons_zero,List.set_cons_succ,List.getElem_toArray,List.getElem_cons_succ,List.getElem_cons_zero]
   refine wpAnyH_take (i:=1) (v:= .pointer (some ⟨fb,0,none⟩)) rfl (by kernel_rfl) (by kernel_rfl) (by kernel_rfl) (fun _ _ _ h=>h) (Or.inl ⟨by kernel_rfl,fun w hw=>by obtain ⟨s0,s1⟩:=hw;have sa:=fun o=>cell_of_blk s0 o;have sb:=fun o=>cell_of_blk s1 o;go_simp⟩) hHeld ?_
   try simp only [Act.put,List.setIfInBounds_toArray,List.set_cons_zero,List.set_cons_succ,List.getElem_toArray,List.getElem_cons_succ,List.getElem_cons_zero]
   refine wpAnyH_take (i:=2) (v:= .pointer (some ⟨b,0,none⟩)) rfl (by kernel_rfl) (by kernel_rfl) (by kernel_rfl) (fun _ _ _ h=>h) (Or.inl ⟨by kernel_rfl,fun w hw=>by obtain ⟨s0,s1⟩:=hw;have sa:=fun o=>cell_of_blk s0 o;have sb:=fun o=>cell_of_blk s1 o;go_simp⟩) hHeld ?_
   try simp only [Act.put,List.setIfInBounds_toArray,List.set_cons_zero,List.set_cons_succ,List.getElem_toArray,List.getElem_cons_succ,List.getElem_cons_zero]
   refine wpAnyH_take (i:=3) (v:= .pointer (some ⟨b,0,none⟩)) rfl (by kernel_rfl) (by kernel_rfl) (by kernel_rfl) (fun _ _ _ h=>h) (Or.inl ⟨by kernel_rfl,fun w hw=>by obtain ⟨s0,s1⟩:=hw;have sa:=fun o=>cell_of_blk s0 o;have sb:=fun o=>cell_of_blk s1 o;go_simp⟩) hHeld ?_
   try simp only [Act.put,List.setIfInBounds_toArray,List.set_cons_zero,List.set_cons_succ,List.getElem_toArray,List.getElem_cons_succ,List.getElem_cons_zero]
   refine wpAnyH_take (i:=4) (v:= .pointer (some ⟨b,3,none⟩)) rfl (by kernel_rfl) (by kernel_rfl) (by kernel_rfl) (fun _ _ _ h=>h) (Or.inl ⟨by kernel_rfl,fun w hw=>by obtain ⟨s0,s1⟩:=hw;have sa:=fun o=>cell_of_blk s0 o;have sb:=fun o=>cell_of_blk s1 o;go_simp⟩) hHeld ?_
   try simp only [Act.put,List.setIfInBounds_toArray,List.set_cons_zero,List.set_cons_succ,List.getElem_toArray,List.getElem_cons_succ,List.getElem_cons_zero]
   refine wpAnyH_take (i:=5) (v:= .pointer pl) rfl (by kernel_rfl) (by kernel_rfl) (by kernel_rfl) (fun _ _ _ h=>h) (Or.inl ⟨by kernel_rfl,fun w hw=>by obtain ⟨s0,s1⟩:=hw;have sa:=fun o=>cell_of_blk s0 o;have sb:=fun o=>cell_of_blk s1 o;go_simp⟩) hHeld ?_
   try simp only [Act.put,List.setIfInBounds_toArray,List.set_cons_zero,List.set_cons_succ,List.getElem_toArray,List.getElem_cons_succ,List.getElem_cons_zero]
   refine wpAnyH_ready (rs:=[6]) (by kernel_rfl) (by simp) ?_
   refine AllReadyH.cons rfl (fun K hK=> ?_) AllReadyH.nil
   go_simp
   go_wp2_with fail
   refine ((unhide IHL) _ _ _ _ _ _ _ _ (meets x (fName al a.2.1 a.2.2)) _ (((unhide HT1).trans (KT.below (Below.refl w1.heap.size w1).drew)).acts (unhide HA)) ((unhide HF1).later (Below.refl w1.heap.size w1).drew) (((unhide HT1).trans (KT.below (Below.refl w1.heap.size w1).drew)).isF (unhide HL)) (fun s p h=>(unhide HSZ) s p (Or.inr (Or.inl h)))).mono ?_
   rintro e w2 ⟨rfl,hf2,hg2⟩
   have HF2:=hide hf2
   have HT2:=hide (((unhide HT1).trans (KT.below (Below.refl w1.heap.size w1).drew)).trans (KT.fb ((unhide HF1).later (Below.refl w1.heap.size w1).drew) hg2))
   have HG2:=hide (((unhide HG1).trans (grown_below (Below.refl w1.heap.size w1).drew (some fb))).trans hg2)
   have HX2:=hide ((hg2.block w.heap.size (by first|(simp;done)|(simp;omega)) (by simp;omega)).trans (unhide HX1))
   have HB2:=hide ((hg2.block b (by first|(simp;done)|(simp;omega)) (by simp;omega)).trans (unhide HB1))
   have hz2:w.heap.size<w2.heap.size:=lt_of_blk (unhide HX2)
   have hzb2:b<w2.heap.size:=lt_of_blk (unhide HB2)
   clear hf2 hg2
   refine hK.out _ _ ⟨unhide HX2,unhide HB2⟩ (fun _=> ?_)
   clear hK K hHeld
   refine wpAnyH_done (by kernel_rfl) ?_ _
   go_wp2_with fail
   refine wp_region_held_drew (S:=fun w'=>w'.heap[w.heap.size]? =some (.cells #[.slice o1 n1 k1,.slice o2 n2 k2] 228 (0,0))∧w'.heap[b]? =some (.cells #[.int .u8 (refO a.1),.string a.2.1,.int .i64 a.2.2,.pointer pl,.pointer pr] 292 (0,0))) (by kernel_rfl) ?_ (fun hHeld=> ?_)
   ·exact ⟨(unhide HX2),(unhide HB2)⟩
   refine wpAnyH_take (i:=0) (v:= .agg #[.slice o1 n1 k1,.slice o2 n2 k2]) rfl (by kernel_rfl) (by kernel_rfl) (by kernel_rfl) (fun _ _ _ h=>h) (Or.inl ⟨by kernel_rfl,fun w hw=>by obtain ⟨s0,s1⟩:=hw;have sa:=fun o=>cell_of_blk s0 o;have sb:=fun o=>cell_of_blk s1 o;go_simp⟩) hHeld ?_
   try simp only [Act.put,List.setIfInBounds_toArray,List.set_cons_zero,List.set_cons_succ,List.getElem_toArray,List.getElem_cons_succ,List.getElem_cons_zero]
   refine wpAnyH_take (i:=1) (v:= .pointer (some ⟨fb,0,none⟩)) rfl (by kernel_rfl) (by kernel_rfl) (by kernel_rfl) (fun _ _ _ h=>h) (Or.inl ⟨by kernel_rfl,fun w hw=>by obtain ⟨s0,s1⟩:=hw;have sa:=fun o=>cell_of_blk s0 o;have sb:=fun o=>cell_of_blk s1 o;go_simp⟩) hHeld ?_
   try simp only [Act.put,List.setIfInBounds_toArray,List.set_cons_zero,List.set_cons_succ,List.getElem_toArray,List.getElem_cons_succ,List.getElem_cons_zero]
   refine wpAnyH_take (i:=2) (v:= .pointer (some ⟨b,0,none⟩)) rfl (by kernel_rfl) (by kernel_rfl) (by kernel_rfl) (fun _ _ _ h=>h) (Or.inl ⟨by kernel_rfl,fun w hw=>by obtain ⟨s0,s1⟩:=hw;have sa:=fun o=>cell_of_blk s0 o;have sb:=fun o=>cell_of_blk s1 o;go_simp⟩) hHeld ?_
   try simp only [Act.put,List.setIfInBounds_toArray,List.set_cons_zero,List.set_cons_succ,List.getElem_toArray,List.getElem_cons_succ,List.getElem_cons_zero]
   refine wpAnyH_take (i:=3) (v:= .pointer (some ⟨b,0,none⟩)) rfl (by kernel_rfl) (by kernel_rfl) (by kernel_rfl) (fun _ _ _ h=>h) (Or.inl ⟨by kernel_rfl,fun w hw=>by obtain ⟨s0,s1⟩:=hw;have sa:=fun o=>cell_of_blk s0 o;have sb:=fun o=>cell_of_blk s1 o;go_simp⟩) hHeld ?_
   try simp only [Act.put,List.setIfInBounds_toArray,List.set_cons_zero,List.set_cons_succ,List.getElem_toArray,List.getElem_cons_succ,List.getElem_cons_zero]
   refine wpAnyH_take (i:=4) (v:= .pointer (some ⟨b,4,none⟩)) rfl (by kernel_rfl) (by kernel_rfl) (by kernel_rfl) (fun _ _ _ h=>h) (Or.inl ⟨by kernel_rfl,fun w hw=>by obtain ⟨s0,s1⟩:=hw;have sa:=fun o=>cell_of_blk s0 o;have sb:=fun o=>cell_of_blk s1 o;go_simp⟩) hHeld ?_
   try simp only [Act.put,List.setIfInBounds_toArray,List.set_cons_zero,List.set_cons_succ,List.getElem_toArray,List.getElem_cons_succ,List.getElem_cons_zero]
   refine wpAnyH_take (i:=5) (v:= .pointer pr) rfl (by kernel_rfl) (by kernel_rfl) (by kernel_rfl) (fun _ _ _ h=>h) (Or.inl ⟨by kernel_rfl,fun w hw=>by obtain ⟨s0,s1⟩:=hw;have sa:=fun o=>cell_of_blk s0 o;have sb:=fun o=>cell_of_blk s1 o;go_simp⟩) hHeld ?_
   try simp only [Act.put,List.setIfInBounds_toArray,List.set_cons_zero,List.set_cons_succ,List.getElem_toArray,List.getElem_cons_succ,List.getElem_cons_zero]
   refine wpAnyH_ready (rs:=[6]) (by kernel_rfl) (by simp) ?_
   refine AllReadyH.cons rfl (fun K hK=> ?_) AllReadyH.nil
   go_simp
   go_wp2_with fail
   refine ((unhide IHR) _ _ _ _ _ _ _ _ (meets (meets x (fName al a.2.1 a.2.2)) (fFm al l)) _ (((unhide HT2).trans (KT.below (Below.refl w2.heap.size w2).drew)).acts (unhide HA)) ((unhide HF2).later (Below.refl w2.heap.size w2).drew) (((unhide HT2).trans (KT.below (Below.refl w2.heap.size w2).drew)).isF (unhide HRR)) (fun s p h=>(unhide HSZ) s p (Or.inr (Or.inr h)))).mono ?_
   rintro e w3 ⟨rfl,hf3,hg3⟩
   have HF3:=hide hf3
   have HT3:=hide (((unhide HT2).trans (KT.below (Below.refl w2.heap.size w2).drew)).trans (KT.fb ((unhide HF2).later (Below.refl w2.heap.size w2).drew) hg3))
   have HG3:=hide (((unhide HG2).trans (grown_below (Below.refl w2.heap.size w2).drew (some fb))).trans hg3)
   have HX3:=hide ((hg3.block w.heap.size (by first|(simp;done)|(simp;omega)) (by simp;omega)).trans (unhide HX2))
   have HB3:=hide ((hg3.block b (by first|(simp;done)|(simp;omega)) (by simp;omega)).trans (unhide HB2))
   have hz3:w.heap.size<w3.heap.size:=lt_of_blk (unhide HX3)
   have hzb3:b<w3.heap.size:=lt_of_blk (unhide HB3)
   clear hf3 hg3
   refine hK.out _ _ ⟨unhide HX3,unhide HB3⟩ (fun _=> ?_)
   clear hK K hHeld
   refine wpAnyH_done (by kernel_rfl) ?_ _
   go_wp2_with fail
   go_end0
   refine ⟨rfl, ?_,unhide HG3⟩
   rw [unhide HLF,if_pos (unhide H0),meets_append,meets_append];exact unhide HF3
  ·have e0:(refO a.1==97)=false:=by rw [refO_97];simp [h0]
   have H0:=hide h0
   clear h0
   go_enter Tryz.func175,Tryz.ntmps175
   go_wp2_with fail
   refine wp_region_held_drew (S:=fun w'=>w'.heap[w.heap.size]? =some (.cells #[.slice o1 n1 k1,.slice o2 n2 k2] 228 (0,0))∧w'.heap[b]? =some (.cells #[.int .u8 (refO a.1),.string a.2.1,.int .i64 a.2.2,.pointer pl,.pointer pr] 292 (0,0))) (by kernel_rfl) ?_ (fun hHeld=> ?_)
   ·exact ⟨(blk_alloc _ _),((Below.heap_alloc _ _ _ hbl).trans (unhide HB))⟩
   refine wpAnyH_take (i:=0) (v:= .agg #[.slice o1 n1 k1,.slice o2 n2 k2]) rfl (by kernel_rfl) (by kernel_rfl) (by kernel_rfl) (fun _ _ _ h=>h) (Or.inl ⟨by kernel_rfl,fun w hw=>by obtain ⟨s0,s1⟩:=hw;have sa:=fun o=>cell_of_blk s0 o;have sb:=fun o=>cell_of_blk s1 o;go_simp⟩) hHeld ?_
   try simp only [Act.put,List.setIfInBounds_toArray,List.set_cons_zero,List.set_cons_succ,List.getElem_toArray,List.getElem_cons_succ,List.getElem_cons_zero]
   refine wpAnyH_take (i:=1) (v:= .pointer (some ⟨fb,0,none⟩)) rfl (by kernel_rfl) (by kernel_rfl) (by kernel_rfl) (fun _ _ _ h=>h) (Or.inl ⟨by kernel_rfl,fun w hw=>by obtain ⟨s0,s1⟩:=hw;have sa:=fun o=>cell_of_blk s0 o;have sb:=fun o=>cell_of_blk s1 o;go_simp⟩) hHeld ?_
   try simp only [Act.put,List.setIfInBounds_toArray,List.set_cons_zero,List.set_cons_succ,List.getElem_toArray,List.getElem_cons_succ,List.getElem_cons_zero]
   refine wpAnyH_take (i:=2) (v:= .pointer (some ⟨b,0,none⟩)) rfl (by kernel_rfl) (by kernel_rfl) (by kernel_rfl) (fun _ _ _ h=>h) (Or.inl ⟨by kernel_rfl,fun w hw=>by obtain ⟨s0,s1⟩:=hw;have sa:=fun o=>cell_of_blk s0 o;have sb:=fun o=>cell_of_blk s1 o;go_simp⟩) hHeld ?_
   try simp only [Act.put,List.setIfInBounds_toArray,List.set_cons_zero,List.set_cons_succ,List.getElem_toArray,List.getElem_cons_succ,List.getElem_cons_zero]
   refine wpAnyH_take (i:=3) (v:= .pointer (some ⟨b,0,none⟩)) rfl (by kernel_rfl) (by kernel_rfl) (by kernel_rfl) (fun _ _ _ h=>h) (Or.inl ⟨by kernel_rfl,fun w hw=>by obtain ⟨s0,s1⟩:=hw;have sa:=fun o=>cell_of_blk s0 o;have sb:=fun o=>cell_of_blk s1 o;go_simp⟩) hHeld ?_
   try simp only [Act.put,List.setIfInBounds_toArray,List.set_cons_zero,List.set_cons_succ,List.getElem_toArray,List.getElem_cons_succ,List.getElem_cons_zero]
   refine wpAnyH_take (i:=4) (v:= .pointer (some ⟨b,3,none⟩)) rfl (by kernel_rfl) (by kernel_rfl) (by kernel_rfl) (fun _ _ _ h=>h) (Or.inl ⟨by kernel_rfl,fun w hw=>by obtain ⟨s0,s1⟩:=hw;have sa:=fun o=>cell_of_blk s0 o;have sb:=fun o=>cell_of_blk s1 o;go_simp⟩) hHeld ?_
   try simp only [Act.put,List.setIfInBounds_toArray,List.set_cons_zero,List.set_cons_succ,List.getElem_toArray,List.getElem_cons_succ,List.getElem_cons_zero]
   refine wpAnyH_take (i:=5) (v:= .pointer pl) rfl (by kernel_rfl) (by kernel_rfl) (by kernel_rfl) (fun _ _ _ h=>h) (Or.inl ⟨by kernel_rfl,fun w hw=>by obtain ⟨s0,s1⟩:=hw;have sa:=fun o=>cell_of_blk s0 o;have sb:=fun o=>cell_of_blk s1 o;go_simp⟩) hHeld ?_
   try simp only [Act.put,List.setIfInBounds_toArray,List.set_cons_zero,List.set_cons_succ,List.getElem_toArray,List.getElem_cons_succ,List.getElem_cons_zero]
   refine wpAnyH_ready (rs:=[6]) (by kernel_rfl) (by simp) ?_
   refine AllReadyH.cons rfl (fun K hK=> ?_) AllReadyH.nil
   go_simp
   go_wp2_with fail
   refine ((unhide IHL) _ _ _ _ _ _ _ _ (x) _ ((KT.below ((Below.refl w.heap.size w).alloc (Nat.le_refl _) (.cells #[.slice o1 n1 k1,.slice o2 n2 k2] 228)).drew).acts (unhide HA)) ((unhide HF).later ((Below.refl w.heap.size w).alloc (Nat.le_refl _) (.cells #[.slice o1 n1 k1,.slice o2 n2 k2] 228)).drew) ((KT.below ((Below.refl w.heap.size w).alloc (Nat.le_refl _) (.cells #[.slice o1 n1 k1,.slice o2 n2 k2] 228)).drew).isF (unhide HL)) (fun s p h=>(unhide HSZ) s p (Or.inr (Or.inl h)))).mono ?_
   rintro e w2 ⟨rfl,hf2,hg2⟩
   have HF2:=hide hf2
   have HT2:=hide ((KT.below ((Below.refl w.heap.size w).alloc (Nat.le_refl _) (.cells #[.slice o1 n1 k1,.slice o2 n2 k2] 228)).drew).trans (KT.fb ((unhide HF).later ((Below.refl w.heap.size w).alloc (Nat.le_refl _) (.cells #[.slice o1 n1 k1,.slice o2 n2 k2] 228)).drew) hg2))
   have HG2:=hide ((grown_below ((Below.refl w.heap.size w).alloc (Nat.le_refl _) (.cells #[.slice o1 n1 k1,.slice o2 n2 k2] 228)).drew (some fb)).trans hg2)
   have HX2:=hide ((hg2.block w.heap.size (by first|(simp;done)|(simp;omega)) (by simp;omega)).trans (blk_alloc _ _))
   have HB2:=hide ((hg2.block b (by first|(simp;done)|(simp;omega)) (by simp;omega)).trans ((Below.heap_alloc _ _ _ hbl).trans (unhide HB)))
   have hz2:w.heap.size<w2.heap.size:=lt_of_blk (unhide HX2)
   have hzb2:b<w2.heap.size:=lt_of_blk (unhide HB2)
   clear hf2 hg2
   refine hK.out _ _ ⟨unhide HX2,unhide HB2⟩ (fun _=> ?_)
   clear hK K hHeld
   refine wpAnyH_done (by kernel_rfl) ?_ _
   go_wp2_with fail
   refine wp_region_held_drew (S:=fun w'=>w'.heap[w.heap.size]? =some (.cells #[.slice o1 n1 k1,.slice o2 n2 k2] 228 (0,0))∧w'.heap[b]? =some (.cells #[.int .u8 (refO a.1),.string a.2.1,.int .i64 a.2.2,.pointer pl,.pointer pr] 292 (0,0))) (by kernel_rfl) ?_ (fun hHeld=> ?_)
   ·exact ⟨(unhide HX2),(unhide HB2)⟩
   refine wpAnyH_take (i:=0) (v:= .agg #[.slice o1 n1 k1,.slice o2 n2 k2]) rfl (by kernel_rfl) (by kernel_rfl) (by kernel_rfl) (fun _ _ _ h=>h) (Or.inl ⟨by kernel_rfl,fun w hw=>by obtain ⟨s0,s1⟩:=hw;have sa:=fun o=>cell_of_blk s0 o;have sb:=fun o=>cell_of_blk s1 o;go_simp⟩) hHeld ?_
   try simp only [Act.put,List.setIfInBounds_toArray,List.set_cons_zero,List.set_cons_succ,List.getElem_toArray,List.getElem_cons_succ,List.getElem_cons_zero]
   refine wpAnyH_take (i:=1) (v:= .pointer (some ⟨fb,0,none⟩)) rfl (by kernel_rfl) (by kernel_rfl) (by kernel_rfl) (fun _ _ _ h=>h) (Or.inl ⟨by kernel_rfl,fun w hw=>by obtain ⟨s0,s1⟩:=hw;have sa:=fun o=>cell_of_blk s0 o;have sb:=fun o=>cell_of_blk s1 o;go_simp⟩) hHeld ?_
   try simp only [Act.put,List.setIfInBounds_toArray,List.set_cons_zero,List.set_cons_succ,List.getElem_toArray,List.getElem_cons_succ,List.getElem_cons_zero]
   refine wpAnyH_take (i:=2) (v:= .pointer (some ⟨b,0,none⟩)) rfl (by kernel_rfl) (by kernel_rfl) (by kernel_rfl) (fun _ _ _ h=>h) (Or.inl ⟨by kernel_rfl,fun w hw=>by obtain ⟨s0,s1⟩:=hw;have sa:=fun o=>cell_of_blk s0 o;have sb:=fun o=>cell_of_blk s1 o;go_simp⟩) hHeld ?_
   try simp only [Act.put,List.setIfInBounds_toArray,List.set_cons_zero,List.set_cons_succ,List.getElem_toArray,List.getElem_cons_succ,List.getElem_cons_zero]
   refine wpAnyH_take (i:=3) (v:= .pointer (some ⟨b,0,none⟩)) rfl (by kernel_rfl) (by kernel_rfl) (by kernel_rfl) (fun _ _ _ h=>h) (Or.inl ⟨by kernel_rfl,fun w hw=>by obtain ⟨s0,s1⟩:=hw;have sa:=fun o=>cell_of_blk s0 o;have sb:=fun o=>cell_of_blk s1 o;go_simp⟩) hHeld ?_
   try simp only [Act.put,List.setIfInBounds_toArray,List.set_cons_zero,List.set_cons_succ,List.getElem_toArray,List.getElem_cons_succ,List.getElem_cons_zero]
   refine wpAnyH_take (i:=4) (v:= .pointer (some ⟨b,4,none⟩)) rfl (by kernel_rfl) (by kernel_rfl) (by kernel_rfl) (fun _ _ _ h=>h) (Or.inl ⟨by kernel_rfl,fun w hw=>by obtain ⟨s0,s1⟩:=hw;have sa:=fun o=>cell_of_blk s0 o;have sb:=fun o=>cell_of_blk s1 o;go_simp⟩) hHeld ?_
   try simp only [Act.put,List.setIfInBounds_toArray,List.set_cons_zero,List.set_cons_succ,List.getElem_toArray,List.getElem_cons_succ,List.getElem_cons_zero]
   refine wpAnyH_take (i:=5) (v:= .pointer pr) rfl (by kernel_rfl) (by kernel_rfl) (by kernel_rfl) (fun _ _ _ h=>h) (Or.inl ⟨by kernel_rfl,fun w hw=>by obtain ⟨s0,s1⟩:=hw;have sa:=fun o=>cell_of_blk s0 o;have sb:=fun o=>cell_of_blk s1 o;go_simp⟩) hHeld ?_
   try simp only [Act.put,List.setIfInBounds_toArray,List.set_cons_zero,List.set_cons_succ,List.getElem_toArray,List.getElem_cons_succ,List.getElem_cons_zero]
   refine wpAnyH_ready (rs:=[6]) (by kernel_rfl) (by simp) ?_
   refine AllReadyH.cons rfl (fun K hK=> ?_) AllReadyH.nil
   go_simp
   go_wp2_with fail
   refine ((unhide IHR) _ _ _ _ _ _ _ _ (meets x (fFm al l)) _ (((unhide HT2).trans (KT.below (Below.refl w2.heap.size w2).drew)).acts (unhide HA)) ((unhide HF2).later (Below.refl w2.heap.size w2).drew) (((unhide HT2).trans (KT.below (Below.refl w2.heap.size w2).drew)).isF (unhide HRR)) (fun s p h=>(unhide HSZ) s p (Or.inr (Or.inr h)))).mono ?_
   rintro e w3 ⟨rfl,hf3,hg3⟩
   have HF3:=hide hf3
   have HT3:=hide (((unhide HT2).trans (KT.below (Below.refl w2.heap.size w2).drew)).trans (KT.fb ((unhide HF2).later (Below.refl w2.heap.size w2).drew) hg3))
   have HG3:=hide (((unhide HG2).trans (grown_below (Below.refl w2.heap.size w2).drew (some fb))).trans hg3)
   have HX3:=hide ((hg3.block w.heap.size (by first|(simp;done)|(simp;omega)) (by simp;omega)).trans (unhide HX2))
   have HB3:=hide ((hg3.block b (by first|(simp;done)|(simp;omega)) (by simp;omega)).trans (unhide HB2))
   have hz3:w.heap.size<w3.heap.size:=lt_of_blk (unhide HX3)
   have hzb3:b<w3.heap.size:=lt_of_blk (unhide HB3)
   clear hf3 hg3
   refine hK.out _ _ ⟨unhide HX3,unhide HB3⟩ (fun _=> ?_)
   clear hK K hHeld
   refine wpAnyH_done (by kernel_rfl) ?_ _
   go_wp2_with fail
   go_end0
   refine ⟨rfl, ?_,unhide HG3⟩
   rw [unhide HLF,if_neg (unhide H0),List.nil_append,meets_append];exact unhide HF3
end Go.Proofs.YtidakhhekofkoaaGreatDoor
