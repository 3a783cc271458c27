/- The reference's size, act, one, times, takes. -/
import Derived.Test.YtidakhhekofkoaaGreatDoorJ13
import Derived.Test.YtidakhhekofkoaaGreatDoorJ04
import Derived.Deep.TreeCalls
set_option linter.unusedSimpArgs false
namespace Go.Proofs.YtidakhhekofkoaaGreatDoor
open Go.RowKit Go.Deep
set_option maxHeartbeats 400000 in
theorem act_any (s:ByteArray) (w:World):
  Calls Tryz.prog 250 #[.string s] w fun e w'=> ∃v,e= .returned (.pointer v)∧IsF w' (acF s) v∧Below w.heap.size w w':=by
 go_enter Tryz.func250,Tryz.ntmps250
 go_wp2
 go_ret
 exact ⟨_,rfl,⟨w.heap.size,none,none,rfl,blk_alloc _ _,rfl,rfl⟩,(Below.refl _ _).alloc (Nat.le_refl _) _⟩
set_option maxHeartbeats 400000 in
theorem one_any (k:Nat) (c:Int) (f:Fm) (vf:Option Addr) (w:World) (hf:IsF w f vf) (hc:c=refO k):
  Calls Tryz.prog 251 #[.int .u8 c,.pointer vf] w fun e w'=> ∃v,e= .returned (.pointer v)∧IsF w' (one k f) v∧Below w.heap.size w w':=by
 subst hc
 have HF:=hide hf
 clear hf
 go_enter Tryz.func251,Tryz.ntmps251
 go_wp2
 go_ret
 have hb:Below w.heap.size w (w.alloc (.cells #[.int .u8 (refO k),.string ⟨#[]⟩,.int .i64 0,.pointer vf,.pointer none] 292)):=(Below.refl _ _).alloc (Nat.le_refl _) _
 exact ⟨_,rfl,⟨w.heap.size,vf,none,rfl,blk_alloc _ _,(unhide HF).later hb,rfl⟩,hb⟩
theorem IsF.drewN {w:World} {f:Fm} {p:Option Addr} (h:IsF w f p) (n:Nat):IsF (w.drewN n) f p:=by
 induction n with
 |zero=>exact h
 |succ n ih=>exact ih.later (Below.refl _ _).drew
set_option maxHeartbeats 1000000 in
theorem times_any (a:ByteArray): ∀(n:Nat) (w:World),1≤n→n≤9→
  Calls Tryz.prog 253 #[.string a,.int .i64 n] w fun e w'=> ∃v,e= .returned (.pointer v)∧IsF w' (timesF a n) v∧Below w.heap.size w w'
 |0,w,h,_=>by omega
 |1,w,_,_=>by
  go_enter Tryz.func253,Tryz.ntmps253
  go_wp2_with (go_at_call 250;refine (act_any _ _).mono ?_)
  rintro e w1 ⟨v1,rfl,hf1,hb1⟩
  have HF1:=hide hf1
  have HB1:=hide hb1
  clear hf1 hb1
  go_wp2_with (go_at_call 251;refine (one_any 7 _ _ _ _ (unhide HF1) rfl).mono ?_)
  rintro e w2 ⟨v2,rfl,hf2,hb2⟩
  have HF2:=hide hf2
  have HB2:=hide ((unhide HB1).trans (hb2.mono (unhide HB1).size))
  clear hf2 hb2
  go_wp2_with fail
  go_ret
  exact ⟨_,rfl,unhide HF2,unhide HB2⟩
 |n+2,w,_,h9=>by
  have IH:=hide (times_any a (n+1))
  go_enter Tryz.func253,Tryz.ntmps253
  go_wp2_with (go_at_call 250;refine (act_any _ _).mono ?_)
  rintro e w1 ⟨v1,rfl,hf1,hb1⟩
  have HF1:=hide hf1
  have HB1:=hide hb1
  clear hf1 hb1
  go_wp2_with fail
  rw [show ((n:Int)+2 - 1)=((n+1:Nat):Int) from by omega]
  refine ((unhide IH) _ (by omega) (by omega)).mono ?_
  rintro e w2 ⟨v2,rfl,hf2,hb2⟩
  have HF2:=hide hf2
  have Ha2:=hide ((unhide HF1).later hb2)
  have HB2:=hide ((unhide HB1).trans (hb2.mono (unhide HB1).size))
  clear hf2 hb2
  go_wp2_with (go_at_call 251;refine (one_any 5 _ _ _ _ (unhide HF2) rfl).mono ?_)
  rintro e w3 ⟨v3,rfl,hf3,hb3⟩
  have HF3:=hide hf3
  have Ha3:=hide ((unhide Ha2).later hb3)
  have Ht3:=hide ((unhide HF2).later hb3)
  have HB3:=hide ((unhide HB2).trans (hb3.mono (unhide HB2).size))
  clear hf3 hb3
  go_wp2_with (go_at_call 252;refine (two_any 10 _ _ _ _ _ _ (unhide Ha3) (unhide HF3) rfl).mono ?_)
  rintro e w4 ⟨v4,rfl,hf4,hb4⟩
  have HF4:=hide hf4
  have Ha4:=hide ((unhide Ha3).later hb4)
  have Ht4:=hide ((unhide Ht3).later hb4)
  have Hx4:=hide ((unhide HF3).later hb4)
  have HB4:=hide ((unhide HB3).trans (hb4.mono (unhide HB3).size))
  clear hf4 hb4
  go_wp2_with (go_at_call 251;refine (one_any 7 _ _ _ _ (unhide HF4) rfl).mono ?_)
  rintro e w5 ⟨v5,rfl,hf5,hb5⟩
  have HF5:=hide hf5
  have Ha5:=hide ((unhide Ha4).later hb5)
  have Ht5:=hide ((unhide Ht4).later hb5)
  have Hx5:=hide ((unhide Hx4).later hb5)
  have Hy5:=hide ((unhide HF4).later hb5)
  have HB5:=hide ((unhide HB4).trans (hb5.mono (unhide HB4).size))
  clear hf5 hb5
  go_wp2_with fail
  go_ret
  exact ⟨_,rfl,unhide HF5,unhide HB5⟩
set_option maxHeartbeats 1600000 in
set_option maxRecDepth 1000000 in
theorem size_any: ∀(f:Fm) (w:World) (p:Option Addr),IsF w f p→sizeF f≤100000→
  Calls Tryz.prog 178 #[.pointer p] w fun e w'=>e= .returned (.int .i64 (sizeF f))∧ ∃n,w'=w.drewN n
 | .nil,w,p,h,_=>by
  cases (show p=none from h)
  go_enter Tryz.func178,Tryz.ntmps178
  go_wp2_with fail
  go_ret
  exact ⟨rfl,0,rfl⟩
 | .node u v a l r,w,p,h,hs=>by
  obtain ⟨b,pl,pr,rfl,hb,hl,hr⟩:=h
  have IHL:=hide (size_any l)
  have IHR:=hide (size_any r)
  have HL:=hide hl
  have HR:=hide hr
  have hsl:sizeF l≤100000:=by simp only [sizeF] at hs;omega
  have hsr:sizeF r≤100000:=by simp only [sizeF] at hs;omega
  have hss:1+sizeF l+sizeF r≤100000:=hs
  have bc:=fun o=>cell_of_blk hb o
  clear hb hl hr hs
  go_enter Tryz.func178,Tryz.ntmps178
  go_wp2_with fail
  go_quiet (first|(go_at_call_of 178 (Value.pointer pl);refine Calls.quiet_of ((unhide IHL) _ _ ?_ hsl);exact IsF.drewN (unhide HL) _)|(go_at_call_of 178 (Value.pointer pr);refine Calls.quiet_of ((unhide IHR) _ _ ?_ hsr);exact IsF.drewN (unhide HR) _))
  go_wp2_with fail
  go_ret
  exact ⟨ret_int (by simp only [sizeF];omega),nq,rfl⟩
set_option maxHeartbeats 1000000 in
theorem takes_any (s : ByteArray) (w : World) :
    Calls Tryz.prog 203 #[.string s] w fun e w' => e = .returned (.tuple #[.string ⟨(tplTakes (tplNo s.toList)).toArray⟩, .bool (decide (tplNo s.toList ≤ 11))]) ∧ w' = w := by
  go_enter Tryz.func203, Tryz.ntmps203
  go_wp2
  all_goals
    go_ret2
    refine ⟨?_, rfl⟩
  all_goals first
    | (have h : s.toList = [105, 110, 105, 116] := by first | assumption | (exact eq_of_beq (by assumption))
       rw [h]; rfl)
    | (have h : s.toList = [108, 97, 115, 116] := by first | assumption | (exact eq_of_beq (by assumption))
       rw [h]; rfl)
    | (have h : s.toList = [115, 111, 109, 101] := by first | assumption | (exact eq_of_beq (by assumption))
       rw [h]; rfl)
    | (have h : s.toList = [102, 101, 119] := by first | assumption | (exact eq_of_beq (by assumption))
       rw [h]; rfl)
    | (have h : s.toList = [114, 101, 115, 112, 111, 110, 115, 101] := by first | assumption | (exact eq_of_beq (by assumption))
       rw [h]; rfl)
    | (have h : s.toList = [112, 114, 101, 99, 101, 100, 101] := by first | assumption | (exact eq_of_beq (by assumption))
       rw [h]; rfl)
    | (have h : s.toList = [99, 104, 97, 105, 110] := by first | assumption | (exact eq_of_beq (by assumption))
       rw [h]; rfl)
    | (have h : s.toList = [98, 101, 102, 111, 114, 101] := by first | assumption | (exact eq_of_beq (by assumption))
       rw [h]; rfl)
    | (have h : s.toList = [119, 105, 116, 104] := by first | assumption | (exact eq_of_beq (by assumption))
       rw [h]; rfl)
    | (have h : s.toList = [97, 112, 97, 114, 116] := by first | assumption | (exact eq_of_beq (by assumption))
       rw [h]; rfl)
    | (have h : s.toList = [110, 101, 118, 101, 114] := by first | assumption | (exact eq_of_beq (by assumption))
       rw [h]; rfl)
    | (have h : s.toList = [110, 111, 116, 110, 101, 120, 116] := by first | assumption | (exact eq_of_beq (by assumption))
       rw [h]; rfl)
    | (have hn : tplNo s.toList = 12 := by simp_all [tplNo]
       rw [hn]; rfl)
def digitN (s:ByteArray):Nat:=match s.data.toList with|c::_=>c.toNat - 48|[]=>0
set_option maxHeartbeats 2000000 in
theorem stands_0 (w:World) (a b:Int) (s:ByteArray) (c:Int) (o:Option Addr) (n k:Nat) (d:Int) (p:Option Addr) (x:Tk) (ha:ActsAre w o n k [x]) (hw:s.toList=[105,110,105,116]):
  Calls Tryz.prog 204 #[rlV a b s c o n k d p] w fun e w'=> ∃v,e= .returned (.pointer v)∧IsF w' (tplF 0 x.s ByteArray.empty 0) v∧Below w.heap.size w w':=by
 obtain ⟨g,hgo,hg,_,t0,t1,t2⟩:=ha.tok (i:=0) (t:=x) (r:=[]) rfl
 subst hgo
 have hn:n=1:=ha.len
 subst hn
 clear ha
 simp only [rlV]
 have e0:(s.toList==[105,110,105,116])=true:=by rw [hw];decide
 clear hw
 simp at t0 t1 t2
 go_enter Tryz.func204,Tryz.ntmps204
 go_wp2_with (go_at_call 250;refine (act_any _ _).mono ?_)
 rintro e w1 ⟨v1,rfl,hf1,hb1⟩
 have HF1:=hide hf1
 have HB1:=hide (((Below.refl w.heap.size w).alloc (Nat.le_refl _) _).trans (hb1.mono (by simp)))
 have HX1:=hide ((hb1.block w.heap.size (by simp)).trans (blk_alloc _ _))
 have hz1:w.heap.size<w1.heap.size:=lt_of_blk (unhide HX1)
 clear hf1 hb1
 go_wp2_with (go_at_call 250;refine (act_any _ _).mono ?_)
 rintro e w2 ⟨v2,rfl,hf2,hb2⟩
 have HF2:=hide hf2
 have Hx2:=hide ((unhide HF1).later hb2)
 have HB2:=hide ((unhide HB1).trans (hb2.mono (unhide HB1).size))
 have HX2:=hide ((hb2.block w.heap.size hz1).trans (unhide HX1))
 have hz2:w.heap.size<w2.heap.size:=lt_of_blk (unhide HX2)
 clear hf2 hb2
 have xc:=fun o=>cell_of_blk (unhide HX2) o
 go_wp2_with fail
 go_ret
 exact ⟨_,rfl,unhide Hx2,unhide HB2⟩
set_option maxHeartbeats 2000000 in
theorem stands_1 (w:World) (a b:Int) (s:ByteArray) (c:Int) (o:Option Addr) (n k:Nat) (d:Int) (p:Option Addr) (x:Tk) (ha:ActsAre w o n k [x]) (hw:s.toList=[108,97,115,116]):
  Calls Tryz.prog 204 #[rlV a b s c o n k d p] w fun e w'=> ∃v,e= .returned (.pointer v)∧IsF w' (tplF 1 x.s ByteArray.empty 0) v∧Below w.heap.size w w':=by
 obtain ⟨g,hgo,hg,_,t0,t1,t2⟩:=ha.tok (i:=0) (t:=x) (r:=[]) rfl
 subst hgo
 have hn:n=1:=ha.len
 subst hn
 clear ha
 simp only [rlV]
 have e0:(s.toList==[105,110,105,116])=false:=by rw [hw];decide
 have e1:(s.toList==[108,97,115,116])=true:=by rw [hw];decide
 clear hw
 simp at t0 t1 t2
 go_enter Tryz.func204,Tryz.ntmps204
 go_wp2_with (go_at_call 250;refine (act_any _ _).mono ?_)
 rintro e w1 ⟨v1,rfl,hf1,hb1⟩
 have HF1:=hide hf1
 have HB1:=hide (((Below.refl w.heap.size w).alloc (Nat.le_refl _) _).trans (hb1.mono (by simp)))
 have HX1:=hide ((hb1.block w.heap.size (by simp)).trans (blk_alloc _ _))
 have hz1:w.heap.size<w1.heap.size:=lt_of_blk (unhide HX1)
 clear hf1 hb1
 go_wp2_with (go_at_call 250;refine (act_any _ _).mono ?_)
 rintro e w2 ⟨v2,rfl,hf2,hb2⟩
 have HF2:=hide hf2
 have Hx2:=hide ((unhide HF1).later hb2)
 have HB2:=hide ((unhide HB1).trans (hb2.mono (unhide HB1).size))
 have HX2:=hide ((hb2.block w.heap.size hz1).trans (unhide HX1))
 have hz2:w.heap.size<w2.heap.size:=lt_of_blk (unhide HX2)
 clear hf2 hb2
 have xc:=fun o=>cell_of_blk (unhide HX2) o
 have HLF:=hide (show IsF (w2.alloc (.cells #[.int .u8 116,.string ⟨#[]⟩,.int .i64 0,.pointer none,.pointer none] 292)) (leaf 1 ByteArray.empty 0) (some ⟨w2.heap.size,0,none⟩) from ⟨w2.heap.size,none,none,rfl,blk_alloc _ _,rfl,rfl⟩)
 have HXA:=hide ((unhide Hx2).later ((Below.refl w2.heap.size w2).alloc (Nat.le_refl _) (.cells #[.int .u8 116,.string ⟨#[]⟩,.int .i64 0,.pointer none,.pointer none] 292)))
 have HBA:=hide ((unhide HB2).alloc (unhide HB2).size (.cells #[.int .u8 116,.string ⟨#[]⟩,.int .i64 0,.pointer none,.pointer none] 292))
 go_wp2_with (go_at_call 251;refine (one_any 5 _ _ _ _ (unhide HLF) rfl).mono ?_)
 rintro e w3 ⟨v3,rfl,hf3,hb3⟩
 have HF3:=hide hf3
 have Hx3:=hide ((unhide HXA).later hb3)
 have HB3:=hide ((unhide HBA).trans (hb3.mono (unhide HBA).size))
 clear hf3 hb3
 go_wp2_with (go_at_call 251;refine (one_any 4 _ _ _ _ (unhide HF3) rfl).mono ?_)
 rintro e w4 ⟨v4,rfl,hf4,hb4⟩
 have HF4:=hide hf4
 have Hx4:=hide ((unhide Hx3).later hb4)
 have Hp4:=hide ((unhide HF3).later hb4)
 have HB4:=hide ((unhide HB3).trans (hb4.mono (unhide HB3).size))
 clear hf4 hb4
 go_wp2_with (go_at_call 252;refine (two_any 10 _ _ _ _ _ _ (unhide Hx4) (unhide HF4) rfl).mono ?_)
 rintro e w5 ⟨v5,rfl,hf5,hb5⟩
 have HF5:=hide hf5
 have Hx5:=hide ((unhide Hx4).later hb5)
 have Hp5:=hide ((unhide Hp4).later hb5)
 have Hq5:=hide ((unhide HF4).later hb5)
 have HB5:=hide ((unhide HB4).trans (hb5.mono (unhide HB4).size))
 clear hf5 hb5
 go_wp2_with (go_at_call 251;refine (one_any 7 _ _ _ _ (unhide HF5) rfl).mono ?_)
 rintro e w6 ⟨v6,rfl,hf6,hb6⟩
 have HF6:=hide hf6
 have Hx6:=hide ((unhide Hx5).later hb6)
 have Hp6:=hide ((unhide Hp5).later hb6)
 have Hq6:=hide ((unhide Hq5).later hb6)
 have Ht6:=hide ((unhide HF5).later hb6)
 have HB6:=hide ((unhide HB5).trans (hb6.mono (unhide HB5).size))
 clear hf6 hb6
 go_wp2_with fail
 go_ret
 exact ⟨_,rfl,unhide HF6,unhide HB6⟩
set_option maxHeartbeats 2000000 in
theorem stands_2 (w:World) (a b:Int) (s:ByteArray) (c:Int) (o:Option Addr) (n k:Nat) (d:Int) (p:Option Addr) (x y:Tk) (ha:ActsAre w o n k [x,y]) (hw:s.toList=[115,111,109,101]) (hd: ∃c:UInt8,y.s=⟨#[c]⟩∧49≤c.toNat∧c.toNat≤57):
  Calls Tryz.prog 204 #[rlV a b s c o n k d p] w fun e w'=> ∃v,e= .returned (.pointer v)∧IsF w' (tplF 2 x.s y.s (digitN y.s)) v∧Below w.heap.size w w':=by
 obtain ⟨yk,ys,yp⟩:=y
 obtain ⟨ch,hys,hc1,hc2⟩:=hd
 dsimp only at hys
 subst hys
 have hdn:digitN (⟨#[ch]⟩:ByteArray)=ch.toNat - 48:=rfl
 show Calls _ _ _ _ fun e w'=> ∃v,e= .returned (.pointer v)∧IsF w' (tplF 2 x.s ⟨#[ch]⟩ (digitN ⟨#[ch]⟩)) v∧Below w.heap.size w w'
 rw [hdn]
 obtain ⟨g,hgo,hg,_,t0,t1,t2⟩:=ha.tok (i:=0) (t:=x) (r:=[⟨yk,⟨#[ch]⟩,yp⟩]) rfl
 subst hgo
 obtain ⟨g',hgo,_,_,u0,u1,u2⟩:=ha.tok (i:=1) (t:=⟨yk,⟨#[ch]⟩,yp⟩) (r:=[]) rfl
 cases hgo
 have hn:n=2:=ha.len
 subst hn
 clear ha
 simp only [rlV]
 have e0:(s.toList==[105,110,105,116])=false:=by rw [hw];decide
 have e1:(s.toList==[108,97,115,116])=false:=by rw [hw];decide
 have e2:(s.toList==[115,111,109,101])=true:=by rw [hw];decide
 clear hw
 simp at t0 t1 t2 u0 u1 u2
 go_enter Tryz.func204,Tryz.ntmps204
 go_wp2_with (go_at_call 250;refine (act_any _ _).mono ?_)
 rintro e w1 ⟨v1,rfl,hf1,hb1⟩
 have HF1:=hide hf1
 have HB1:=hide (((Below.refl w.heap.size w).alloc (Nat.le_refl _) _).trans (hb1.mono (by simp)))
 have HX1:=hide ((hb1.block w.heap.size (by simp)).trans (blk_alloc _ _))
 have hz1:w.heap.size<w1.heap.size:=lt_of_blk (unhide HX1)
 clear hf1 hb1
 go_wp2_with (go_at_call 250;refine (act_any _ _).mono ?_)
 rintro e w2 ⟨v2,rfl,hf2,hb2⟩
 have HF2:=hide hf2
 have Hx2:=hide ((unhide HF1).later hb2)
 have HB2:=hide ((unhide HB1).trans (hb2.mono (unhide HB1).size))
 have HX2:=hide ((hb2.block w.heap.size hz1).trans (unhide HX1))
 have hz2:w.heap.size<w2.heap.size:=lt_of_blk (unhide HX2)
 clear hf2 hb2
 have xc:=fun o=>cell_of_blk (unhide HX2) o
 go_wp2_with fail
 have hnum:((((⟨#[ch]⟩:ByteArray)[0]'(show 0<1 by decide)).toNat:Int) - 48)%256=((ch.toNat - 48:Nat):Int):=by show ((ch.toNat:Int) - 48)%256=_;omega
 rw [hnum]
 refine (times_any _ (ch.toNat - 48) _ (by omega) (by omega)).mono ?_
 rintro e w3 ⟨v3,rfl,hf3,hb3⟩
 have HF3:=hide hf3
 have Hx3:=hide ((unhide Hx2).later hb3)
 have Hy3:=hide ((unhide HF2).later hb3)
 have HB3:=hide ((unhide HB2).trans (hb3.mono (unhide HB2).size))
 clear hf3 hb3
 go_wp2_with fail
 go_ret
 exact ⟨_,rfl,unhide HF3,unhide HB3⟩
set_option maxHeartbeats 2000000 in
theorem stands_3 (w:World) (a b:Int) (s:ByteArray) (c:Int) (o:Option Addr) (n k:Nat) (d:Int) (p:Option Addr) (x y:Tk) (ha:ActsAre w o n k [x,y]) (hw:s.toList=[102,101,119]) (hd: ∃c:UInt8,y.s=⟨#[c]⟩∧49≤c.toNat∧c.toNat≤57):
  Calls Tryz.prog 204 #[rlV a b s c o n k d p] w fun e w'=> ∃v,e= .returned (.pointer v)∧IsF w' (tplF 3 x.s y.s (digitN y.s)) v∧Below w.heap.size w w':=by
 obtain ⟨yk,ys,yp⟩:=y
 obtain ⟨ch,hys,hc1,hc2⟩:=hd
 dsimp only at hys
 subst hys
 have hdn:digitN (⟨#[ch]⟩:ByteArray)=ch.toNat - 48:=rfl
 show Calls _ _ _ _ fun e w'=> ∃v,e= .returned (.pointer v)∧IsF w' (tplF 3 x.s ⟨#[ch]⟩ (digitN ⟨#[ch]⟩)) v∧Below w.heap.size w w'
 rw [hdn]
 obtain ⟨g,hgo,hg,_,t0,t1,t2⟩:=ha.tok (i:=0) (t:=x) (r:=[⟨yk,⟨#[ch]⟩,yp⟩]) rfl
 subst hgo
 obtain ⟨g',hgo,_,_,u0,u1,u2⟩:=ha.tok (i:=1) (t:=⟨yk,⟨#[ch]⟩,yp⟩) (r:=[]) rfl
 cases hgo
 have hn:n=2:=ha.len
 subst hn
 clear ha
 simp only [rlV]
 have e0:(s.toList==[105,110,105,116])=false:=by rw [hw];decide
 have e1:(s.toList==[108,97,115,116])=false:=by rw [hw];decide
 have e2:(s.toList==[115,111,109,101])=false:=by rw [hw];decide
 have e3:(s.toList==[102,101,119])=true:=by rw [hw];decide
 clear hw
 simp at t0 t1 t2 u0 u1 u2
 go_enter Tryz.func204,Tryz.ntmps204
 go_wp2_with (go_at_call 250;refine (act_any _ _).mono ?_)
 rintro e w1 ⟨v1,rfl,hf1,hb1⟩
 have HF1:=hide hf1
 have HB1:=hide (((Below.refl w.heap.size w).alloc (Nat.le_refl _) _).trans (hb1.mono (by simp)))
 have HX1:=hide ((hb1.block w.heap.size (by simp)).trans (blk_alloc _ _))
 have hz1:w.heap.size<w1.heap.size:=lt_of_blk (unhide HX1)
 clear hf1 hb1
 go_wp2_with (go_at_call 250;refine (act_any _ _).mono ?_)
 rintro e w2 ⟨v2,rfl,hf2,hb2⟩
 have HF2:=hide hf2
 have Hx2:=hide ((unhide HF1).later hb2)
 have HB2:=hide ((unhide HB1).trans (hb2.mono (unhide HB1).size))
 have HX2:=hide ((hb2.block w.heap.size hz1).trans (unhide HX1))
 have hz2:w.heap.size<w2.heap.size:=lt_of_blk (unhide HX2)
 clear hf2 hb2
 have xc:=fun o=>cell_of_blk (unhide HX2) o
 go_wp2_with fail
 have hnum:((((⟨#[ch]⟩:ByteArray)[0]'(show 0<1 by decide)).toNat:Int) - 48)%256=((ch.toNat - 48:Nat):Int):=by show ((ch.toNat:Int) - 48)%256=_;omega
 rw [hnum]
 refine (times_any _ (ch.toNat - 48) _ (by omega) (by omega)).mono ?_
 rintro e w3 ⟨v3,rfl,hf3,hb3⟩
 have HF3:=hide hf3
 have Hx3:=hide ((unhide Hx2).later hb3)
 have Hy3:=hide ((unhide HF2).later hb3)
 have HB3:=hide ((unhide HB2).trans (hb3.mono (unhide HB2).size))
 clear hf3 hb3
 go_wp2_with (go_at_call 251;refine (one_any 4 _ _ _ _ (unhide HF3) rfl).mono ?_)
 rintro e w4 ⟨v4,rfl,hf4,hb4⟩
 have HF4:=hide hf4
 have Hx4:=hide ((unhide Hx3).later hb4)
 have Hy4:=hide ((unhide Hy3).later hb4)
 have Ht4:=hide ((unhide HF3).later hb4)
 have HB4:=hide ((unhide HB3).trans (hb4.mono (unhide HB3).size))
 clear hf4 hb4
 go_wp2_with fail
 go_ret
 exact ⟨_,rfl,unhide HF4,unhide HB4⟩
set_option maxHeartbeats 2000000 in
theorem stands_4 (w:World) (a b:Int) (s:ByteArray) (c:Int) (o:Option Addr) (n k:Nat) (d:Int) (p:Option Addr) (x y:Tk) (ha:ActsAre w o n k [x,y]) (hw:s.toList=[114,101,115,112,111,110,115,101]):
  Calls Tryz.prog 204 #[rlV a b s c o n k d p] w fun e w'=> ∃v,e= .returned (.pointer v)∧IsF w' (tplF 4 x.s y.s 0) v∧Below w.heap.size w w':=by
 obtain ⟨g,hgo,hg,_,t0,t1,t2⟩:=ha.tok (i:=0) (t:=x) (r:=[y]) rfl
 subst hgo
 obtain ⟨g',hgo,_,_,u0,u1,u2⟩:=ha.tok (i:=1) (t:=y) (r:=[]) rfl
 cases hgo
 have hn:n=2:=ha.len
 subst hn
 clear ha
 simp only [rlV]
 have e0:(s.toList==[105,110,105,116])=false:=by rw [hw];decide
 have e1:(s.toList==[108,97,115,116])=false:=by rw [hw];decide
 have e2:(s.toList==[115,111,109,101])=false:=by rw [hw];decide
 have e3:(s.toList==[102,101,119])=false:=by rw [hw];decide
 have e4:(s.toList==[114,101,115,112,111,110,115,101])=true:=by rw [hw];decide
 clear hw
 simp at t0 t1 t2 u0 u1 u2
 go_enter Tryz.func204,Tryz.ntmps204
 go_wp2_with (go_at_call 250;refine (act_any _ _).mono ?_)
 rintro e w1 ⟨v1,rfl,hf1,hb1⟩
 have HF1:=hide hf1
 have HB1:=hide (((Below.refl w.heap.size w).alloc (Nat.le_refl _) _).trans (hb1.mono (by simp)))
 have HX1:=hide ((hb1.block w.heap.size (by simp)).trans (blk_alloc _ _))
 have hz1:w.heap.size<w1.heap.size:=lt_of_blk (unhide HX1)
 clear hf1 hb1
 go_wp2_with (go_at_call 250;refine (act_any _ _).mono ?_)
 rintro e w2 ⟨v2,rfl,hf2,hb2⟩
 have HF2:=hide hf2
 have Hx2:=hide ((unhide HF1).later hb2)
 have HB2:=hide ((unhide HB1).trans (hb2.mono (unhide HB1).size))
 have HX2:=hide ((hb2.block w.heap.size hz1).trans (unhide HX1))
 have hz2:w.heap.size<w2.heap.size:=lt_of_blk (unhide HX2)
 clear hf2 hb2
 have xc:=fun o=>cell_of_blk (unhide HX2) o
 go_wp2_with (go_at_call 251;refine (one_any 7 _ _ _ _ (unhide HF2) rfl).mono ?_)
 rintro e w3 ⟨v3,rfl,hf3,hb3⟩
 have HF3:=hide hf3
 have Hx3:=hide ((unhide Hx2).later hb3)
 have Hy3:=hide ((unhide HF2).later hb3)
 have HB3:=hide ((unhide HB2).trans (hb3.mono (unhide HB2).size))
 clear hf3 hb3
 go_wp2_with (go_at_call 252;refine (two_any 12 _ _ _ _ _ _ (unhide Hx3) (unhide HF3) rfl).mono ?_)
 rintro e w4 ⟨v4,rfl,hf4,hb4⟩
 have HF4:=hide hf4
 have Hx4:=hide ((unhide Hx3).later hb4)
 have Hy4:=hide ((unhide Hy3).later hb4)
 have Hp4:=hide ((unhide HF3).later hb4)
 have HB4:=hide ((unhide HB3).trans (hb4.mono (unhide HB3).size))
 clear hf4 hb4
 go_wp2_with (go_at_call 251;refine (one_any 8 _ _ _ _ (unhide HF4) rfl).mono ?_)
 rintro e w5 ⟨v5,rfl,hf5,hb5⟩
 have HF5:=hide hf5
 have Hx5:=hide ((unhide Hx4).later hb5)
 have Hy5:=hide ((unhide Hy4).later hb5)
 have Hp5:=hide ((unhide Hp4).later hb5)
 have Hq5:=hide ((unhide HF4).later hb5)
 have HB5:=hide ((unhide HB4).trans (hb5.mono (unhide HB4).size))
 clear hf5 hb5
 go_wp2_with fail
 go_ret
 exact ⟨_,rfl,unhide HF5,unhide HB5⟩
set_option maxHeartbeats 2000000 in
theorem stands_5 (w:World) (a b:Int) (s:ByteArray) (c:Int) (o:Option Addr) (n k:Nat) (d:Int) (p:Option Addr) (x y:Tk) (ha:ActsAre w o n k [x,y]) (hw:s.toList=[112,114,101,99,101,100,101]):
  Calls Tryz.prog 204 #[rlV a b s c o n k d p] w fun e w'=> ∃v,e= .returned (.pointer v)∧IsF w' (tplF 5 x.s y.s 0) v∧Below w.heap.size w w':=by
 obtain ⟨g,hgo,hg,_,t0,t1,t2⟩:=ha.tok (i:=0) (t:=x) (r:=[y]) rfl
 subst hgo
 obtain ⟨g',hgo,_,_,u0,u1,u2⟩:=ha.tok (i:=1) (t:=y) (r:=[]) rfl
 cases hgo
 have hn:n=2:=ha.len
 subst hn
 clear ha
 simp only [rlV]
 have e0:(s.toList==[105,110,105,116])=false:=by rw [hw];decide
 have e1:(s.toList==[108,97,115,116])=false:=by rw [hw];decide
 have e2:(s.toList==[115,111,109,101])=false:=by rw [hw];decide
 have e3:(s.toList==[102,101,119])=false:=by rw [hw];decide
 have e4:(s.toList==[114,101,115,112,111,110,115,101])=false:=by rw [hw];decide
 have e5:(s.toList==[112,114,101,99,101,100,101])=true:=by rw [hw];decide
 clear hw
 simp at t0 t1 t2 u0 u1 u2
 go_enter Tryz.func204,Tryz.ntmps204
 go_wp2_with (go_at_call 250;refine (act_any _ _).mono ?_)
 rintro e w1 ⟨v1,rfl,hf1,hb1⟩
 have HF1:=hide hf1
 have HB1:=hide (((Below.refl w.heap.size w).alloc (Nat.le_refl _) _).trans (hb1.mono (by simp)))
 have HX1:=hide ((hb1.block w.heap.size (by simp)).trans (blk_alloc _ _))
 have hz1:w.heap.size<w1.heap.size:=lt_of_blk (unhide HX1)
 clear hf1 hb1
 go_wp2_with (go_at_call 250;refine (act_any _ _).mono ?_)
 rintro e w2 ⟨v2,rfl,hf2,hb2⟩
 have HF2:=hide hf2
 have Hx2:=hide ((unhide HF1).later hb2)
 have HB2:=hide ((unhide HB1).trans (hb2.mono (unhide HB1).size))
 have HX2:=hide ((hb2.block w.heap.size hz1).trans (unhide HX1))
 have hz2:w.heap.size<w2.heap.size:=lt_of_blk (unhide HX2)
 clear hf2 hb2
 have xc:=fun o=>cell_of_blk (unhide HX2) o
 go_wp2_with (go_at_call 251;refine (one_any 4 _ _ _ _ (unhide HF2) rfl).mono ?_)
 rintro e w3 ⟨v3,rfl,hf3,hb3⟩
 have HF3:=hide hf3
 have Hx3:=hide ((unhide Hx2).later hb3)
 have Hy3:=hide ((unhide HF2).later hb3)
 have HB3:=hide ((unhide HB2).trans (hb3.mono (unhide HB2).size))
 clear hf3 hb3
 go_wp2_with (go_at_call 252;refine (two_any 9 _ _ _ _ _ _ (unhide HF3) (unhide Hx3) rfl).mono ?_)
 rintro e w4 ⟨v4,rfl,hf4,hb4⟩
 have HF4:=hide hf4
 have Hx4:=hide ((unhide Hx3).later hb4)
 have Hy4:=hide ((unhide Hy3).later hb4)
 have Hp4:=hide ((unhide HF3).later hb4)
 have HB4:=hide ((unhide HB3).trans (hb4.mono (unhide HB3).size))
 clear hf4 hb4
 go_wp2_with (go_at_call 250;refine (act_any _ _).mono ?_)
 rintro e w5 ⟨v5,rfl,hf5,hb5⟩
 have HF5:=hide hf5
 have Hx5:=hide ((unhide Hx4).later hb5)
 have Hy5:=hide ((unhide Hy4).later hb5)
 have Hp5:=hide ((unhide Hp4).later hb5)
 have Hq5:=hide ((unhide HF4).later hb5)
 have HB5:=hide ((unhide HB4).trans (hb5.mono (unhide HB4).size))
 clear hf5 hb5
 go_wp2_with (go_at_call 251;refine (one_any 4 _ _ _ _ (unhide HF5) rfl).mono ?_)
 rintro e w6 ⟨v6,rfl,hf6,hb6⟩
 have HF6:=hide hf6
 have Hx6:=hide ((unhide Hx5).later hb6)
 have Hy6:=hide ((unhide Hy5).later hb6)
 have Hp6:=hide ((unhide Hp5).later hb6)
 have Hq6:=hide ((unhide Hq5).later hb6)
 have Hz6:=hide ((unhide HF5).later hb6)
 have HB6:=hide ((unhide HB5).trans (hb6.mono (unhide HB5).size))
 clear hf6 hb6
 go_wp2_with (go_at_call 251;refine (one_any 8 _ _ _ _ (unhide HF6) rfl).mono ?_)
 rintro e w7 ⟨v7,rfl,hf7,hb7⟩
 have HF7:=hide hf7
 have Hx7:=hide ((unhide Hx6).later hb7)
 have Hy7:=hide ((unhide Hy6).later hb7)
 have Hp7:=hide ((unhide Hp6).later hb7)
 have Hq7:=hide ((unhide Hq6).later hb7)
 have Hz7:=hide ((unhide Hz6).later hb7)
 have Ht7:=hide ((unhide HF6).later hb7)
 have HB7:=hide ((unhide HB6).trans (hb7.mono (unhide HB6).size))
 clear hf7 hb7
 go_wp2_with (go_at_call 252;refine (two_any 11 _ _ _ _ _ _ (unhide Hq7) (unhide HF7) rfl).mono ?_)
 rintro e w8 ⟨v8,rfl,hf8,hb8⟩
 have HF8:=hide hf8
 have Hx8:=hide ((unhide Hx7).later hb8)
 have Hy8:=hide ((unhide Hy7).later hb8)
 have Hp8:=hide ((unhide Hp7).later hb8)
 have Hq8:=hide ((unhide Hq7).later hb8)
 have Hz8:=hide ((unhide Hz7).later hb8)
 have Ht8:=hide ((unhide Ht7).later hb8)
 have Hu8:=hide ((unhide HF7).later hb8)
 have HB8:=hide ((unhide HB7).trans (hb8.mono (unhide HB7).size))
 clear hf8 hb8
 go_wp2_with fail
 go_ret
 exact ⟨_,rfl,unhide HF8,unhide HB8⟩
set_option maxHeartbeats 2000000 in
theorem stands_6 (w:World) (a b:Int) (s:ByteArray) (c:Int) (o:Option Addr) (n k:Nat) (d:Int) (p:Option Addr) (x y:Tk) (ha:ActsAre w o n k [x,y]) (hw:s.toList=[99,104,97,105,110]):
  Calls Tryz.prog 204 #[rlV a b s c o n k d p] w fun e w'=> ∃v,e= .returned (.pointer v)∧IsF w' (tplF 6 x.s y.s 0) v∧Below w.heap.size w w':=by
 obtain ⟨g,hgo,hg,_,t0,t1,t2⟩:=ha.tok (i:=0) (t:=x) (r:=[y]) rfl
 subst hgo
 obtain ⟨g',hgo,_,_,u0,u1,u2⟩:=ha.tok (i:=1) (t:=y) (r:=[]) rfl
 cases hgo
 have hn:n=2:=ha.len
 subst hn
 clear ha
 simp only [rlV]
 have e0:(s.toList==[105,110,105,116])=false:=by rw [hw];decide
 have e1:(s.toList==[108,97,115,116])=false:=by rw [hw];decide
 have e2:(s.toList==[115,111,109,101])=false:=by rw [hw];decide
 have e3:(s.toList==[102,101,119])=false:=by rw [hw];decide
 have e4:(s.toList==[114,101,115,112,111,110,115,101])=false:=by rw [hw];decide
 have e5:(s.toList==[112,114,101,99,101,100,101])=false:=by rw [hw];decide
 have e6:(s.toList==[99,104,97,105,110])=true:=by rw [hw];decide
 clear hw
 simp at t0 t1 t2 u0 u1 u2
 go_enter Tryz.func204,Tryz.ntmps204
 go_wp2_with (go_at_call 250;refine (act_any _ _).mono ?_)
 rintro e w1 ⟨v1,rfl,hf1,hb1⟩
 have HF1:=hide hf1
 have HB1:=hide (((Below.refl w.heap.size w).alloc (Nat.le_refl _) _).trans (hb1.mono (by simp)))
 have HX1:=hide ((hb1.block w.heap.size (by simp)).trans (blk_alloc _ _))
 have hz1:w.heap.size<w1.heap.size:=lt_of_blk (unhide HX1)
 clear hf1 hb1
 go_wp2_with (go_at_call 250;refine (act_any _ _).mono ?_)
 rintro e w2 ⟨v2,rfl,hf2,hb2⟩
 have HF2:=hide hf2
 have Hx2:=hide ((unhide HF1).later hb2)
 have HB2:=hide ((unhide HB1).trans (hb2.mono (unhide HB1).size))
 have HX2:=hide ((hb2.block w.heap.size hz1).trans (unhide HX1))
 have hz2:w.heap.size<w2.heap.size:=lt_of_blk (unhide HX2)
 clear hf2 hb2
 have xc:=fun o=>cell_of_blk (unhide HX2) o
 go_wp2_with (go_at_call 251;refine (one_any 5 _ _ _ _ (unhide HF2) rfl).mono ?_)
 rintro e w3 ⟨v3,rfl,hf3,hb3⟩
 have HF3:=hide hf3
 have Hx3:=hide ((unhide Hx2).later hb3)
 have Hy3:=hide ((unhide HF2).later hb3)
 have HB3:=hide ((unhide HB2).trans (hb3.mono (unhide HB2).size))
 clear hf3 hb3
 go_wp2_with (go_at_call 252;refine (two_any 12 _ _ _ _ _ _ (unhide Hx3) (unhide HF3) rfl).mono ?_)
 rintro e w4 ⟨v4,rfl,hf4,hb4⟩
 have HF4:=hide hf4
 have Hx4:=hide ((unhide Hx3).later hb4)
 have Hy4:=hide ((unhide Hy3).later hb4)
 have Hp4:=hide ((unhide HF3).later hb4)
 have HB4:=hide ((unhide HB3).trans (hb4.mono (unhide HB3).size))
 clear hf4 hb4
 go_wp2_with (go_at_call 251;refine (one_any 8 _ _ _ _ (unhide HF4) rfl).mono ?_)
 rintro e w5 ⟨v5,rfl,hf5,hb5⟩
 have HF5:=hide hf5
 have Hx5:=hide ((unhide Hx4).later hb5)
 have Hy5:=hide ((unhide Hy4).later hb5)
 have Hp5:=hide ((unhide Hp4).later hb5)
 have Hq5:=hide ((unhide HF4).later hb5)
 have HB5:=hide ((unhide HB4).trans (hb5.mono (unhide HB4).size))
 clear hf5 hb5
 go_wp2_with fail
 go_ret
 exact ⟨_,rfl,unhide HF5,unhide HB5⟩
set_option maxHeartbeats 2000000 in
theorem stands_7 (w:World) (a b:Int) (s:ByteArray) (c:Int) (o:Option Addr) (n k:Nat) (d:Int) (p:Option Addr) (x y:Tk) (ha:ActsAre w o n k [x,y]) (hw:s.toList=[98,101,102,111,114,101]):
  Calls Tryz.prog 204 #[rlV a b s c o n k d p] w fun e w'=> ∃v,e= .returned (.pointer v)∧IsF w' (tplF 7 x.s y.s 0) v∧Below w.heap.size w w':=by
 obtain ⟨g,hgo,hg,_,t0,t1,t2⟩:=ha.tok (i:=0) (t:=x) (r:=[y]) rfl
 subst hgo
 obtain ⟨g',hgo,_,_,u0,u1,u2⟩:=ha.tok (i:=1) (t:=y) (r:=[]) rfl
 cases hgo
 have hn:n=2:=ha.len
 subst hn
 clear ha
 simp only [rlV]
 have e0:(s.toList==[105,110,105,116])=false:=by rw [hw];decide
 have e1:(s.toList==[108,97,115,116])=false:=by rw [hw];decide
 have e2:(s.toList==[115,111,109,101])=false:=by rw [hw];decide
 have e3:(s.toList==[102,101,119])=false:=by rw [hw];decide
 have e4:(s.toList==[114,101,115,112,111,110,115,101])=false:=by rw [hw];decide
 have e5:(s.toList==[112,114,101,99,101,100,101])=false:=by rw [hw];decide
 have e6:(s.toList==[99,104,97,105,110])=false:=by rw [hw];decide
 have e7:(s.toList==[98,101,102,111,114,101])=true:=by rw [hw];decide
 clear hw
 simp at t0 t1 t2 u0 u1 u2
 go_enter Tryz.func204,Tryz.ntmps204
 go_wp2_with (go_at_call 250;refine (act_any _ _).mono ?_)
 rintro e w1 ⟨v1,rfl,hf1,hb1⟩
 have HF1:=hide hf1
 have HB1:=hide (((Below.refl w.heap.size w).alloc (Nat.le_refl _) _).trans (hb1.mono (by simp)))
 have HX1:=hide ((hb1.block w.heap.size (by simp)).trans (blk_alloc _ _))
 have hz1:w.heap.size<w1.heap.size:=lt_of_blk (unhide HX1)
 clear hf1 hb1
 go_wp2_with (go_at_call 250;refine (act_any _ _).mono ?_)
 rintro e w2 ⟨v2,rfl,hf2,hb2⟩
 have HF2:=hide hf2
 have Hx2:=hide ((unhide HF1).later hb2)
 have HB2:=hide ((unhide HB1).trans (hb2.mono (unhide HB1).size))
 have HX2:=hide ((hb2.block w.heap.size hz1).trans (unhide HX1))
 have hz2:w.heap.size<w2.heap.size:=lt_of_blk (unhide HX2)
 clear hf2 hb2
 have xc:=fun o=>cell_of_blk (unhide HX2) o
 go_wp2_with (go_at_call 251;refine (one_any 4 _ _ _ _ (unhide HF2) rfl).mono ?_)
 rintro e w3 ⟨v3,rfl,hf3,hb3⟩
 have HF3:=hide hf3
 have Hx3:=hide ((unhide Hx2).later hb3)
 have Hy3:=hide ((unhide HF2).later hb3)
 have HB3:=hide ((unhide HB2).trans (hb3.mono (unhide HB2).size))
 clear hf3 hb3
 go_wp2_with (go_at_call 250;refine (act_any _ _).mono ?_)
 rintro e w4 ⟨v4,rfl,hf4,hb4⟩
 have HF4:=hide hf4
 have Hx4:=hide ((unhide Hx3).later hb4)
 have Hy4:=hide ((unhide Hy3).later hb4)
 have Hp4:=hide ((unhide HF3).later hb4)
 have HB4:=hide ((unhide HB3).trans (hb4.mono (unhide HB3).size))
 clear hf4 hb4
 go_wp2_with (go_at_call 251;refine (one_any 5 _ _ _ _ (unhide HF4) rfl).mono ?_)
 rintro e w5 ⟨v5,rfl,hf5,hb5⟩
 have HF5:=hide hf5
 have Hx5:=hide ((unhide Hx4).later hb5)
 have Hy5:=hide ((unhide Hy4).later hb5)
 have Hp5:=hide ((unhide Hp4).later hb5)
 have Hz5:=hide ((unhide HF4).later hb5)
 have HB5:=hide ((unhide HB4).trans (hb5.mono (unhide HB4).size))
 clear hf5 hb5
 go_wp2_with (go_at_call 252;refine (two_any 12 _ _ _ _ _ _ (unhide HF5) (unhide Hx5) rfl).mono ?_)
 rintro e w6 ⟨v6,rfl,hf6,hb6⟩
 have HF6:=hide hf6
 have Hx6:=hide ((unhide Hx5).later hb6)
 have Hy6:=hide ((unhide Hy5).later hb6)
 have Hp6:=hide ((unhide Hp5).later hb6)
 have Hz6:=hide ((unhide Hz5).later hb6)
 have Ht6:=hide ((unhide HF5).later hb6)
 have HB6:=hide ((unhide HB5).trans (hb6.mono (unhide HB5).size))
 clear hf6 hb6
 go_wp2_with (go_at_call 251;refine (one_any 8 _ _ _ _ (unhide HF6) rfl).mono ?_)
 rintro e w7 ⟨v7,rfl,hf7,hb7⟩
 have HF7:=hide hf7
 have Hx7:=hide ((unhide Hx6).later hb7)
 have Hy7:=hide ((unhide Hy6).later hb7)
 have Hp7:=hide ((unhide Hp6).later hb7)
 have Hz7:=hide ((unhide Hz6).later hb7)
 have Ht7:=hide ((unhide Ht6).later hb7)
 have Hu7:=hide ((unhide HF6).later hb7)
 have HB7:=hide ((unhide HB6).trans (hb7.mono (unhide HB6).size))
 clear hf7 hb7
 go_wp2_with (go_at_call 252;refine (two_any 10 _ _ _ _ _ _ (unhide Hp7) (unhide HF7) rfl).mono ?_)
 rintro e w8 ⟨v8,rfl,hf8,hb8⟩
 have HF8:=hide hf8
 have Hx8:=hide ((unhide Hx7).later hb8)
 have Hy8:=hide ((unhide Hy7).later hb8)
 have Hp8:=hide ((unhide Hp7).later hb8)
 have Hz8:=hide ((unhide Hz7).later hb8)
 have Ht8:=hide ((unhide Ht7).later hb8)
 have Hu8:=hide ((unhide Hu7).later hb8)
 have Hq8:=hide ((unhide HF7).later hb8)
 have HB8:=hide ((unhide HB7).trans (hb8.mono (unhide HB7).size))
 clear hf8 hb8
 go_wp2_with fail
 go_ret
 exact ⟨_,rfl,unhide HF8,unhide HB8⟩
set_option maxHeartbeats 2000000 in
theorem stands_8 (w:World) (a b:Int) (s:ByteArray) (c:Int) (o:Option Addr) (n k:Nat) (d:Int) (p:Option Addr) (x y:Tk) (ha:ActsAre w o n k [x,y]) (hw:s.toList=[119,105,116,104]):
  Calls Tryz.prog 204 #[rlV a b s c o n k d p] w fun e w'=> ∃v,e= .returned (.pointer v)∧IsF w' (tplF 8 x.s y.s 0) v∧Below w.heap.size w w':=by
 obtain ⟨g,hgo,hg,_,t0,t1,t2⟩:=ha.tok (i:=0) (t:=x) (r:=[y]) rfl
 subst hgo
 obtain ⟨g',hgo,_,_,u0,u1,u2⟩:=ha.tok (i:=1) (t:=y) (r:=[]) rfl
 cases hgo
 have hn:n=2:=ha.len
 subst hn
 clear ha
 simp only [rlV]
 have e0:(s.toList==[105,110,105,116])=false:=by rw [hw];decide
 have e1:(s.toList==[108,97,115,116])=false:=by rw [hw];decide
 have e2:(s.toList==[115,111,109,101])=false:=by rw [hw];decide
 have e3:(s.toList==[102,101,119])=false:=by rw [hw];decide
 have e4:(s.toList==[114,101,115,112,111,110,115,101])=false:=by rw [hw];decide
 have e5:(s.toList==[112,114,101,99,101,100,101])=false:=by rw [hw];decide
 have e6:(s.toList==[99,104,97,105,110])=false:=by rw [hw];decide
 have e7:(s.toList==[98,101,102,111,114,101])=false:=by rw [hw];decide
 have e8:(s.toList==[119,105,116,104])=true:=by rw [hw];decide
 clear hw
 simp at t0 t1 t2 u0 u1 u2
 go_enter Tryz.func204,Tryz.ntmps204
 go_wp2_with (go_at_call 250;refine (act_any _ _).mono ?_)
 rintro e w1 ⟨v1,rfl,hf1,hb1⟩
 have HF1:=hide hf1
 have HB1:=hide (((Below.refl w.heap.size w).alloc (Nat.le_refl _) _).trans (hb1.mono (by simp)))
 have HX1:=hide ((hb1.block w.heap.size (by simp)).trans (blk_alloc _ _))
 have hz1:w.heap.size<w1.heap.size:=lt_of_blk (unhide HX1)
 clear hf1 hb1
 go_wp2_with (go_at_call 250;refine (act_any _ _).mono ?_)
 rintro e w2 ⟨v2,rfl,hf2,hb2⟩
 have HF2:=hide hf2
 have Hx2:=hide ((unhide HF1).later hb2)
 have HB2:=hide ((unhide HB1).trans (hb2.mono (unhide HB1).size))
 have HX2:=hide ((hb2.block w.heap.size hz1).trans (unhide HX1))
 have hz2:w.heap.size<w2.heap.size:=lt_of_blk (unhide HX2)
 clear hf2 hb2
 have xc:=fun o=>cell_of_blk (unhide HX2) o
 go_wp2_with (go_at_call 251;refine (one_any 7 _ _ _ _ (unhide Hx2) rfl).mono ?_)
 rintro e w3 ⟨v3,rfl,hf3,hb3⟩
 have HF3:=hide hf3
 have Hx3:=hide ((unhide Hx2).later hb3)
 have Hy3:=hide ((unhide HF2).later hb3)
 have HB3:=hide ((unhide HB2).trans (hb3.mono (unhide HB2).size))
 clear hf3 hb3
 go_wp2_with (go_at_call 251;refine (one_any 7 _ _ _ _ (unhide Hy3) rfl).mono ?_)
 rintro e w4 ⟨v4,rfl,hf4,hb4⟩
 have HF4:=hide hf4
 have Hx4:=hide ((unhide Hx3).later hb4)
 have Hy4:=hide ((unhide Hy3).later hb4)
 have Hp4:=hide ((unhide HF3).later hb4)
 have HB4:=hide ((unhide HB3).trans (hb4.mono (unhide HB3).size))
 clear hf4 hb4
 go_wp2_with (go_at_call 252;refine (two_any 12 _ _ _ _ _ _ (unhide Hp4) (unhide HF4) rfl).mono ?_)
 rintro e w5 ⟨v5,rfl,hf5,hb5⟩
 have HF5:=hide hf5
 have Hx5:=hide ((unhide Hx4).later hb5)
 have Hy5:=hide ((unhide Hy4).later hb5)
 have Hp5:=hide ((unhide Hp4).later hb5)
 have Hq5:=hide ((unhide HF4).later hb5)
 have HB5:=hide ((unhide HB4).trans (hb5.mono (unhide HB4).size))
 clear hf5 hb5
 go_wp2_with fail
 go_ret
 exact ⟨_,rfl,unhide HF5,unhide HB5⟩
set_option maxHeartbeats 2000000 in
theorem stands_9 (w:World) (a b:Int) (s:ByteArray) (c:Int) (o:Option Addr) (n k:Nat) (d:Int) (p:Option Addr) (x y:Tk) (ha:ActsAre w o n k [x,y]) (hw:s.toList=[97,112,97,114,116]):
  Calls Tryz.prog 204 #[rlV a b s c o n k d p] w fun e w'=> ∃v,e= .returned (.pointer v)∧IsF w' (tplF 9 x.s y.s 0) v∧Below w.heap.size w w':=by
 obtain ⟨g,hgo,hg,_,t0,t1,t2⟩:=ha.tok (i:=0) (t:=x) (r:=[y]) rfl
 subst hgo
 obtain ⟨g',hgo,_,_,u0,u1,u2⟩:=ha.tok (i:=1) (t:=y) (r:=[]) rfl
 cases hgo
 have hn:n=2:=ha.len
 subst hn
 clear ha
 simp only [rlV]
 have e0:(s.toList==[105,110,105,116])=false:=by rw [hw];decide
 have e1:(s.toList==[108,97,115,116])=false:=by rw [hw];decide
 have e2:(s.toList==[115,111,109,101])=false:=by rw [hw];decide
 have e3:(s.toList==[102,101,119])=false:=by rw [hw];decide
 have e4:(s.toList==[114,101,115,112,111,110,115,101])=false:=by rw [hw];decide
 have e5:(s.toList==[112,114,101,99,101,100,101])=false:=by rw [hw];decide
 have e6:(s.toList==[99,104,97,105,110])=false:=by rw [hw];decide
 have e7:(s.toList==[98,101,102,111,114,101])=false:=by rw [hw];decide
 have e8:(s.toList==[119,105,116,104])=false:=by rw [hw];decide
 have e9:(s.toList==[97,112,97,114,116])=true:=by rw [hw];decide
 clear hw
 simp at t0 t1 t2 u0 u1 u2
 go_enter Tryz.func204,Tryz.ntmps204
 go_wp2_with (go_at_call 250;refine (act_any _ _).mono ?_)
 rintro e w1 ⟨v1,rfl,hf1,hb1⟩
 have HF1:=hide hf1
 have HB1:=hide (((Below.refl w.heap.size w).alloc (Nat.le_refl _) _).trans (hb1.mono (by simp)))
 have HX1:=hide ((hb1.block w.heap.size (by simp)).trans (blk_alloc _ _))
 have hz1:w.heap.size<w1.heap.size:=lt_of_blk (unhide HX1)
 clear hf1 hb1
 go_wp2_with (go_at_call 250;refine (act_any _ _).mono ?_)
 rintro e w2 ⟨v2,rfl,hf2,hb2⟩
 have HF2:=hide hf2
 have Hx2:=hide ((unhide HF1).later hb2)
 have HB2:=hide ((unhide HB1).trans (hb2.mono (unhide HB1).size))
 have HX2:=hide ((hb2.block w.heap.size hz1).trans (unhide HX1))
 have hz2:w.heap.size<w2.heap.size:=lt_of_blk (unhide HX2)
 clear hf2 hb2
 have xc:=fun o=>cell_of_blk (unhide HX2) o
 go_wp2_with (go_at_call 251;refine (one_any 7 _ _ _ _ (unhide Hx2) rfl).mono ?_)
 rintro e w3 ⟨v3,rfl,hf3,hb3⟩
 have HF3:=hide hf3
 have Hx3:=hide ((unhide Hx2).later hb3)
 have Hy3:=hide ((unhide HF2).later hb3)
 have HB3:=hide ((unhide HB2).trans (hb3.mono (unhide HB2).size))
 clear hf3 hb3
 go_wp2_with (go_at_call 251;refine (one_any 7 _ _ _ _ (unhide Hy3) rfl).mono ?_)
 rintro e w4 ⟨v4,rfl,hf4,hb4⟩
 have HF4:=hide hf4
 have Hx4:=hide ((unhide Hx3).later hb4)
 have Hy4:=hide ((unhide Hy3).later hb4)
 have Hp4:=hide ((unhide HF3).later hb4)
 have HB4:=hide ((unhide HB3).trans (hb4.mono (unhide HB3).size))
 clear hf4 hb4
 go_wp2_with (go_at_call 252;refine (two_any 10 _ _ _ _ _ _ (unhide Hp4) (unhide HF4) rfl).mono ?_)
 rintro e w5 ⟨v5,rfl,hf5,hb5⟩
 have HF5:=hide hf5
 have Hx5:=hide ((unhide Hx4).later hb5)
 have Hy5:=hide ((unhide Hy4).later hb5)
 have Hp5:=hide ((unhide Hp4).later hb5)
 have Hq5:=hide ((unhide HF4).later hb5)
 have HB5:=hide ((unhide HB4).trans (hb5.mono (unhide HB4).size))
 clear hf5 hb5
 go_wp2_with (go_at_call 251;refine (one_any 4 _ _ _ _ (unhide HF5) rfl).mono ?_)
 rintro e w6 ⟨v6,rfl,hf6,hb6⟩
 have HF6:=hide hf6
 have Hx6:=hide ((unhide Hx5).later hb6)
 have Hy6:=hide ((unhide Hy5).later hb6)
 have Hp6:=hide ((unhide Hp5).later hb6)
 have Hq6:=hide ((unhide Hq5).later hb6)
 have Ht6:=hide ((unhide HF5).later hb6)
 have HB6:=hide ((unhide HB5).trans (hb6.mono (unhide HB5).size))
 clear hf6 hb6
 go_wp2_with fail
 go_ret
 exact ⟨_,rfl,unhide HF6,unhide HB6⟩
set_option maxHeartbeats 2000000 in
theorem stands_10 (w:World) (a b:Int) (s:ByteArray) (c:Int) (o:Option Addr) (n k:Nat) (d:Int) (p:Option Addr) (x y:Tk) (ha:ActsAre w o n k [x,y]) (hw:s.toList=[110,101,118,101,114]):
  Calls Tryz.prog 204 #[rlV a b s c o n k d p] w fun e w'=> ∃v,e= .returned (.pointer v)∧IsF w' (tplF 10 x.s y.s 0) v∧Below w.heap.size w w':=by
 obtain ⟨g,hgo,hg,_,t0,t1,t2⟩:=ha.tok (i:=0) (t:=x) (r:=[y]) rfl
 subst hgo
 obtain ⟨g',hgo,_,_,u0,u1,u2⟩:=ha.tok (i:=1) (t:=y) (r:=[]) rfl
 cases hgo
 have hn:n=2:=ha.len
 subst hn
 clear ha
 simp only [rlV]
 have e0:(s.toList==[105,110,105,116])=false:=by rw [hw];decide
 have e1:(s.toList==[108,97,115,116])=false:=by rw [hw];decide
 have e2:(s.toList==[115,111,109,101])=false:=by rw [hw];decide
 have e3:(s.toList==[102,101,119])=false:=by rw [hw];decide
 have e4:(s.toList==[114,101,115,112,111,110,115,101])=false:=by rw [hw];decide
 have e5:(s.toList==[112,114,101,99,101,100,101])=false:=by rw [hw];decide
 have e6:(s.toList==[99,104,97,105,110])=false:=by rw [hw];decide
 have e7:(s.toList==[98,101,102,111,114,101])=false:=by rw [hw];decide
 have e8:(s.toList==[119,105,116,104])=false:=by rw [hw];decide
 have e9:(s.toList==[97,112,97,114,116])=false:=by rw [hw];decide
 have e10:(s.toList==[110,101,118,101,114])=true:=by rw [hw];decide
 clear hw
 simp at t0 t1 t2 u0 u1 u2
 go_enter Tryz.func204,Tryz.ntmps204
 go_wp2_with (go_at_call 250;refine (act_any _ _).mono ?_)
 rintro e w1 ⟨v1,rfl,hf1,hb1⟩
 have HF1:=hide hf1
 have HB1:=hide (((Below.refl w.heap.size w).alloc (Nat.le_refl _) _).trans (hb1.mono (by simp)))
 have HX1:=hide ((hb1.block w.heap.size (by simp)).trans (blk_alloc _ _))
 have hz1:w.heap.size<w1.heap.size:=lt_of_blk (unhide HX1)
 clear hf1 hb1
 go_wp2_with (go_at_call 250;refine (act_any _ _).mono ?_)
 rintro e w2 ⟨v2,rfl,hf2,hb2⟩
 have HF2:=hide hf2
 have Hx2:=hide ((unhide HF1).later hb2)
 have HB2:=hide ((unhide HB1).trans (hb2.mono (unhide HB1).size))
 have HX2:=hide ((hb2.block w.heap.size hz1).trans (unhide HX1))
 have hz2:w.heap.size<w2.heap.size:=lt_of_blk (unhide HX2)
 clear hf2 hb2
 have xc:=fun o=>cell_of_blk (unhide HX2) o
 go_wp2_with (go_at_call 251;refine (one_any 4 _ _ _ _ (unhide HF2) rfl).mono ?_)
 rintro e w3 ⟨v3,rfl,hf3,hb3⟩
 have HF3:=hide hf3
 have Hx3:=hide ((unhide Hx2).later hb3)
 have Hy3:=hide ((unhide HF2).later hb3)
 have HB3:=hide ((unhide HB2).trans (hb3.mono (unhide HB2).size))
 clear hf3 hb3
 go_wp2_with (go_at_call 251;refine (one_any 8 _ _ _ _ (unhide HF3) rfl).mono ?_)
 rintro e w4 ⟨v4,rfl,hf4,hb4⟩
 have HF4:=hide hf4
 have Hx4:=hide ((unhide Hx3).later hb4)
 have Hy4:=hide ((unhide Hy3).later hb4)
 have Hp4:=hide ((unhide HF3).later hb4)
 have HB4:=hide ((unhide HB3).trans (hb4.mono (unhide HB3).size))
 clear hf4 hb4
 go_wp2_with (go_at_call 251;refine (one_any 6 _ _ _ _ (unhide HF4) rfl).mono ?_)
 rintro e w5 ⟨v5,rfl,hf5,hb5⟩
 have HF5:=hide hf5
 have Hx5:=hide ((unhide Hx4).later hb5)
 have Hy5:=hide ((unhide Hy4).later hb5)
 have Hp5:=hide ((unhide Hp4).later hb5)
 have Hq5:=hide ((unhide HF4).later hb5)
 have HB5:=hide ((unhide HB4).trans (hb5.mono (unhide HB4).size))
 clear hf5 hb5
 go_wp2_with (go_at_call 252;refine (two_any 12 _ _ _ _ _ _ (unhide Hx5) (unhide HF5) rfl).mono ?_)
 rintro e w6 ⟨v6,rfl,hf6,hb6⟩
 have HF6:=hide hf6
 have Hx6:=hide ((unhide Hx5).later hb6)
 have Hy6:=hide ((unhide Hy5).later hb6)
 have Hp6:=hide ((unhide Hp5).later hb6)
 have Hq6:=hide ((unhide Hq5).later hb6)
 have Ht6:=hide ((unhide HF5).later hb6)
 have HB6:=hide ((unhide HB5).trans (hb6.mono (unhide HB5).size))
 clear hf6 hb6
 go_wp2_with (go_at_call 251;refine (one_any 8 _ _ _ _ (unhide HF6) rfl).mono ?_)
 rintro e w7 ⟨v7,rfl,hf7,hb7⟩
 have HF7:=hide hf7
 have Hx7:=hide ((unhide Hx6).later hb7)
 have Hy7:=hide ((unhide Hy6).later hb7)
 have Hp7:=hide ((unhide Hp6).later hb7)
 have Hq7:=hide ((unhide Hq6).later hb7)
 have Ht7:=hide ((unhide Ht6).later hb7)
 have Hu7:=hide ((unhide HF6).later hb7)
 have HB7:=hide ((unhide HB6).trans (hb7.mono (unhide HB6).size))
 clear hf7 hb7
 go_wp2_with fail
 go_ret
 exact ⟨_,rfl,unhide HF7,unhide HB7⟩
set_option maxHeartbeats 2000000 in
theorem stands_11 (w:World) (a b:Int) (s:ByteArray) (c:Int) (o:Option Addr) (n k:Nat) (d:Int) (p:Option Addr) (x y:Tk) (ha:ActsAre w o n k [x,y]) (hw:s.toList=[110,111,116,110,101,120,116]):
  Calls Tryz.prog 204 #[rlV a b s c o n k d p] w fun e w'=> ∃v,e= .returned (.pointer v)∧IsF w' (tplF 11 x.s y.s 0) v∧Below w.heap.size w w':=by
 obtain ⟨g,hgo,hg,_,t0,t1,t2⟩:=ha.tok (i:=0) (t:=x) (r:=[y]) rfl
 subst hgo
 obtain ⟨g',hgo,_,_,u0,u1,u2⟩:=ha.tok (i:=1) (t:=y) (r:=[]) rfl
 cases hgo
 have hn:n=2:=ha.len
 subst hn
 clear ha
 simp only [rlV]
 have e0:(s.toList==[105,110,105,116])=false:=by rw [hw];decide
 have e1:(s.toList==[108,97,115,116])=false:=by rw [hw];decide
 have e2:(s.toList==[115,111,109,101])=false:=by rw [hw];decide
 have e3:(s.toList==[102,101,119])=false:=by rw [hw];decide
 have e4:(s.toList==[114,101,115,112,111,110,115,101])=false:=by rw [hw];decide
 have e5:(s.toList==[112,114,101,99,101,100,101])=false:=by rw [hw];decide
 have e6:(s.toList==[99,104,97,105,110])=false:=by rw [hw];decide
 have e7:(s.toList==[98,101,102,111,114,101])=false:=by rw [hw];decide
 have e8:(s.toList==[119,105,116,104])=false:=by rw [hw];decide
 have e9:(s.toList==[97,112,97,114,116])=false:=by rw [hw];decide
 have e10:(s.toList==[110,101,118,101,114])=false:=by rw [hw];decide
 clear hw
 simp at t0 t1 t2 u0 u1 u2
 go_enter Tryz.func204,Tryz.ntmps204
 go_wp2_with (go_at_call 250;refine (act_any _ _).mono ?_)
 rintro e w1 ⟨v1,rfl,hf1,hb1⟩
 have HF1:=hide hf1
 have HB1:=hide (((Below.refl w.heap.size w).alloc (Nat.le_refl _) _).trans (hb1.mono (by simp)))
 have HX1:=hide ((hb1.block w.heap.size (by simp)).trans (blk_alloc _ _))
 have hz1:w.heap.size<w1.heap.size:=lt_of_blk (unhide HX1)
 clear hf1 hb1
 go_wp2_with (go_at_call 250;refine (act_any _ _).mono ?_)
 rintro e w2 ⟨v2,rfl,hf2,hb2⟩
 have HF2:=hide hf2
 have Hx2:=hide ((unhide HF1).later hb2)
 have HB2:=hide ((unhide HB1).trans (hb2.mono (unhide HB1).size))
 have HX2:=hide ((hb2.block w.heap.size hz1).trans (unhide HX1))
 have hz2:w.heap.size<w2.heap.size:=lt_of_blk (unhide HX2)
 clear hf2 hb2
 have xc:=fun o=>cell_of_blk (unhide HX2) o
 go_wp2_with (go_at_call 251;refine (one_any 5 _ _ _ _ (unhide HF2) rfl).mono ?_)
 rintro e w3 ⟨v3,rfl,hf3,hb3⟩
 have HF3:=hide hf3
 have Hx3:=hide ((unhide Hx2).later hb3)
 have Hy3:=hide ((unhide HF2).later hb3)
 have HB3:=hide ((unhide HB2).trans (hb3.mono (unhide HB2).size))
 clear hf3 hb3
 go_wp2_with (go_at_call 251;refine (one_any 4 _ _ _ _ (unhide HF3) rfl).mono ?_)
 rintro e w4 ⟨v4,rfl,hf4,hb4⟩
 have HF4:=hide hf4
 have Hx4:=hide ((unhide Hx3).later hb4)
 have Hy4:=hide ((unhide Hy3).later hb4)
 have Hp4:=hide ((unhide HF3).later hb4)
 have HB4:=hide ((unhide HB3).trans (hb4.mono (unhide HB3).size))
 clear hf4 hb4
 go_wp2_with (go_at_call 252;refine (two_any 12 _ _ _ _ _ _ (unhide Hx4) (unhide HF4) rfl).mono ?_)
 rintro e w5 ⟨v5,rfl,hf5,hb5⟩
 have HF5:=hide hf5
 have Hx5:=hide ((unhide Hx4).later hb5)
 have Hy5:=hide ((unhide Hy4).later hb5)
 have Hp5:=hide ((unhide Hp4).later hb5)
 have Hq5:=hide ((unhide HF4).later hb5)
 have HB5:=hide ((unhide HB4).trans (hb5.mono (unhide HB4).size))
 clear hf5 hb5
 go_wp2_with (go_at_call 251;refine (one_any 8 _ _ _ _ (unhide HF5) rfl).mono ?_)
 rintro e w6 ⟨v6,rfl,hf6,hb6⟩
 have HF6:=hide hf6
 have Hx6:=hide ((unhide Hx5).later hb6)
 have Hy6:=hide ((unhide Hy5).later hb6)
 have Hp6:=hide ((unhide Hp5).later hb6)
 have Hq6:=hide ((unhide Hq5).later hb6)
 have Ht6:=hide ((unhide HF5).later hb6)
 have HB6:=hide ((unhide HB5).trans (hb6.mono (unhide HB5).size))
 clear hf6 hb6
 go_wp2_with fail
 go_ret
 exact ⟨_,rfl,unhide HF6,unhide HB6⟩
def CallOk (r:Rl):Prop:=
 (tplNo r.word.s.toList≤1∧ ∃x,r.args=[x])∨
 (2≤tplNo r.word.s.toList∧tplNo r.word.s.toList≤3∧ ∃x y,r.args=[x,y]∧ ∃c:UInt8,y.s=⟨#[c]⟩∧49≤c.toNat∧c.toNat≤57)∨
 (4≤tplNo r.word.s.toList∧tplNo r.word.s.toList≤11∧ ∃x y,r.args=[x,y])
def argS (l:List Tk) (i:Nat):ByteArray:=match l.drop i with|t::_=>t.s|[]=>ByteArray.empty
def ruleF (r:Rl):Fm:=if r.call=true then tplF (tplNo r.word.s.toList) (argS r.args 0) (argS r.args 1) (digitN (argS r.args 1)) else r.f
theorem tplNo_inv {l:List UInt8}:(tplNo l=0∧l=[105,110,105,116])∨(tplNo l=1∧l=[108,97,115,116])∨(tplNo l=2∧l=[115,111,109,101])∨(tplNo l=3∧l=[102,101,119])∨
  (tplNo l=4∧l=[114,101,115,112,111,110,115,101])∨(tplNo l=5∧l=[112,114,101,99,101,100,101])∨(tplNo l=6∧l=[99,104,97,105,110])∨(tplNo l=7∧l=[98,101,102,111,114,101])∨
  (tplNo l=8∧l=[119,105,116,104])∨(tplNo l=9∧l=[97,112,97,114,116])∨(tplNo l=10∧l=[110,101,118,101,114])∨(tplNo l=11∧l=[110,111,116,110,101,120,116])∨tplNo l=12:=by
 by_cases h0:l=[105,110,105,116]
 ·subst h0;exact Or.inl ⟨by decide,rfl⟩
 by_cases h1:l=[108,97,115,116]
 ·subst h1;exact Or.inr (Or.inl ⟨by decide,rfl⟩)
 by_cases h2:l=[115,111,109,101]
 ·subst h2;exact Or.inr (Or.inr (Or.inl ⟨by decide,rfl⟩))
 by_cases h3:l=[102,101,119]
 ·subst h3;exact Or.inr (Or.inr (Or.inr (Or.inl ⟨by decide,rfl⟩)))
 by_cases h4:l=[114,101,115,112,111,110,115,101]
 ·subst h4;exact Or.inr (Or.inr (Or.inr (Or.inr (Or.inl ⟨by decide,rfl⟩))))
 by_cases h5:l=[112,114,101,99,101,100,101]
 ·subst h5;exact Or.inr (Or.inr (Or.inr (Or.inr (Or.inr (Or.inl ⟨by decide,rfl⟩)))))
 by_cases h6:l=[99,104,97,105,110]
 ·subst h6;exact Or.inr (Or.inr (Or.inr (Or.inr (Or.inr (Or.inr (Or.inl ⟨by decide,rfl⟩))))))
 by_cases h7:l=[98,101,102,111,114,101]
 ·subst h7;exact Or.inr (Or.inr (Or.inr (Or.inr (Or.inr (Or.inr (Or.inr (Or.inl ⟨by decide,rfl⟩)))))))
 by_cases h8:l=[119,105,116,104]
 ·subst h8;exact Or.inr (Or.inr (Or.inr (Or.inr (Or.inr (Or.inr (Or.inr (Or.inr (Or.inl ⟨by decide,rfl⟩))))))))
 by_cases h9:l=[97,112,97,114,116]
 ·subst h9;exact Or.inr (Or.inr (Or.inr (Or.inr (Or.inr (Or.inr (Or.inr (Or.inr (Or.inr (Or.inl ⟨by decide,rfl⟩)))))))))
 by_cases h10:l=[110,101,118,101,114]
 ·subst h10;exact Or.inr (Or.inr (Or.inr (Or.inr (Or.inr (Or.inr (Or.inr (Or.inr (Or.inr (Or.inr (Or.inl ⟨by decide,rfl⟩))))))))))
 by_cases h11:l=[110,111,116,110,101,120,116]
 ·subst h11;exact Or.inr (Or.inr (Or.inr (Or.inr (Or.inr (Or.inr (Or.inr (Or.inr (Or.inr (Or.inr (Or.inr (Or.inl ⟨by decide,rfl⟩)))))))))))
 ·refine Or.inr (Or.inr (Or.inr (Or.inr (Or.inr (Or.inr (Or.inr (Or.inr (Or.inr (Or.inr (Or.inr (Or.inr ?_)))))))))))
  simp only [tplNo,h0,h1,h2,h3,h4,h5,h6,h7,h8,h9,h10,h11,if_false]
theorem stands_any (w:World) (r:Rl) (a b:Int) (s:ByteArray) (c:Int) (o:Option Addr) (n k:Nat) (d:Int) (p:Option Addr) (h:RlIs w r a b s c o n k d p) (hc:r.call=true) (hok:CallOk r):
  Calls Tryz.prog 204 #[rlV a b s c o n k d p] w fun e w'=> ∃v,e= .returned (.pointer v)∧IsF w' (ruleF r) v∧Below w.heap.size w w':=by
 obtain ⟨_,h2⟩:=h
 rw [if_pos hc] at h2
 obtain ⟨_,hs,_,ho,_,_⟩:=h2
 subst hs
 rw [ruleF,if_pos hc]
 have ha:ActsAre w o n k r.args:=ho
 have hi:=tplNo_inv (l:=r.word.s.toList)
 rcases hok with ⟨hk,x,hx⟩|⟨hk1,hk2,x,y,hx,hd⟩|⟨hk1,hk2,x,y,hx⟩
 ·rw [hx] at ha⊢
  rcases hi with ⟨e,hw⟩|⟨e,hw⟩|⟨e,hw⟩|⟨e,hw⟩|⟨e,hw⟩|⟨e,hw⟩|⟨e,hw⟩|⟨e,hw⟩|⟨e,hw⟩|⟨e,hw⟩|⟨e,hw⟩|⟨e,hw⟩|e
  ·rw [e];exact stands_0 w a b _ c o n k d p x ha hw
  ·rw [e];exact stands_1 w a b _ c o n k d p x ha hw
  all_goals omega
 ·rw [hx] at ha⊢
  rcases hi with ⟨e,hw⟩|⟨e,hw⟩|⟨e,hw⟩|⟨e,hw⟩|⟨e,hw⟩|⟨e,hw⟩|⟨e,hw⟩|⟨e,hw⟩|⟨e,hw⟩|⟨e,hw⟩|⟨e,hw⟩|⟨e,hw⟩|e
  ·omega
  ·omega
  ·rw [e];exact stands_2 w a b _ c o n k d p x y ha hw hd
  ·rw [e];exact stands_3 w a b _ c o n k d p x y ha hw hd
  all_goals omega
 ·rw [hx] at ha⊢
  rcases hi with ⟨e,hw⟩|⟨e,hw⟩|⟨e,hw⟩|⟨e,hw⟩|⟨e,hw⟩|⟨e,hw⟩|⟨e,hw⟩|⟨e,hw⟩|⟨e,hw⟩|⟨e,hw⟩|⟨e,hw⟩|⟨e,hw⟩|e
  ·omega
  ·omega
  ·omega
  ·omega
  ·rw [e];exact stands_4 w a b _ c o n k d p x y ha hw
  ·rw [e];exact stands_5 w a b _ c o n k d p x y ha hw
  ·rw [e];exact stands_6 w a b _ c o n k d p x y ha hw
  ·rw [e];exact stands_7 w a b _ c o n k d p x y ha hw
  ·rw [e];exact stands_8 w a b _ c o n k d p x y ha hw
  ·rw [e];exact stands_9 w a b _ c o n k d p x y ha hw
  ·rw [e];exact stands_10 w a b _ c o n k d p x y ha hw
  ·rw [e];exact stands_11 w a b _ c o n k d p x y ha hw
  ·omega
def FsAre (w:World):List Rl→List (Option Addr)→Prop
 |[],ps=>ps=[]
 |r::rs,ps=> ∃p ps',ps=p::ps'∧IsF w (ruleF r) p∧FsAre w rs ps'
theorem FsAre.later {w w':World} (hb:Below w.heap.size w w'): ∀{rs:List Rl} {ps:List (Option Addr)},FsAre w rs ps→FsAre w' rs ps
 |[],_,h=>h
 |_::_,_,⟨p,ps',e,h1,h2⟩=>⟨p,ps',e,h1.later hb,h2.later hb⟩
theorem KT.fs {w w':World} (hk:KT w w'): ∀{rs:List Rl} {ps:List (Option Addr)},FsAre w rs ps→FsAre w' rs ps
 |[],_,h=>h
 |_::_,_,⟨p,ps',e,h1,h2⟩=>⟨p,ps',e,hk.isF h1,hk.fs h2⟩
theorem FsAre.snoc {w:World}: ∀{rs:List Rl} {ps:List (Option Addr)} {r:Rl} {p:Option Addr},FsAre w rs ps→IsF w (ruleF r) p→FsAre w (rs++[r]) (ps++[p])
 |[],_,r,p,h,hp=>by rw [show _=[] from h];exact ⟨p,[],rfl,hp,rfl⟩
 |_::_,_,r,p,⟨q,ps',e,h1,h2⟩,hp=>⟨q,ps'++[p],by rw [e];rfl,h1,h2.snoc hp⟩
def RowR (w:World) (o:Option Addr) (n k:Nat) (rs:List Rl):Prop:= ∃cells,w.ownsRow 0 235 7 (.slice o n k) rs.length cells∧RulesAre w rs cells
theorem RowR.len {w:World} {o:Option Addr} {n k:Nat} {rs:List Rl} (h:RowR w o n k rs):n=rs.length:=by
 obtain ⟨cells,⟨_,⟨h1,h2⟩|⟨g,cap,cur,hv,_⟩⟩,_⟩:=h
 ·cases h1;exact h2.symm
 ·cases hv;rfl
theorem RulesAre.at {w:World}: ∀{rs:List Rl} {cells:List Value} {i:Nat} {r:Rl} {l:List Rl},RulesAre w rs cells→rs.drop i=r::l→
  ∃a b s c o n k d p,RlIs w r a b s c o n k d p∧cells[i * 7]? =some (.int .i64 a)∧cells[i * 7+1]? =some (.int .u8 b)∧cells[i * 7+2]? =some (.string s)∧cells[i * 7+3]? =some (.int .i64 c)∧cells[i * 7+4]? =some (.slice o n k)∧cells[i * 7+5]? =some (.int .i64 d)∧cells[i * 7+6]? =some (.pointer p)
 |[],_,i,r,l,_,h=>by simp at h
 |x::xs,cells,0,r,l,⟨a,b,s,c,o,n,k,d,p,cs',e,hr,_⟩,h=>by
  simp at h
  obtain ⟨rfl,rfl⟩:=h
  subst e
  exact ⟨a,b,s,c,o,n,k,d,p,hr,rfl,rfl,rfl,rfl,rfl,rfl,rfl⟩
 |x::xs,cells,i+1,r,l,⟨a,b,s,c,o,n,k,d,p,cs',e,_,hrs⟩,h=>by
  obtain ⟨a',b',s',c',o',n',k',d',p',hr,h0,h1,h2,h3,h4,h5,h6⟩:=hrs.at (i:=i) (r:=r) (l:=l) (by simpa using h)
  subst e
  refine ⟨a',b',s',c',o',n',k',d',p',hr, ?_, ?_, ?_, ?_, ?_, ?_, ?_⟩
  all_goals (rw [List.getElem?_append_right (by simp;omega)])
  ·rw [←h0];congr 1;simp;omega
  ·rw [←h1];congr 1;simp;omega
  ·rw [←h2];congr 1;simp;omega
  ·rw [←h3];congr 1;simp;omega
  ·rw [←h4];congr 1;simp;omega
  ·rw [←h5];congr 1;simp;omega
  ·rw [←h6];congr 1;simp;omega
theorem RowR.at {w:World} {o:Option Addr} {n k:Nat} {rs:List Rl} (h:RowR w o n k rs) {i:Nat} {r:Rl} {l:List Rl} (hr:rs.drop i=r::l):
  ∃g,o=some ⟨g,0,none⟩∧g<w.heap.size∧TyAt w g 235∧ ∃a b s c o' n' k' d p,RlIs w r a b s c o' n' k' d p∧w.cell? ⟨g,i * 7,none⟩=some (.int .i64 a)∧w.cell? ⟨g,i * 7+1,none⟩=some (.int .u8 b)∧w.cell? ⟨g,i * 7+2,none⟩=some (.string s)∧w.cell? ⟨g,i * 7+3,none⟩=some (.int .i64 c)∧w.cell? ⟨g,i * 7+4,none⟩=some (.slice o' n' k')∧w.cell? ⟨g,i * 7+5,none⟩=some (.int .i64 d)∧w.cell? ⟨g,i * 7+6,none⟩=some (.pointer p):=by
 have hi:i<rs.length:=by
  rcases Nat.lt_or_ge i rs.length with h|h
  ·exact h
  ·rw [List.drop_eq_nil_of_le h] at hr;cases hr
 obtain ⟨cells,⟨_,⟨h1,h2⟩|⟨g,cap,cur,hv,_,hrow,hle,_,hcs,htake⟩⟩,hra⟩:=h
 ·omega
 ·cases hv
  obtain ⟨a,b,s,c,o',n',k',d,p,hri,h0,h1,h2,h3,h4,h5,h6⟩:=hra.at hr
  rw [←htake,List.getElem?_take,if_pos (by omega)] at h0 h1 h2 h3 h4 h5 h6
  refine ⟨g,rfl,lt_of_blk hrow,⟨_,_,hrow⟩,a,b,s,c,o',n',k',d,p,hri, ?_, ?_, ?_, ?_, ?_, ?_, ?_⟩<;>rw [cell_of_blk hrow,←Array.getElem?_toList]<;>assumption
theorem RowR.later {w w':World} {o:Option Addr} {n k:Nat} {rs:List Rl} (h:RowR w o n k rs) (hb:Below w.heap.size w w'):RowR w' o n k rs:=by
 obtain ⟨cells,h1,h2⟩:=h
 exact ⟨cells,owns_later h1 hb,(KT.below hb).rules h2⟩
theorem KT.ownE {w w':World} {base n e size:Nat} {v:Value} {xs:List Value} (h:w.grownBy w' v.ownBlock) (ho:w.ownsRow base e size v n xs) (h1:e≠232) (h2:e≠292):KT w w':=by
 obtain ⟨_,h3|⟨g,cap,cur,hv,_,hh,_⟩⟩:=ho
 ·rw [h3.1] at h;exact KT.grownNone h
 ·rw [hv] at h;exact KT.grown (r:=g) h ⟨_,_,hh⟩ h1 h2
theorem Tryz.infoPtr:(Tryz.prog.info? 233).map (fun i=>(i.zero,i.size,i.bytes))=some (some (.pointer none),1,8):=by kernel_rfl
set_option maxHeartbeats 2000000 in
theorem Formulas_any (w:World) (o1:Option Addr) (n1 k1:Nat) (o2:Option Addr) (n2 k2:Nat) (rs:List Rl) (h:RowR w o2 n2 k2 rs) (hlen:rs.length≤401) (hok: ∀r∈rs,r.call=true→CallOk r):
  Calls Tryz.prog 177 #[.agg #[.slice o1 n1 k1,.slice o2 n2 k2]] w fun e w'=> ∃v ps,e= .returned v∧w'.ownsRow w.heap.size 233 1 v rs.length (ps.map Value.pointer)∧FsAre w' rs ps∧Below w.heap.size w w':=by
 have hn:=h.len
 subst hn
 have HR:=hide h
 have HOK:=hide hok
 clear h hok
 obtain ⟨i0,hi0,hz0,hz1,hz2⟩:=info_parts Tryz.infoPtr
 go_enter Tryz.func177,Tryz.ntmps177
 go_wp2_with fail
 go_loopw [3,4] (fun v x wr=> ∃(k:Nat) (ps:List (Option Addr)),k≤rs.length∧ps.length=k∧x= .int .i64 k∧wr.ownsRow (w.heap.size+1) 233 1 v k (ps.map Value.pointer)∧FsAre wr (rs.take k) ps∧Below (w.heap.size+1) (w.alloc (.cells #[.slice o1 n1 k1,.slice o2 rs.length k2] 228)) wr) (fun _ x _=>rs.length - (intOf x).toNat)
 case atStart=>exact ⟨0,[],Nat.zero_le _,rfl,rfl,World.ownsRow_nil _ _ _ _,rfl,Below.refl _ _⟩
 case round=>
  obtain ⟨k,ps,hk,hpl,rfl,hown,hfs,hbel⟩:=hrel
  have HOW:=hide hown
  have HFS:=hide hfs
  have HBEL:=hide hbel
  have hbx:=(hbel.block w.heap.size (by omega)).trans (blk_alloc w (.cells #[.slice o1 n1 k1,.slice o2 rs.length k2] 228))
  have hzr:w.heap.size+1≤wr.heap.size:=by have:=hbel.size;simp at this;omega
  have bc:=fun o=>cell_of_blk hbx o
  have hbw:Below w.heap.size w wr:=((Below.refl w.heap.size w).alloc (Nat.le_refl _) _).trans (hbel.mono (by omega))
  have HBW:=hide hbw
  clear hown hfs hbel hbx
  by_cases hlt:k<rs.length
  ·obtain ⟨r,l,hr⟩: ∃r l,rs.drop k=r::l:=by
    cases hd:rs.drop k with
    |nil=>have:=congrArg List.length hd;simp at this;omega
    |cons r l=>exact ⟨r,l,rfl⟩
   have HRL:=hide hr
   obtain ⟨g,rfl,hg,_,a,b,s,c,o',n',k',d,p,hri,q0,q1,q2,q3,q4,q5,q6⟩:=((unhide HR).later hbw).at hr
   have HRI:=hide hri
   have hmem:r∈rs:=List.mem_of_mem_drop (i:=k) (by rw [hr];exact List.mem_cons_self)
   have HOKR:=hide ((unhide HOK) r hmem)
   clear hr hri hmem hbw
   cases hc:r.call with
   |true=>
    have hp:p=none:=by have:=(unhide HRI).2;rw [if_pos hc] at this;exact this.2.2.2.2.2
    subst hp
    have HC:=hide hc
    clear hc
    go_wp2_with fail
    refine (stands_any _ r a b s c o' n' k' d none (unhide HRI) (unhide HC) ((unhide HOKR) (unhide HC))).mono ?_
    rintro e w2 ⟨v2,rfl,hf2,hb2⟩
    have HF2:=hide hf2
    have HO2:=hide (owns_later (unhide HOW) hb2)
    have HFS2:=hide ((unhide HFS).later hb2)
    have HB2:=hide ((unhide HBEL).trans (hb2.mono hzr))
    have hz2':wr.heap.size≤w2.heap.size:=hb2.size
    clear hf2 hb2 q0 q1 q2 q3 q4 q5 q6
    go_wp2_with (at_builtin;go_must (refine wpList_append_own _ rfl _ _ 288 rfl (w.heap.size+1) 233 i0 (.pointer none) 1 8 Tryz.underlying288 hi0 hz0 hz1 hz2 rfl (by decide) _ k (ps.map Value.pointer) rfl ?c0 ⟨w2.heap.size,0,none⟩ 1 1 [.pointer v2] rfl rfl ?c1 ?c2 ?c3 ?c4 ?c5 ?_))
    case c0=>exact (unhide HO2).alloc _
    case c1=>
     intro j u hj
     match j,hj with
     |0,hj=>simp at hj;subst hj;exact (cell_of_blk (blk_alloc _ _) 0).trans rfl
     |j+1,hj=>simp at hj
    case c2=>intro u hu;simp at hu;subst hu;rfl
    case c3=>unfold maxLen;omega
    case c4=>omega
    case c5=>simp;omega
    intro v3 w3 hown3 hgrow3 _
    have hol:=own_lt (unhide HO2)
    have HB3:=hide (((unhide HB2).alloc (by omega) _).grown hgrow3 (by simp;omega) (fun j hj=>(hol j hj).1))
    have HK3:=hide ((KT.alloc w2 (.cells #[.pointer v2] 233)).trans (KT.ownE hgrow3 ((unhide HO2).alloc _) (by decide) (by decide)))
    have HO3:Hid (w3.ownsRow (w.heap.size+1) 233 1 v3 (k+1) ((ps++[v2]).map Value.pointer)):=by rw [List.map_append];exact hown3
    have HF3:=hide (FsAre.snoc ((unhide HK3).fs (unhide HFS2)) ((unhide HK3).isF (unhide HF2)))
    have HTK:Hid (rs.take (k+1)=rs.take k++[r]):=by
     show _=_
     rw [List.take_add_one]
     have:rs[k]? =some r:=by
      have:=congrArg (fun l=>l[0]?) (unhide HRL)
      simpa using this
     rw [this];rfl
    clear hown3 hgrow3 hol
    go_wp2_with fail
    go_roundw
    case rel=>
     refine ⟨k+1,ps++[v2],by omega,by simp;omega,by go_num,unhide HO3, ?_,unhide HB3⟩
     rw [unhide HTK];exact unhide HF3
    case measure=>simp [intOf];omega
   |false=>
    obtain ⟨hpf,hps⟩:IsF wr r.f p∧p.isSome=true:=by have:=(unhide HRI).2;rw [if_neg (by simp [hc])] at this;exact this
    obtain ⟨ad,rfl⟩:=Option.isSome_iff_exists.1 hps
    have HF2:Hid (IsF wr (ruleF r) (some ad)):=by show IsF _ _ _;rw [ruleF,if_neg (by simp [hc])];exact hpf
    clear hc hpf hps
    go_wp2_with (at_builtin;go_must (refine wpList_append_own _ rfl _ _ 288 rfl (w.heap.size+1) 233 i0 (.pointer none) 1 8 Tryz.underlying288 hi0 hz0 hz1 hz2 rfl (by decide) _ k (ps.map Value.pointer) rfl ?c0 ⟨wr.heap.size,0,none⟩ 1 1 [.pointer (some ad)] rfl rfl ?c1 ?c2 ?c3 ?c4 ?c5 ?_))
    case c0=>exact (unhide HOW).alloc _
    case c1=>
     intro j u hj
     match j,hj with
     |0,hj=>simp at hj;subst hj;exact (cell_of_blk (blk_alloc _ _) 0).trans rfl
     |j+1,hj=>simp at hj
    case c2=>intro u hu;simp at hu;subst hu;rfl
    case c3=>unfold maxLen;omega
    case c4=>omega
    case c5=>simp;omega
    intro v3 w3 hown3 hgrow3 _
    have hol:=own_lt (unhide HOW)
    have HB3:=hide (((unhide HBEL).alloc (by omega) _).grown hgrow3 (by simp;omega) (fun j hj=>(hol j hj).1))
    have HK3:=hide ((KT.alloc wr (.cells #[.pointer (some ad)] 233)).trans (KT.ownE hgrow3 ((unhide HOW).alloc _) (by decide) (by decide)))
    have HO3:Hid (w3.ownsRow (w.heap.size+1) 233 1 v3 (k+1) ((ps++[(some ad)]).map Value.pointer)):=by rw [List.map_append];exact hown3
    have HF3:=hide (FsAre.snoc ((unhide HK3).fs (unhide HFS)) ((unhide HK3).isF (unhide HF2)))
    have HTK:Hid (rs.take (k+1)=rs.take k++[r]):=by
     show _=_
     rw [List.take_add_one]
     have:rs[k]? =some r:=by
      have:=congrArg (fun l=>l[0]?) (unhide HRL)
      simpa using this
     rw [this];rfl
    clear hown3 hgrow3 hol
    go_wp2_with fail
    go_roundw
    case rel=>
     refine ⟨k+1,ps++[(some ad)],by omega,by simp;omega,by go_num,unhide HO3, ?_,unhide HB3⟩
     rw [unhide HTK];exact unhide HF3
    case measure=>simp [intOf];omega
  ·go_wp2_with fail
   go_ret
   have hkk:k=rs.length:=by omega
   subst hkk
   have hfs:=unhide HFS
   rw [List.take_length] at hfs
   exact ⟨_,ps,rfl,owns_mono (unhide HOW) (by omega),hfs,unhide HBW⟩
end Go.Proofs.YtidakhhekofkoaaGreatDoor
