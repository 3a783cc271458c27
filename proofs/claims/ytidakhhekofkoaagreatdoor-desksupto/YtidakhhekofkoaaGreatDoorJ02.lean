/- Plain mathematics of the tokens of a text: no program in it. What a text's tokens are (kind, text, place); the kinds are numbers: 0 the end, 1 a stray byte, 2 a name, 3 a digit, 4 to 8 the five words, 9 to 13 the letters X N F G U, 14 the arrow, 15 to 21 the signs. -/
import Derived.WalkKit
import Derived.Lib.Strings
set_option linter.unusedSectionVars false
namespace Go.Proofs.YtidakhhekofkoaaGreatDoor
def isLet (c:UInt8):Bool:=decide (97≤c.toNat)&&decide (c.toNat≤122)
def isBl (c:UInt8):Bool:=c.toNat==32||(c.toNat==9||c.toNat==10)
def span (p:UInt8→Bool):List UInt8→Nat
 |[]=>0
 |c::r=>if p c then span p r+1 else 0
def upTo (p:UInt8→Bool) (s:ByteArray) (i:Nat):Nat:=i+span p (s.data.toList.drop i)
theorem size_data (s:ByteArray):s.data.toList.length=s.size:=rfl
theorem drop_at (s:ByteArray) (i:Nat) (h:i<s.size):s.data.toList.drop i=s[i]::s.data.toList.drop (i+1):=by
 have h':i<s.data.toList.length:=by rw [size_data];exact h
 rw [List.drop_eq_getElem_cons h']
 rfl
theorem span_le (p:UInt8→Bool) (l:List UInt8):span p l≤l.length:=by
 induction l with
 |nil=>exact Nat.le_refl _
 |cons c r ih=>unfold span;split<;>simp<;>omega
theorem upTo_yes (p:UInt8→Bool) (s:ByteArray) (i:Nat) (h:i<s.size) (hp:p s[i]=true):upTo p s i=upTo p s (i+1):=by
 unfold upTo;rw [drop_at s i h,span,if_pos hp];omega
theorem upTo_no (p:UInt8→Bool) (s:ByteArray) (i:Nat) (h:i<s.size) (hp:p s[i]=false):upTo p s i=i:=by
 unfold upTo;rw [drop_at s i h,span,hp];rfl
theorem upTo_end (p:UInt8→Bool) (s:ByteArray) (i:Nat) (h:s.size≤i):upTo p s i=i:=by
 unfold upTo;rw [List.drop_eq_nil_of_le (by rw [size_data];exact h)];rfl
theorem upTo_ge (p:UInt8→Bool) (s:ByteArray) (i:Nat):i≤upTo p s i:=by unfold upTo;omega
theorem upTo_le (p:UInt8→Bool) (s:ByteArray) (i:Nat) (h:i≤s.size):upTo p s i≤s.size:=by
 have:=span_le p (s.data.toList.drop i)
 rw [List.length_drop,size_data] at this
 unfold upTo;omega
def hasC (l:List UInt8) (c:UInt8):Bool:=
 match l with
 |[]=>false
 |d::r=>if d.toNat=c.toNat then true else hasC r c
theorem hasC_yes (s:ByteArray) (c:UInt8) (k:Nat) (h:k<s.size) (e:s[k].toNat=c.toNat):hasC (s.data.toList.drop k) c=true:=by
 rw [drop_at s k h,hasC,if_pos e]
theorem hasC_no (s:ByteArray) (c:UInt8) (k:Nat) (h:k<s.size) (e:¬ s[k].toNat=c.toNat):hasC (s.data.toList.drop k) c=hasC (s.data.toList.drop (k+1)) c:=by
 rw [drop_at s k h,hasC,if_neg e]
theorem hasC_end (s:ByteArray) (c:UInt8) (k:Nat) (h:s.size≤k):hasC (s.data.toList.drop k) c=false:=by
 rw [List.drop_eq_nil_of_le (by rw [size_data];omega)];rfl
structure Tk where
 k:Nat
 s:ByteArray
 p:Nat
def isWord (l:List UInt8):Bool:=l==[97,99,116,115]||(l==[114,117,108,101]||(l==[116,114,117,101]||(l==[102,97,108,115,101]||l==[101,110,100])))
def wordK (l:List UInt8):Nat:=
 if l=[97,99,116,115] then 4 else if l=[114,117,108,101] then 5 else if l=[116,114,117,101] then 6 else if l=[102,97,108,115,101] then 7 else if l=[101,110,100] then 8 else 2
def signK (c:Nat):Nat:=
 if c=88 then 9 else if c=78 then 10 else if c=70 then 11 else if c=71 then 12 else if c=85 then 13 else
 if c=124 then 15 else if c=38 then 16 else if c=33 then 17 else if c=40 then 18 else if c=41 then 19 else if c=44 then 20 else if c=59 then 21 else 1
def lexAt (s:ByteArray) (j:Nat):Tk:=
 if h:j<s.size then
  if isLet s[j] then ⟨wordK (s.extract j (upTo isLet s j)).data.toList,s.extract j (upTo isLet s j),j⟩
  else if 48≤s[j].toNat∧s[j].toNat≤57 then ⟨3,s.extract j (j+1),j⟩
  else if h2:j+1<s.size then
   if s[j].toNat=45∧s[j+1].toNat=62 then ⟨14,⟨#[45,62]⟩,j⟩
   else ⟨signK s[j].toNat,s.extract j (j+1),j⟩
  else ⟨signK s[j].toNat,s.extract j (j+1),j⟩
 else ⟨0,ByteArray.empty,s.size⟩
theorem lex_end (s:ByteArray) (k:Nat) (h:s.size≤k):lexAt s k=⟨0,ByteArray.empty,s.size⟩:=by
 unfold lexAt;rw [dif_neg (by omega)]
theorem lex_name (s:ByteArray) (k:Nat) (h:k<s.size) (hl:isLet s[k]=true):lexAt s k=⟨wordK (s.extract k (upTo isLet s k)).data.toList,s.extract k (upTo isLet s k),k⟩:=by
 unfold lexAt;rw [dif_pos h,if_pos hl]
theorem lex_digit (s:ByteArray) (k:Nat) (h:k<s.size) (h1:48≤s[k].toNat) (h2:s[k].toNat≤57):lexAt s k=⟨3,s.extract k (k+1),k⟩:=by
 unfold lexAt;rw [dif_pos h,if_neg (by simp [isLet];omega),if_pos ⟨h1,h2⟩]
theorem lex_arrow (s:ByteArray) (k:Nat) (h:k<s.size) (h1:s[k].toNat=45) (h2:k+1<s.size) (h3:s[k+1].toNat=62):lexAt s k=⟨14,⟨#[45,62]⟩,k⟩:=by
 unfold lexAt;rw [dif_pos h,if_neg (by simp [isLet];omega),if_neg (by omega),dif_pos h2,if_pos ⟨h1,h3⟩]
theorem lex_sign (s:ByteArray) (k:Nat) (h:k<s.size) (hl:isLet s[k]=false) (hd:¬ (48≤s[k].toNat∧s[k].toNat≤57)) (ha:¬ (s[k].toNat=45∧ ∃h2:k+1<s.size,s[k+1].toNat=62)):
  lexAt s k=⟨signK s[k].toNat,s.extract k (k+1),k⟩:=by
 unfold lexAt;rw [dif_pos h,if_neg (by simp [hl]),if_neg hd]
 split
 ·rename_i h2;rw [if_neg (fun e=>ha ⟨e.1,h2,e.2⟩)]
 ·rfl
theorem upTo_pos (s:ByteArray) (k:Nat) (h:k<s.size) (e:k<upTo isLet s k):isLet s[k]=true:=by
 cases hl:isLet s[k] with
 |true=>rfl
 |false=>rw [upTo_no isLet s k h hl] at e;omega
theorem wordK_word (l:List UInt8):isWord l=true→4≤wordK l∧wordK l≤8:=by
 intro h
 unfold wordK
 simp only [isWord,Bool.or_eq_true,beq_iff_eq] at h
 repeat (split;· omega)
 rcases h with h|h|h|h|h<;>contradiction
theorem wordK_none (l:List UInt8):isWord l=false→wordK l=2:=by
 intro h
 unfold wordK
 simp only [isWord,Bool.or_eq_false_iff,beq_eq_false_iff_ne] at h
 obtain ⟨h1,h2,h3,h4,h5⟩:=h
 rw [if_neg h1,if_neg h2,if_neg h3,if_neg h4,if_neg h5]
def signs12:List UInt8:=[88,78,70,71,85,124,38,33,40,41,44,59]
theorem signK_has (c:UInt8):hasC signs12 c=true→9≤signK c.toNat:=by
 intro h
 have h':c.toNat=88∨c.toNat=78∨c.toNat=70∨c.toNat=71∨c.toNat=85∨c.toNat=124∨c.toNat=38∨c.toNat=33∨c.toNat=40∨c.toNat=41∨c.toNat=44∨c.toNat=59:=by
  simp [hasC,signs12] at h;omega
 clear h
 generalize c.toNat=n at h'
 rcases h' with h|h|h|h|h|h|h|h|h|h|h|h<;>subst h<;>decide
theorem signK_hasnt (c:UInt8):hasC signs12 c=false→signK c.toNat=1:=by
 intro h
 have h':¬ (c.toNat=88∨c.toNat=78∨c.toNat=70∨c.toNat=71∨c.toNat=85∨c.toNat=124∨c.toNat=38∨c.toNat=33∨c.toNat=40∨c.toNat=41∨c.toNat=44∨c.toNat=59):=by
  simp [hasC,signs12] at h;omega
 clear h
 generalize c.toNat=n at h'
 simp only [not_or] at h'
 obtain ⟨a,b,c,d,e,f,g,h,i,j,k,l⟩:=h'
 simp only [signK,a,b,c,d,e,f,g,h,i,j,k,l,if_false]
theorem lexAt_p (s:ByteArray) (j:Nat) (h:j≤s.size):(lexAt s j).p=j:=by
 unfold lexAt
 split
 ·repeat' split
  all_goals rfl
 ·show s.size=j;omega
theorem lexAt_s (s:ByteArray) (j:Nat) (h:j≤s.size):j+(lexAt s j).s.size≤s.size:=by
 unfold lexAt
 split
 ·rename_i hj
  split
  ·have:=upTo_le isLet s j h
   show j+(s.extract j (upTo isLet s j)).size≤_
   rw [ByteArray.size_extract];omega
  ·split
   ·show j+(s.extract j (j+1)).size≤_
    rw [ByteArray.size_extract];omega
   ·split
    ·split
     ·show j+2≤_;omega
     ·show j+(s.extract j (j+1)).size≤_
      rw [ByteArray.size_extract];omega
    ·show j+(s.extract j (j+1)).size≤_
     rw [ByteArray.size_extract];omega
 ·show j+0≤_;omega
theorem lexAt_pos (s:ByteArray) (j:Nat) (h:j≤s.size) (hk:(lexAt s j).k≠0):1≤(lexAt s j).s.size:=by
 revert hk
 unfold lexAt
 split
 ·rename_i hj
  intro _
  split
  ·rename_i hl
   have h1:=upTo_le isLet s j h
   have h2:=upTo_ge isLet s (j+1)
   rw [←upTo_yes isLet s j hj hl] at h2
   show 1≤(s.extract j (upTo isLet s j)).size
   rw [ByteArray.size_extract];omega
  ·split
   ·show 1≤(s.extract j (j+1)).size
    rw [ByteArray.size_extract];omega
   ·split
    ·split
     ·show 1≤2;omega
     ·show 1≤(s.extract j (j+1)).size
      rw [ByteArray.size_extract];omega
    ·show 1≤(s.extract j (j+1)).size
     rw [ByteArray.size_extract];omega
 ·intro hk;exact absurd rfl hk
def lexR (s:ByteArray):Nat→Nat→List Tk
 |0,_=>[]
 |n+1,i=>let t:=lexAt s (upTo isBl s i);if t.k≤1 then [t] else t::lexR s n (t.p+t.s.size)
theorem lexR_stop (s:ByteArray) (n i:Nat) (h:(lexAt s (upTo isBl s i)).k≤1):lexR s (n+1) i=[lexAt s (upTo isBl s i)]:=by
 rw [lexR];exact if_pos h
theorem lexR_go (s:ByteArray) (n i:Nat) (h:¬ (lexAt s (upTo isBl s i)).k≤1):lexR s (n+1) i=lexAt s (upTo isBl s i)::lexR s n ((lexAt s (upTo isBl s i)).p+(lexAt s (upTo isBl s i)).s.size):=by
 rw [lexR];exact if_neg h
theorem lex_adv (s:ByteArray) (i:Nat) (h:i≤s.size) (hk:¬ (lexAt s (upTo isBl s i)).k≤1):
  i+1≤(lexAt s (upTo isBl s i)).p+(lexAt s (upTo isBl s i)).s.size∧(lexAt s (upTo isBl s i)).p+(lexAt s (upTo isBl s i)).s.size≤s.size:=by
 have h0:=upTo_ge isBl s i
 have h1:=upTo_le isBl s i h
 have h2:=lexAt_p s _ h1
 have h3:=lexAt_s s _ h1
 have h4:=lexAt_pos s _ h1 (by omega)
 omega
def sumS (n c:Nat):Nat:=(n * 251+c+1)%65521
def sumL (n:Nat) (l:List UInt8):Nat:=l.foldl (fun n c=>sumS n c.toNat) n
theorem sumS_lt (n c:Nat):sumS n c<65521:=Nat.mod_lt _ (by decide)
theorem sumL_lt {n:Nat} (hn:n<65521): ∀l:List UInt8,sumL n l<65521:=by
 intro l
 induction l generalizing n with
 |nil=>exact hn
 |cons c r ih=>exact ih (sumS_lt _ _)
theorem sumL_append (n:Nat) (l r:List UInt8):sumL n (l++r)=sumL (sumL n l) r:=by unfold sumL;rw [List.foldl_append]
def u8 (n:Nat):UInt8:=UInt8.ofNat n
theorem u8_inj {a b:Nat} (ha:a<256) (hb:b<256) (h:u8 a=u8 b):a=b:=by
 have:=congrArg UInt8.toNat h
 unfold u8 at this
 rw [UInt8.toNat_ofNat',UInt8.toNat_ofNat'] at this
 omega
theorem u8_toNat {a:Nat} (ha:a<256):(u8 a).toNat=a:=by
 unfold u8
 rw [UInt8.toNat_ofNat']
 omega
def sum2 (l:List UInt8):List UInt8:=[u8 (sumL 3 l / 256),u8 (sumL 3 l%256)]
structure Tb where
 acts:List ByteArray
 fl:List Nat
 nx:List (List Nat)
def actsB:List ByteArray→List UInt8
 |[]=>[]
 |a::r=>u8 a.size::(a.data.toList++actsB r)
def rowsB:List Nat→List (List Nat)→List UInt8
 |f::fs,r::rs=>u8 f::(r.map u8++rowsB fs rs)
 |_,_=>[]
def bodyB (t:Tb):List UInt8:=83::1::u8 t.acts.length::(actsB t.acts++u8 t.nx.length::rowsB t.fl t.nx)
def encB (t:Tb):List UInt8:=bodyB t++sum2 (bodyB t)
structure TbS (t:Tb):Prop where
 al:t.acts.length<256
 as: ∀a∈t.acts,a.size<256
 nl:t.nx.length<256
 fl:t.fl.length=t.nx.length
 fs: ∀f∈t.fl,f<256
 rs: ∀r∈t.nx,r.length=t.acts.length∧ ∀x∈r,x<256
theorem map_inj8: ∀{r r':List Nat} {x y:List UInt8},r.length=r'.length→(∀a∈r,a<256)→(∀a∈r',a<256)→r.map u8++x=r'.map u8++y→r=r'∧x=y
 |[],[],_,_,_,_,_,h=>⟨rfl,h⟩
 |[],_::_,_,_,hl,_,_,_=>by simp at hl
 |_::_,[],_,_,hl,_,_,_=>by simp at hl
 |a::r,b::r',x,y,hl,h1,h2,h=>by
  rw [List.map_cons,List.map_cons,List.cons_append,List.cons_append] at h
  obtain ⟨e1,e2⟩:=List.cons.inj h
  have:=u8_inj (h1 a (List.mem_cons_self ..)) (h2 b (List.mem_cons_self ..)) e1
  obtain ⟨e3,e4⟩:=map_inj8 (by simpa using hl) (fun z hz=>h1 z (List.mem_cons_of_mem _ hz)) (fun z hz=>h2 z (List.mem_cons_of_mem _ hz)) e2
  exact ⟨by rw [this,e3],e4⟩
theorem acts_inj8: ∀{l l':List ByteArray} {x y:List UInt8},l.length=l'.length→(∀a∈l,a.size<256)→(∀a∈l',a.size<256)→actsB l++x=actsB l'++y→l=l'∧x=y
 |[],[],_,_,_,_,_,h=>⟨rfl,h⟩
 |[],_::_,_,_,hl,_,_,_=>by simp at hl
 |_::_,[],_,_,hl,_,_,_=>by simp at hl
 |a::r,b::r',x,y,hl,h1,h2,h=>by
  rw [actsB,actsB,List.cons_append,List.cons_append,List.append_assoc,List.append_assoc] at h
  obtain ⟨e1,e2⟩:=List.cons.inj h
  have hs:=u8_inj (h1 a (List.mem_cons_self ..)) (h2 b (List.mem_cons_self ..)) e1
  have hs':a.data.toList.length=b.data.toList.length:=by rw [Array.length_toList,Array.length_toList];exact hs
  obtain ⟨e3,e4⟩:=List.append_inj e2 hs'
  obtain ⟨e5,e6⟩:=acts_inj8 (by simpa using hl) (fun z hz=>h1 z (List.mem_cons_of_mem _ hz)) (fun z hz=>h2 z (List.mem_cons_of_mem _ hz)) e4
  have:a=b:=ByteArray.ext (Array.toList_inj.1 e3)
  exact ⟨by rw [this,e5],e6⟩
theorem rows_inj8 {n:Nat}: ∀{f f':List Nat} {l l':List (List Nat)} {x y:List UInt8},f.length=l.length→f'.length=l'.length→l.length=l'.length→(∀a∈f,a<256)→(∀a∈f',a<256)→(∀r∈l,r.length=n∧ ∀a∈r,a<256)→(∀r∈l',r.length=n∧ ∀a∈r,a<256)→rowsB f l++x=rowsB f' l'++y→f=f'∧l=l'∧x=y
 |[],[],[],[],_,_,_,_,_,_,_,_,_,h=>⟨rfl,rfl,h⟩
 |[],_,_::_,_,_,_,h1,_,_,_,_,_,_,_=>by simp at h1
 |_::_,_,[],_,_,_,h1,_,_,_,_,_,_,_=>by simp at h1
 |_,[],_,_::_,_,_,_,h2,_,_,_,_,_,_=>by simp at h2
 |_,_::_,_,[],_,_,_,h2,_,_,_,_,_,_=>by simp at h2
 |[],_::_,[],_::_,_,_,_,_,h3,_,_,_,_,_=>by simp at h3
 |_::_,[],_::_,[],_,_,_,_,h3,_,_,_,_,_=>by simp at h3
 |a::f,b::f',r::l,r'::l',x,y,h1,h2,h3,h4,h5,h6,h7,h=>by
  rw [rowsB,rowsB,List.cons_append,List.cons_append,List.append_assoc,List.append_assoc] at h
  obtain ⟨e1,e2⟩:=List.cons.inj h
  have hs:=u8_inj (h4 a (List.mem_cons_self ..)) (h5 b (List.mem_cons_self ..)) e1
  have k6:=h6 r (List.mem_cons_self ..)
  have k7:=h7 r' (List.mem_cons_self ..)
  obtain ⟨e3,e4⟩:=map_inj8 (k6.1.trans k7.1.symm) k6.2 k7.2 e2
  obtain ⟨e5,e6,e7⟩:=rows_inj8 (by simpa using h1) (by simpa using h2) (by simpa using h3) (fun z hz=>h4 z (List.mem_cons_of_mem _ hz)) (fun z hz=>h5 z (List.mem_cons_of_mem _ hz)) (fun z hz=>h6 z (List.mem_cons_of_mem _ hz)) (fun z hz=>h7 z (List.mem_cons_of_mem _ hz)) e4
  exact ⟨by rw [hs,e5],by rw [e3,e6],e7⟩
theorem body_inj {t t':Tb} (h:TbS t) (h':TbS t') {x y:List UInt8} (e:bodyB t++x=bodyB t'++y):t=t'∧x=y:=by
 unfold bodyB at e
 simp only [List.cons_append,List.append_assoc,List.cons.injEq,true_and] at e
 obtain ⟨e1,e2⟩:=e
 have hl:=u8_inj h.al h'.al e1
 obtain ⟨e3,e4⟩:=acts_inj8 hl h.as h'.as e2
 obtain ⟨e5,e6⟩:=List.cons.inj e4
 have hn:=u8_inj h.nl h'.nl e5
 obtain ⟨e7,e8,e9⟩:=rows_inj8 h.fl h'.fl hn h.fs h'.fs (fun r hr=>⟨(h.rs r hr).1.trans hl,(h.rs r hr).2⟩) h'.rs e6
 cases t;cases t'
 simp only at e3 e7 e8
 subst e3 e7 e8
 exact ⟨rfl,e9⟩
theorem enc_inj {t t':Tb} (h:TbS t) (h':TbS t') (e:encB t=encB t'):t=t':=(body_inj h h' e).1
/-- From state i a trace leads to a state with Accept. -/
def Lives (t : Tb) (i : Nat) : Prop := ∀ P : Nat → Prop, (∀ i f : Nat, t.fl[i]? = some f → f % 2 = 1 → P i) → (∀ (i j : Nat) (r : List Nat), t.nx[i]? = some r → j ∈ r → P j → P i) → P i
theorem Lives.acc {t : Tb} {i f : Nat} (h1 : t.fl[i]? = some f) (h2 : f % 2 = 1) : Lives t i := fun _ a _ => a i f h1 h2
theorem Lives.step {t : Tb} {i j : Nat} {r : List Nat} (h1 : t.nx[i]? = some r) (h2 : j ∈ r) (h : Lives t j) : Lives t i := fun P a s => s i j r h1 h2 (h P a s)
theorem Lives.ind {t : Tb} {motive : (i : Nat) → Lives t i → Prop} (acc : ∀ {i f : Nat} (h1 : t.fl[i]? = some f) (h2 : f % 2 = 1), motive i (.acc h1 h2))
    (step : ∀ {i j : Nat} {r : List Nat} (h1 : t.nx[i]? = some r) (h2 : j ∈ r) (h : Lives t j), motive j h → motive i (.step h1 h2 h)) {i : Nat} (h : Lives t i) : motive i h :=
  (h (fun i => ∃ h : Lives t i, motive i h) (fun _ _ h1 h2 => ⟨.acc h1 h2, acc h1 h2⟩) (fun _ _ _ h1 h2 ⟨h3, h4⟩ => ⟨.step h1 h2 h3, step h1 h2 h3 h4⟩)).elim fun _ k => k
def lv (l:List Bool) (i:Nat):Bool:=l[i]?.getD false
theorem lives_eq {t:Tb} {l:List Bool} (sound: ∀i,lv l i=true→Lives t i) (acc: ∀i f,t.fl[i]? =some f→f%2=1→lv l i=true)
  (closed: ∀i r j,t.nx[i]? =some r→j∈r→lv l j=true→lv l i=true) (i:Nat):lv l i=true↔Lives t i:=
 ⟨sound i,fun h=>by
  induction h using Lives.ind with
  |acc h1 h2=>exact acc _ _ h1 h2
  |step h1 h2 _ ih=>exact closed _ _ _ h1 h2 ih⟩
def lvRow (t:Tb) (l:List Bool) (i:Nat):List Bool:=l.set i (lv l i||((t.nx[i]?.getD []).any (lv l)))
def lvRound (t:Tb) (l:List Bool):List Bool:=(List.range l.length).foldl (lvRow t) l
def LvLe (l l':List Bool):Prop:=l.length=l'.length∧ ∀i,lv l i=true→lv l' i=true
theorem LvLe.refl (l:List Bool):LvLe l l:=⟨rfl,fun _ h=>h⟩
theorem LvLe.trans {a b c:List Bool} (h:LvLe a b) (k:LvLe b c):LvLe a c:=⟨h.1.trans k.1,fun i hi=>k.2 i (h.2 i hi)⟩
theorem lv_set (l:List Bool) (i j:Nat) (b:Bool):lv (l.set i b) j=if i=j∧i<l.length then b else lv l j:=by
 unfold lv
 rw [List.getElem?_set]
 by_cases h:i=j
 ·subst h
  by_cases h2:i<l.length
  ·simp [h2]
  ·simp [h2]
 ·simp [h]
theorem lvRow_le (t:Tb) (l:List Bool) (i:Nat):LvLe l (lvRow t l i):=by
 refine ⟨by unfold lvRow;simp,fun j hj=> ?_⟩
 unfold lvRow
 rw [lv_set]
 split
 ·rename_i h
  rw [h.1,hj]
  rfl
 ·exact hj
theorem foldl_le (t:Tb): ∀(is:List Nat) (l:List Bool),LvLe l (is.foldl (lvRow t) l)
 |[],l=>LvLe.refl l
 |i::r,l=>(lvRow_le t l i).trans (foldl_le t r _)
theorem lvRound_le (t:Tb) (l:List Bool):LvLe l (lvRound t l):=foldl_le t _ l
theorem LvLe.anti {a b:List Bool} (h:LvLe a b) (k:LvLe b a):a=b:=by
 refine List.ext_getElem h.1 fun i h1 h2=> ?_
 have e1:=h.2 i
 have e2:=k.2 i
 unfold lv at e1 e2
 rw [List.getElem?_eq_getElem h1,List.getElem?_eq_getElem h2] at e1 e2
 simp only [Option.getD_some] at e1 e2
 cases ha:a[i]<;>cases hb:b[i]<;>simp_all
theorem LvLe.count: ∀{a b:List Bool},LvLe a b→a.count true≤b.count true∧(a≠b→a.count true<b.count true)
 |[],[],_=>⟨Nat.le_refl _,fun h=>(h rfl).elim⟩
 |[],_::_,h=>by have:=h.1;simp at this
 |_::_,[],h=>by have:=h.1;simp at this
 |x::a,y::b,h=>by
  have ht:LvLe a b:=⟨by simpa using h.1,fun i hi=>by have:=h.2 (i+1);unfold lv at this hi⊢;simpa using this (by simpa using hi)⟩
  have hh:x=true→y=true:=fun hx=>by have:=h.2 0;unfold lv at this;simpa using this (by simpa using hx)
  obtain ⟨k1,k2⟩:=LvLe.count ht
  rw [List.count_cons,List.count_cons]
  cases x<;>cases y
  ·refine ⟨by simpa using k1,fun hn=> ?_⟩
   have:=k2 (fun e=>hn (by rw [e]))
   simpa using this
  ·refine ⟨by simp;omega,fun _=>by simp;omega⟩
  ·exact absurd (hh rfl) (by decide)
  ·refine ⟨by simpa using k1,fun hn=> ?_⟩
   have:=k2 (fun e=>hn (by rw [e]))
   simpa using this
theorem lvRound_closed {t:Tb} {l:List Bool} (h:lvRound t l=l) {i j:Nat} {r:List Nat} (hi:i<l.length) (hr:t.nx[i]? =some r) (hj:j∈r) (hl:lv l j=true):lv l i=true:=by
 have hsame: ∀(is:List Nat),LvLe (is.foldl (lvRow t) l) l→ ∀k∈is,lvRow t l k=l:=by
  intro is
  induction is with
  |nil=>intro _ k hk;exact (List.not_mem_nil hk).elim
  |cons a is ih=>
   intro hle k hk
   have e:lvRow t l a=l:=((lvRow_le t l a).anti ((foldl_le t is (lvRow t l a)).trans hle)).symm
   rcases List.mem_cons.1 hk with rfl|hk
   ·exact e
   ·refine ih ?_ k hk
    rw [List.foldl_cons,e] at hle
    exact hle
 have e:=hsame (List.range l.length) (by show LvLe (lvRound t l) l;rw [h];exact LvLe.refl l) i (List.mem_range.2 hi)
 have e2:lv (lvRow t l i) i=lv l i:=congrArg (fun l=>lv l i) e
 unfold lvRow at e2
 rw [lv_set,if_pos ⟨rfl,hi⟩,hr] at e2
 rw [←e2]
 have:((some r).getD []).any (lv l)=true:=List.any_eq_true.2 ⟨j,hj,hl⟩
 rw [this,Bool.or_true]
theorem lvRow_sound {t:Tb} {l:List Bool} (h: ∀i,lv l i=true→Lives t i) (k:Nat): ∀i,lv (lvRow t l k) i=true→Lives t i:=by
 intro i hi
 unfold lvRow at hi
 rw [lv_set] at hi
 split at hi
 ·rename_i he
  obtain ⟨rfl,_⟩:=he
  rcases Bool.or_eq_true_iff.1 hi with hi|hi
  ·exact h _ hi
  ·obtain ⟨j,hj,hl⟩:=List.any_eq_true.1 hi
   cases hr:t.nx[k]? with
   |none=>rw [hr] at hj;exact (List.not_mem_nil hj).elim
   |some r=>rw [hr] at hj;exact .step hr hj (h j hl)
 ·exact h _ hi
theorem foldl_sound {t:Tb}: ∀(is:List Nat) {l:List Bool},(∀i,lv l i=true→Lives t i)→ ∀i,lv (is.foldl (lvRow t) l) i=true→Lives t i
 |[],_,h=>h
 |k::r,_,h=>foldl_sound r (lvRow_sound h k)
def lvRounds (t:Tb):Nat→List Bool→List Bool
 |0,l=>l
 |n+1,l=>lvRounds t n (lvRound t l)
theorem lvRounds_fix {t:Tb} {l:List Bool} (h:lvRound t l=l): ∀n,lvRounds t n l=l
 |0=>rfl
 |n+1=>by rw [lvRounds,h];exact lvRounds_fix h n
theorem lvRounds_le (t:Tb): ∀n (l:List Bool),LvLe l (lvRounds t n l)
 |0,l=>LvLe.refl l
 |n+1,l=>(lvRound_le t l).trans (lvRounds_le t n _)
theorem lvRounds_sound {t:Tb}: ∀n {l:List Bool},(∀i,lv l i=true→Lives t i)→ ∀i,lv (lvRounds t n l) i=true→Lives t i
 |0,_,h=>h
 |n+1,_,h=>lvRounds_sound n (foldl_sound _ h)
theorem lvRounds_done (t:Tb): ∀n (l:List Bool),l.length≤l.count true+n→lvRound t (lvRounds t n l)=lvRounds t n l
 |0,l,h=>by
  have hc:=(lvRound_le t l).count
  rw [lvRounds]
  apply Classical.byContradiction
  intro hne
  have h1:=hc.2 (fun e=>hne e.symm)
  have h2:=List.count_le_length (a:=true) (l:=lvRound t l)
  have h3:=(lvRound_le t l).1
  omega
 |n+1,l,h=>by
  rw [lvRounds]
  by_cases e:lvRound t l=l
  ·rw [e,lvRounds_fix e];exact e
  ·have h1:=(lvRound_le t l).count.2 (fun x=>e x.symm)
   have h3:=(lvRound_le t l).1
   exact lvRounds_done t n _ (by omega)
def lv0 (t:Tb):List Bool:=t.fl.map fun f=>f%2==1
theorem living_ref {t:Tb} (hf:t.fl.length=t.nx.length) (i:Nat):lv (lvRounds t t.fl.length (lv0 t)) i=true↔Lives t i:=by
 have hlen:(lvRounds t t.fl.length (lv0 t)).length=t.fl.length:=(lvRounds_le t _ _).1.symm.trans (by unfold lv0;simp)
 have hfix:=lvRounds_done t t.fl.length (lv0 t) (by unfold lv0;simp)
 have h0: ∀i f,t.fl[i]? =some f→(lv (lv0 t) i=true↔f%2=1):=fun i f h=>by
  unfold lv lv0
  rw [List.getElem?_map,h]
  simp
 refine lives_eq (lvRounds_sound _ fun i hi=> ?_) (fun i f h1 h2=>(lvRounds_le t _ _).2 i ((h0 i f h1).2 h2)) (fun i r j hr hj hl=> ?_) i
 ·cases h:t.fl[i]? with
  |none=>unfold lv lv0 at hi;rw [List.getElem?_map,h] at hi;simp at hi
  |some f=>exact .acc h ((h0 i f h).1 hi)
 ·refine lvRound_closed hfix ?_ hr hj hl
  rw [hlen,hf]
  exact (List.getElem?_eq_some_iff.1 hr).1
section
variable {σ τ : Type} [DecidableEq σ] [DecidableEq τ]
def fnd (s:σ):List σ→Nat→Option Nat
 |[],_=>none
 |x::r,i=>if x=s then some i else fnd s r (i+1)
def numb (l:List σ) (s:σ):List σ × Nat:=
 match fnd s l 0 with
 |some i=>(l,i)
 |none=>(l++[s],l.length)
def rowN (st:σ→Nat→σ) (s:σ):List Nat→List σ→List σ × List Nat
 |[],l=>(l,[])
 |a::as,l=>((rowN st s as (numb l (st s a)).1).1,(numb l (st s a)).2::(rowN st s as (numb l (st s a)).1).2)
def bfs (st:σ→Nat→σ) (acts:List Nat) (mx:Nat):Nat→Nat→List σ→List (List Nat)→Option (List σ × List (List Nat))
 |0,_,_,_=>none
 |n+1,k,l,rows=>
  match l[k]? with
  |none=>some (l,rows)
  |some s=>if mx<(rowN st s acts l).1.length then none else bfs st acts mx n (k+1) (rowN st s acts l).1 (rows++[(rowN st s acts l).2])
end
def plc {π:Type} (p0:π) (ah:π→Nat→π):List Nat→π
 |[]=>p0
 |a::v=>ah (plc p0 ah v) a
def stepS {π:Type} (ah:π→Nat→π) (S:π→Bool) (a:Nat):π→Bool:=fun p=>S (ah p a)
def readS {π:Type} (ah:π→Nat→π):(π→Bool)→List Nat→(π→Bool)
 |S,[]=>S
 |S,a::u=>readS ah (stepS ah S a) u
section
variable {σ : Type} [DecidableEq σ]
theorem fnd_some {s:σ}: ∀{l:List σ} {i j:Nat},fnd s l i=some j→i≤j∧l[j - i]? =some s
 |[],_,_,h=>by cases h
 |x::r,i,j,h=>by
  rw [fnd] at h
  by_cases e:x=s
  ·rw [if_pos e] at h
   cases h
   exact ⟨Nat.le_refl _,by simp [e]⟩
  ·rw [if_neg e] at h
   have ⟨h1,h2⟩:=fnd_some h
   obtain ⟨k,rfl⟩: ∃k,j=i+1+k:=⟨j - (i+1),by omega⟩
   refine ⟨by omega, ?_⟩
   rw [show i+1+k - i=k+1 by omega]
   rw [show i+1+k - (i+1)=k by omega] at h2
   simpa using h2
theorem fnd_none {s:σ}: ∀{l:List σ} {i:Nat},fnd s l i=none→s∉l
 |[],_,_=>List.not_mem_nil
 |x::r,i,h=>by
  rw [fnd] at h
  by_cases e:x=s
  ·rw [if_pos e] at h;cases h
  ·rw [if_neg e] at h
   intro hm
   rcases List.mem_cons.1 hm with h1|h1
   ·exact e h1.symm
   ·exact fnd_none h h1
theorem numb_spec (l:List σ) (s:σ):(∃x,(numb l s).1=l++x∧ ∀y∈x,y=s)∧(numb l s).1[(numb l s).2]? =some s∧(l.Nodup→(numb l s).1.Nodup):=by
 unfold numb
 cases h:fnd s l 0 with
 |some i=>exact ⟨⟨[],by simp,fun y hy=>(List.not_mem_nil hy).elim⟩,by simpa using (fnd_some h).2,id⟩
 |none=>
  refine ⟨⟨[s],rfl,fun y hy=>List.mem_singleton.1 hy⟩,by simp,fun hn=> ?_⟩
  rw [List.nodup_append]
  refine ⟨hn,by simp,fun a ha b hb=> ?_⟩
  rw [List.mem_singleton] at hb
  subst hb
  intro e
  exact fnd_none h (e▸ha)
theorem getApp {α:Type} {l x:List α} {k:Nat} {a:α} (h:l[k]? =some a):(l++x)[k]? =some a:=by
 rw [List.getElem?_append_left (List.getElem?_eq_some_iff.1 h).1];exact h
theorem rowN_spec (st:σ→Nat→σ) (s:σ): ∀(as:List Nat) (l:List σ),(∃x,(rowN st s as l).1=l++x∧ ∀y∈x,∃a∈as,y=st s a)∧(rowN st s as l).2.length=as.length∧
  (∀(k a:Nat),as[k]? =some a→ ∃j,(rowN st s as l).2[k]? =some j∧(rowN st s as l).1[j]? =some (st s a))∧(l.Nodup→(rowN st s as l).1.Nodup)
 |[],l=>⟨⟨[],by simp [rowN],fun y hy=>(List.not_mem_nil hy).elim⟩,rfl,fun k a h=>by simp at h,id⟩
 |a::as,l=>by
  obtain ⟨⟨x,hx,hxs⟩,h2,h3⟩:=numb_spec l (st s a)
  obtain ⟨⟨y,hy,hys⟩,k2,k3,k4⟩:=rowN_spec st s as (numb l (st s a)).1
  rw [rowN]
  refine ⟨⟨x++y,by rw [hy,hx,List.append_assoc],fun z hz=> ?_⟩,by simp [k2],fun k b hk=> ?_,fun hn=>k4 (h3 hn)⟩
  ·rcases List.mem_append.1 hz with h|h
   ·exact ⟨a,List.mem_cons_self ..,hxs z h⟩
   ·obtain ⟨b,hb,e⟩:=hys z h
    exact ⟨b,List.mem_cons_of_mem _ hb,e⟩
  ·cases k with
   |zero=>
    obtain rfl:a=b:=by simpa using hk
    refine ⟨(numb l (st s a)).2,by simp, ?_⟩
    simp only
    rw [hy]
    exact getApp h2
   |succ k=>
    obtain ⟨j,j1,j2⟩:=k3 k b (by simpa using hk)
    exact ⟨j,by simpa using j1,j2⟩
structure Bfs (st:σ→Nat→σ) (acts:List Nat) (s0:σ) (k:Nat) (l:List σ) (rows:List (List Nat)):Prop where
 first:l[0]? =some s0
 nodup:l.Nodup
 le:k≤l.length
 len:rows.length=k
 row: ∀(i:Nat) (s:σ),i<k→l[i]? =some s→ ∃r,rows[i]? =some r∧r.length=acts.length∧ ∀(j a:Nat),acts[j]? =some a→ ∃m,r[j]? =some m∧l[m]? =some (st s a)
 met: ∀(j:Nat) (s:σ),l[j+1]? =some s→ ∃(i:Nat) (s':σ),i≤j∧i<k∧l[i]? =some s'∧ ∃a∈acts,s=st s' a
theorem Bfs.start (st:σ→Nat→σ) (acts:List Nat) (s0:σ):Bfs st acts s0 0 [s0] []:=
 ⟨rfl,by simp,Nat.zero_le _,rfl,fun i s h=>absurd h (Nat.not_lt_zero _),fun j s h=>by simp at h⟩
theorem Bfs.step {st:σ→Nat→σ} {acts:List Nat} {s0:σ} {k:Nat} {l:List σ} {rows:List (List Nat)} (h:Bfs st acts s0 k l rows) {s:σ} (hs:l[k]? =some s):
  Bfs st acts s0 (k+1) (rowN st s acts l).1 (rows++[(rowN st s acts l).2]):=by
 obtain ⟨⟨x,hx,hxs⟩,h2,h3,h4⟩:=rowN_spec st s acts l
 have hk:=(List.getElem?_eq_some_iff.1 hs).1
 refine ⟨?_,h4 h.nodup, ?_,by simp [h.len],fun i s' hi hs'=> ?_,fun j s' hs'=> ?_⟩
 ·rw [hx];exact getApp h.first
 ·rw [hx,List.length_append];omega
 ·rcases Nat.lt_or_ge i k with hlt|hge
  ·rw [hx,List.getElem?_append_left (by omega)] at hs'
   obtain ⟨r,r1,r2,r3⟩:=h.row i s' hlt hs'
   refine ⟨r,getApp r1,r2,fun j a ha=> ?_⟩
   obtain ⟨m,m1,m2⟩:=r3 j a ha
   exact ⟨m,m1,by rw [hx];exact getApp m2⟩
  ·obtain rfl:i=k:=by omega
   rw [hx,List.getElem?_append_left hk,hs] at hs'
   cases hs'
   refine ⟨_,by rw [List.getElem?_append_right (by rw [h.len];exact Nat.le_refl _),h.len,Nat.sub_self];rfl,h2,fun j a ha=>h3 j a ha⟩
 ·rcases Nat.lt_or_ge (j+1) l.length with hlt|hge
  ·rw [hx,List.getElem?_append_left hlt] at hs'
   obtain ⟨i,s'',i1,i2,i3,i4⟩:=h.met j s' hs'
   exact ⟨i,s'',i1,by omega,by rw [hx];exact getApp i3,i4⟩
  ·rw [hx,List.getElem?_append_right hge] at hs'
   obtain ⟨a,ha,e⟩:=hxs s' (List.mem_of_getElem? hs')
   exact ⟨k,s,by omega,by omega,by rw [hx];exact getApp hs,a,ha,e⟩
theorem bfs_spec {st:σ→Nat→σ} {acts:List Nat} {mx:Nat} {s0:σ}: ∀(n k:Nat) (l:List σ) (rows:List (List Nat)),Bfs st acts s0 k l rows→l.length≤max mx 1→ ∀m r,bfs st acts mx n k l rows=some (m,r)→
  Bfs st acts s0 m.length m r∧m.length≤max mx 1
 |0,_,_,_,_,_,_,_,h=>by cases h
 |n+1,k,l,rows,hb,hl,m,r,h=>by
  rw [bfs] at h
  cases e:l[k]? with
  |none=>
   rw [e] at h
   cases h
   have:k=l.length:=Nat.le_antisymm hb.le (List.getElem?_eq_none_iff.1 e)
   exact ⟨this▸hb,hl⟩
  |some s=>
   rw [e] at h
   simp only at h
   by_cases hm:mx<(rowN st s acts l).1.length
   ·rw [if_pos hm] at h;cases h
   ·rw [if_neg hm] at h
    exact bfs_spec n (k+1) _ _ (hb.step e) (by omega) m r h
end
section
variable {π : Type} [DecidableEq π]
theorem plc_of {p0:π} {ah:π→Nat→π} {n:Nat} {l:List π} {to:List (List Nat)} (h:Bfs ah (List.range n) p0 l.length l to): ∀(k j:Nat) (p:π),j≤k→l[j]? =some p→ ∃v:List Nat,(∀a∈v,a<n)∧p=plc p0 ah v
 |0,j,p,hj,hp=>by
  obtain rfl:j=0:=by omega
  rw [h.first] at hp
  cases hp
  exact ⟨[],fun a ha=>(List.not_mem_nil ha).elim,rfl⟩
 |k+1,j,p,hj,hp=>by
  cases j with
  |zero=>exact plc_of h k 0 p (by omega) hp
  |succ j=>
   obtain ⟨i,s',i1,_,i3,a,ha,e⟩:=h.met j p hp
   obtain ⟨v,hv,e2⟩:=plc_of h k i s' (by omega) i3
   refine ⟨a::v,fun b hb=> ?_,by rw [e,e2];rfl⟩
   rcases List.mem_cons.1 hb with rfl|hb
   ·exact List.mem_range.1 ha
   ·exact hv b hb
def setB (to:List (List Nat)) (b:List Bool) (a:Nat):List Bool:=to.map fun r=>(b[(r[a]?).getD 0]?).getD false
theorem setB_map {p0:π} {ah:π→Nat→π} {n:Nat} {l:List π} {to:List (List Nat)} (h:Bfs ah (List.range n) p0 l.length l to) (S:π→Bool) {a:Nat} (ha:a<n):setB to (l.map S) a=l.map (stepS ah S a):=by
 refine List.ext_getElem? fun i=> ?_
 unfold setB
 rw [List.getElem?_map,List.getElem?_map]
 cases hp:l[i]? with
 |none=>
  have:to[i]? =none:=List.getElem?_eq_none (by rw [h.len];exact List.getElem?_eq_none_iff.1 hp)
  rw [this]
  rfl
 |some p=>
  obtain ⟨r,r1,_,r3⟩:=h.row i p (List.getElem?_eq_some_iff.1 hp).1 hp
  obtain ⟨m,m1,m2⟩:=r3 a a (List.getElem?_range ha)
  rw [r1]
  simp only [Option.map_some]
  rw [m1,Option.getD_some,List.getElem?_map,m2]
  rfl
theorem readS_snoc (ah:π→Nat→π): ∀(u:List Nat) (S:π→Bool) (a:Nat),readS ah S (u++[a])=stepS ah (readS ah S u) a
 |[],_,_=>rfl
 |_::u,_,a=>readS_snoc ah u _ a
end
section
variable {π ρ : Type} [DecidableEq π] [DecidableEq ρ]
end
section
variable {π : Type} [DecidableEq π]
theorem sets_are {p0:π} {ah:π→Nat→π} {keep:π→Bool} {n:Nat} {l:List π} {to:List (List Nat)} {m:List (List Bool)} {r:List (List Nat)}
  (h:Bfs ah (List.range n) p0 l.length l to) (hm:Bfs (setB to) (List.range n) (l.map keep) m.length m r): ∀(k j:Nat) (b:List Bool),j≤k→m[j]? =some b→ ∃u:List Nat,(∀a∈u,a<n)∧b=l.map (readS ah keep u)
 |0,j,b,hj,hb=>by
  obtain rfl:j=0:=by omega
  rw [hm.first] at hb
  cases hb
  exact ⟨[],fun a ha=>(List.not_mem_nil ha).elim,rfl⟩
 |k+1,j,b,hj,hb=>by
  cases j with
  |zero=>exact sets_are h hm k 0 b (by omega) hb
  |succ j=>
   obtain ⟨i,s',i1,_,i3,a,ha,e⟩:=hm.met j b hb
   obtain ⟨u,hu,e2⟩:=sets_are h hm k i s' (by omega) i3
   have ha':=List.mem_range.1 ha
   refine ⟨u++[a],fun c hc=> ?_,by rw [e,e2,setB_map h _ ha',readS_snoc]⟩
   rcases List.mem_append.1 hc with hc|hc
   ·exact hu c hc
   ·rw [List.mem_singleton] at hc
    rw [hc]
    exact ha'
theorem mem_of_getD {b:List Bool} {k:Nat} (h:(b[k]?).getD false=true):true∈b:=by
 cases e:b[k]? with
 |none=>rw [e] at h;cases h
 |some x=>rw [e] at h;exact List.mem_of_getElem? (e.trans (congrArg some h))
theorem lives_any {p0:π} {ah:π→Nat→π} {keep:π→Bool} {n:Nat} {l:List π} {to:List (List Nat)} {m:List (List Bool)} {t:Tb}
  (h:Bfs ah (List.range n) p0 l.length l to) (hm:Bfs (setB to) (List.range n) (l.map keep) m.length m t.nx)
  (hf: ∀(i:Nat) (b:List Bool),m[i]? =some b→ ∃f,t.fl[i]? =some f∧(f%2=1↔(b[0]?).getD false=true)) {i:Nat} {b:List Bool} (hb:m[i]? =some b):Lives t i↔true∈b:=by
 constructor
 ·intro hL
  induction hL using Lives.ind generalizing b with
  |acc h1 h2=>
   obtain ⟨f,f1,f2⟩:=hf _ _ hb
   rw [h1] at f1
   cases f1
   exact mem_of_getD (f2.1 h2)
  |step hr hj _ ih=>
   obtain ⟨r',r1,r2,r3⟩:=hm.row _ _ (List.getElem?_eq_some_iff.1 hb).1 hb
   rw [hr] at r1
   cases r1
   obtain ⟨q,hq⟩:=List.mem_iff_getElem?.1 hj
   have hqn:q<n:=by
    have:=(List.getElem?_eq_some_iff.1 hq).1
    rw [r2,List.length_range] at this
    exact this
   obtain ⟨j,j1,j2⟩:=r3 q q (List.getElem?_range hqn)
   rw [hq] at j1
   cases j1
   have:=ih j2
   unfold setB at this
   obtain ⟨_,_,e⟩:=List.mem_map.1 this
   exact mem_of_getD e
 ·intro ht
  have key: ∀(v:List Nat) (i:Nat) (S:π→Bool),(∀a∈v,a<n)→m[i]? =some (l.map S)→S (plc p0 ah v)=true→Lives t i:=by
   intro v
   induction v with
   |nil=>
    intro i S _ hi hS
    obtain ⟨f,f1,f2⟩:=hf _ _ hi
    refine .acc f1 (f2.2 ?_)
    rw [List.getElem?_map,h.first]
    exact hS
   |cons a v ih=>
    intro i S hv hi hS
    have ha:=hv a (List.mem_cons_self ..)
    obtain ⟨r',r1,_,r3⟩:=hm.row _ _ (List.getElem?_eq_some_iff.1 hi).1 hi
    obtain ⟨j,j1,j2⟩:=r3 a a (List.getElem?_range ha)
    rw [setB_map h S ha] at j2
    exact .step r1 (List.mem_of_getElem? j1) (ih j (stepS ah S a) (fun c hc=>hv c (List.mem_cons_of_mem _ hc)) j2 hS)
  obtain ⟨u,_,rfl⟩:=sets_are h hm i i b (Nat.le_refl _) hb
  obtain ⟨p,hp,hS⟩:=List.mem_map.1 ht
  obtain ⟨k,hk⟩:=List.mem_iff_getElem?.1 hp
  obtain ⟨v,hv,rfl⟩:=plc_of h k k p (Nat.le_refl _) hk
  exact key v i _ hv hb hS
end
def accT (t:Tb) (i:Nat):Bool:=(t.fl[i]?.getD 0)%2==1
section
variable {π : Type} [DecidableEq π]
end
structure Tz where
 acts:List ByteArray
 fl:List Int
 nx:List (List Int)
def zI (l:List Nat):List Int:=l.map fun n:Nat=>(n:Int)
def Tb.z (t:Tb):Tz:=⟨t.acts,zI t.fl,t.nx.map zI⟩
theorem zI_inj {a b:List Nat} (h:zI a=zI b):a=b:=by
 unfold zI at h
 exact (List.map_inj_right (f:=fun n:Nat=>(n:Int)) (fun x y e=>Int.ofNat.inj e)).1 h
theorem Tb.z_inj {t u:Tb} (h:t.z=u.z):t=u:=by
 cases t;cases u
 unfold Tb.z at h
 simp only [Tz.mk.injEq] at h
 obtain ⟨h1,h2,h3⟩:=h
 rw [h1,zI_inj h2,(List.map_inj_right (fun x y e=>zI_inj e)).1 h3]
structure NmOk (s:ByteArray):Prop where
 n1:1≤s.size
 n8:s.size≤8
 lt: ∀c∈s.data.toList,isLet c=true
 wd:isWord s.data.toList=false
structure ActsOk (l:List ByteArray):Prop where
 n1:1≤l.length
 n6:l.length≤6
 nm: ∀a∈l,NmOk a
 nd:l.Nodup
structure RightT (t:Tb):Prop where
 acts:ActsOk t.acts
 n1:1≤t.nx.length
 n100:t.nx.length≤100
 fl:t.fl.length=t.nx.length
 rs: ∀r∈t.nx,r.length=t.acts.length∧ ∀x∈r,x<t.nx.length
 fs: ∀f∈t.fl,f≤3
 alive: ∀(i f:Nat),t.fl[i]? =some f→(2≤f↔Lives t i)
def RightZ (z:Tz):Prop:= ∃t:Tb,z=t.z∧RightT t
theorem RightT.s {t:Tb} (h:RightT t):TbS t:=
 ⟨by have:=h.acts.n6;omega,fun a ha=>by have:=(h.acts.nm a ha).n8;omega,by have:=h.n100;omega,h.fl,fun f hf=>by have:=h.fs f hf;omega,
  fun r hr=>⟨(h.rs r hr).1,fun x hx=>by have:=(h.rs r hr).2 x hx;have:=h.n100;omega⟩⟩
theorem actsB_len: ∀(l:List ByteArray),(∀a∈l,a.size≤8)→(actsB l).length≤9 * l.length
 |[],_=>Nat.le_refl _
 |a::r,h=>by
  have h1:=h a (List.mem_cons_self ..)
  have h2:=actsB_len r (fun b hb=>h b (List.mem_cons_of_mem _ hb))
  rw [actsB,List.length_cons,List.length_append,size_data,List.length_cons]
  omega
theorem rowsB_len (n:Nat): ∀(fs:List Nat) (l:List (List Nat)),(∀r∈l,r.length≤n)→(rowsB fs l).length≤(n+1) * l.length
 |[],l,_=>by cases l<;>simp [rowsB]
 |_::_,[],_=>by simp [rowsB]
 |f::fs,r::l,h=>by
  have h1:=h r (List.mem_cons_self ..)
  have h2:=rowsB_len n fs l (fun b hb=>h b (List.mem_cons_of_mem _ hb))
  rw [rowsB,List.length_cons,List.length_append,List.length_map,List.length_cons,Nat.mul_add]
  omega
theorem RightT.few {t:Tb} (h:RightT t):(encB t).length≤1000:=by
 have h1:=actsB_len t.acts (fun a ha=>(h.acts.nm a ha).n8)
 have h2:=rowsB_len 6 t.fl t.nx (fun r hr=>by rw [(h.rs r hr).1];exact h.acts.n6)
 have h3:=h.acts.n6
 have h4:=h.n100
 have:(sum2 (bodyB t)).length=2:=rfl
 unfold encB
 rw [List.length_append,this]
 unfold bodyB
 simp only [List.length_cons,List.length_append]
 omega
theorem RightT.many {t:Tb} (h:RightT t):10≤(encB t).length:=by
 have h1:=h.acts.n1
 have h2:=h.n1
 have h3:=h.fl
 have:(sum2 (bodyB t)).length=2:=rfl
 unfold encB
 rw [List.length_append,this]
 unfold bodyB
 simp only [List.length_cons,List.length_append]
 have ha:2≤(actsB t.acts).length:=by
  cases hc:t.acts with
  |nil=>rw [hc] at h1;simp at h1
  |cons a r=>
   have:=(h.acts.nm a (by rw [hc];exact List.mem_cons_self ..)).n1
   rw [actsB,List.length_cons,List.length_append,size_data]
   omega
 have hr:2≤(rowsB t.fl t.nx).length:=by
  cases hc:t.nx with
  |nil=>rw [hc] at h2;simp at h2
  |cons r l=>
   cases hf:t.fl with
   |nil=>rw [hf,hc] at h3;simp at h3
   |cons f fs=>
    have:=(h.rs r (by rw [hc];exact List.mem_cons_self ..)).1
    rw [rowsB,List.length_cons,List.length_append,List.length_map]
    omega
 omega
def DecR (b:List UInt8):Option Tb→Prop
 |some t=>RightT t∧encB t=b
 |none=> ∀t,RightT t→encB t≠b
theorem DecR.uniq {b:List UInt8} {o o':Option Tb} (h:DecR b o) (h':DecR b o'):o=o':=by
 cases o with
 |none=>
  cases o' with
  |none=>rfl
  |some t=>exact absurd h'.2 (h t h'.1)
 |some t=>
  cases o' with
  |none=>exact absurd h.2 (h' t h.1)
  |some u=>rw [enc_inj h.1.s h'.1.s (h.2.trans h'.2.symm)]
def numB:List UInt8→Nat × List UInt8
 |[]=>(0,[])
 |c::r=>(c.toNat,r)
def numsB:Nat→List UInt8→List Nat × List UInt8
 |0,l=>([],l)
 |n+1,l=>((numB l).1::(numsB n (numB l).2).1,(numsB n (numB l).2).2)
def txtB (n:Nat) (l:List UInt8):ByteArray × List UInt8:=(⟨(l.take n).toArray⟩,l.drop n)
def actsP:Nat→List UInt8→List ByteArray × List UInt8
 |0,l=>([],l)
 |n+1,l=>((txtB (numB l).1 (numB l).2).1::(actsP n (txtB (numB l).1 (numB l).2).2).1,(actsP n (txtB (numB l).1 (numB l).2).2).2)
def rowsP (k:Nat):Nat→List UInt8→(List Nat × List (List Nat)) × List UInt8
 |0,l=>(([],[]),l)
 |n+1,l=>(((numB l).1::(rowsP k n (numsB k (numB l).2).2).1.1,(numsB k (numB l).2).1::(rowsP k n (numsB k (numB l).2).2).1.2),(rowsP k n (numsB k (numB l).2).2).2)
def parA (b:List UInt8):List ByteArray × List UInt8:=actsP (numB (b.drop 2)).1 (numB (b.drop 2)).2
def parB (b:List UInt8):Tb:=⟨(parA b).1,(rowsP (parA b).1.length (numB (parA b).2).1 (numB (parA b).2).2).1.1,(rowsP (parA b).1.length (numB (parA b).2).1 (numB (parA b).2).2).1.2⟩
theorem numB_u8 {n:Nat} (h:n<256) (r:List UInt8):numB (u8 n::r)=(n,r):=by rw [numB,u8_toNat h]
theorem numsB_map: ∀(l:List Nat) (r:List UInt8),(∀x∈l,x<256)→numsB l.length (l.map u8++r)=(l,r)
 |[],r,_=>rfl
 |a::l,r,h=>by
  rw [List.length_cons,numsB,List.map_cons,List.cons_append,numB_u8 (h a (List.mem_cons_self ..))]
  simp only
  rw [numsB_map l r (fun x hx=>h x (List.mem_cons_of_mem _ hx))]
theorem txtB_app (s:ByteArray) (r:List UInt8):txtB s.size (s.data.toList++r)=(s,r):=by
 unfold txtB
 rw [←size_data,List.take_left,List.drop_left]
theorem actsP_actsB: ∀(l:List ByteArray) (r:List UInt8),(∀a∈l,a.size<256)→actsP l.length (actsB l++r)=(l,r)
 |[],r,_=>rfl
 |a::l,r,h=>by
  rw [List.length_cons,actsP,actsB,List.cons_append,numB_u8 (h a (List.mem_cons_self ..))]
  simp only
  rw [List.append_assoc,txtB_app]
  simp only
  rw [actsP_actsB l r (fun x hx=>h x (List.mem_cons_of_mem _ hx))]
theorem rowsP_rowsB (k:Nat): ∀(fs:List Nat) (l:List (List Nat)) (r:List UInt8),fs.length=l.length→(∀f∈fs,f<256)→(∀x∈l,x.length=k∧ ∀y∈x,y<256)→rowsP k l.length (rowsB fs l++r)=((fs,l),r)
 |[],[],r,_,_,_=>rfl
 |[],_::_,_,h,_,_=>by simp at h
 |_::_,[],_,h,_,_=>by simp at h
 |f::fs,x::l,r,h1,h2,h3=>by
  have hx:=h3 x (List.mem_cons_self ..)
  rw [List.length_cons,rowsP,rowsB,List.cons_append,numB_u8 (h2 f (List.mem_cons_self ..))]
  simp only
  rw [List.append_assoc,←hx.1,numsB_map x _ hx.2]
  simp only
  rw [hx.1,rowsP_rowsB k fs l r (by simpa using h1) (fun y hy=>h2 y (List.mem_cons_of_mem _ hy)) (fun y hy=>h3 y (List.mem_cons_of_mem _ hy))]
theorem parB_enc {t:Tb} (h:TbS t):parB (encB t)=t:=by
 have e:(encB t).drop 2=u8 t.acts.length::(actsB t.acts++(u8 t.nx.length::(rowsB t.fl t.nx++sum2 (bodyB t)))):=by
  unfold encB
  generalize sum2 (bodyB t)=y
  unfold bodyB
  simp
 have hA:parA (encB t)=(t.acts,u8 t.nx.length::(rowsB t.fl t.nx++sum2 (bodyB t))):=by
  unfold parA
  rw [e,numB_u8 h.al]
  exact actsP_actsB _ _ h.as
 unfold parB
 rw [hA]
 simp only
 rw [numB_u8 h.nl]
 simp only
 rw [rowsP_rowsB t.acts.length t.fl t.nx _ h.fl h.fs h.rs]
theorem DecR.not {b:List UInt8} (h:RightT (parB b)→encB (parB b)≠b):DecR b none:=fun t ht e=>by
 have:parB b=t:=by rw [←e];exact parB_enc ht.s
 rw [this] at h
 exact h ht e
theorem numB_lt (l:List UInt8):(numB l).1<256:=by
 cases l with
 |nil=>exact (by decide:(0:Nat)<256)
 |cons c r=>exact c.toNat_lt
theorem numB_len (l:List UInt8):(numB l).2.length≤l.length:=by
 cases l with
 |nil=>exact Nat.le_refl _
 |cons c r=>exact Nat.le_succ _
def stOk (n:Nat) (x:Int):Bool:=decide (0≤x)&&decide (x<(n:Int))
theorem stOk_iff {n:Nat} {x:Int}:stOk n x=true↔0≤x∧x<(n:Int):=by unfold stOk;simp
structure RowsOk (z:Tz):Prop where
 n1:1≤z.nx.length
 n100:z.nx.length≤100
 fl:z.fl.length=z.nx.length
 rs: ∀r∈z.nx,r.length=z.acts.length∧r.all (stOk z.nx.length)=true
def absT (z:Tz):Tb:=⟨z.acts,z.fl.map fun f=>(f%2).toNat,z.nx.map fun r=>r.map Int.toNat⟩
def FlagsOk (z:Tz):Prop:= ∀(i:Nat) (f:Int),z.fl[i]? =some f→0≤f∧f≤3∧(2≤f↔Lives (absT z) i)
theorem lives_mod {t u:Tb} (hn:t.nx=u.nx) (hf: ∀(i f:Nat),t.fl[i]? =some f→f%2=1→ ∃g,u.fl[i]? =some g∧g%2=1) {i:Nat} (h:Lives t i):Lives u i:=by
 induction h using Lives.ind with
 |acc h1 h2=>
  obtain ⟨g,g1,g2⟩:=hf _ _ h1 h2
  exact .acc g1 g2
 |step h1 h2 _ ih=>exact .step (hn▸h1) h2 ih
theorem toNat_z (l:List Nat):(zI l).map Int.toNat=l:=by
 unfold zI
 rw [List.map_map]
 conv=>rhs;rw [←List.map_id l]
 exact List.map_congr_left fun a _=>Int.toNat_natCast a
theorem z_toNat {l:List Int} (h: ∀x∈l,0≤x):zI (l.map Int.toNat)=l:=by
 unfold zI
 rw [List.map_map]
 conv=>rhs;rw [←List.map_id l]
 exact List.map_congr_left fun a ha=>Int.toNat_of_nonneg (h a ha)
theorem absT_z (t:Tb) (i:Nat):Lives (absT t.z) i↔Lives t i:=by
 have hn:(absT t.z).nx=t.nx:=by
  unfold absT Tb.z
  simp only
  rw [List.map_map]
  conv=>rhs;rw [←List.map_id t.nx]
  exact List.map_congr_left fun r _=>toNat_z r
 have hfl: ∀i:Nat,(absT t.z).fl[i]? =(t.fl[i]?).map (· %2):=fun i=>by
  unfold absT Tb.z zI
  simp only [List.getElem?_map]
  cases t.fl[i]? with
  |none=>rfl
  |some f=>simp only [Option.map_some,Option.some.injEq];omega
 constructor
 ·refine lives_mod hn fun i f h1 h2=> ?_
  rw [hfl] at h1
  cases e:t.fl[i]? with
  |none=>rw [e] at h1;cases h1
  |some g=>
   rw [e] at h1
   have:g%2=f:=Option.some.inj h1
   exact ⟨g,rfl,by omega⟩
 ·refine lives_mod hn.symm fun i f h1 h2=>⟨f%2, ?_,by omega⟩
  rw [hfl,h1]
  rfl
theorem right_iff (z:Tz):RightZ z↔ActsOk z.acts∧RowsOk z∧FlagsOk z:=by
 constructor
 ·rintro ⟨t,rfl,h⟩
  have hnl:t.z.nx.length=t.nx.length:=by unfold Tb.z;simp
  refine ⟨h.acts,⟨by rw [hnl];exact h.n1,by rw [hnl];exact h.n100,by rw [hnl];unfold Tb.z zI;simp only [List.length_map];exact h.fl,fun r hr=> ?_⟩,fun i f hi=> ?_⟩
  ·have hr':r∈t.nx.map zI:=hr
   obtain ⟨q,hq,rfl⟩:=List.mem_map.1 hr'
   have k:=h.rs q hq
   refine ⟨by unfold zI;rw [List.length_map];exact k.1,List.all_eq_true.2 fun x hx=> ?_⟩
   unfold zI at hx
   obtain ⟨y,hy,rfl⟩:=List.mem_map.1 hx
   rw [hnl,stOk_iff]
   have:=k.2 y hy
   omega
  ·rw [absT_z]
   have hi':(zI t.fl)[i]? =some f:=hi
   unfold zI at hi'
   rw [List.getElem?_map] at hi'
   cases e:t.fl[i]? with
   |none=>rw [e] at hi';cases hi'
   |some g=>
    rw [e] at hi'
    have hg:(g:Int)=f:=Option.some.inj hi'
    have h3:=h.fs g (List.mem_of_getElem? e)
    have h4:=h.alive i g e
    refine ⟨by omega,by omega, ?_⟩
    rw [←h4]
    omega
 ·rintro ⟨h1,h2,h3⟩
  have hfp: ∀x∈z.fl,0≤x:=fun x hx=>by
   obtain ⟨i,hi⟩:=List.mem_iff_getElem?.1 hx
   exact (h3 i x hi).1
  have hrp: ∀r∈z.nx,∀x∈r,0≤x:=fun r hr x hx=>(stOk_iff.1 (List.all_eq_true.1 (h2.rs r hr).2 x hx)).1
  have hz:z=Tb.z ⟨z.acts,z.fl.map Int.toNat,z.nx.map fun r=>r.map Int.toNat⟩:=by
   unfold Tb.z
   simp only
   rw [z_toNat hfp,List.map_map]
   have:z.nx.map (zI∘fun r=>r.map Int.toNat)=z.nx:=by
    conv=>rhs;rw [←List.map_id z.nx]
    exact List.map_congr_left fun r hr=>z_toNat (hrp r hr)
   rw [this]
  refine ⟨⟨z.acts,z.fl.map Int.toNat,z.nx.map fun r=>r.map Int.toNat⟩,hz,h1,by simpa using h2.n1,by simpa using h2.n100,by simpa using h2.fl,fun r hr=> ?_,fun f hf=> ?_,fun i f hi=> ?_⟩
  ·obtain ⟨q,hq,rfl⟩:=List.mem_map.1 hr
   have k:=h2.rs q hq
   refine ⟨by rw [List.length_map];exact k.1,fun x hx=> ?_⟩
   obtain ⟨y,hy,rfl⟩:=List.mem_map.1 hx
   have:=stOk_iff.1 (List.all_eq_true.1 k.2 y hy)
   simp only [List.length_map]
   omega
  ·obtain ⟨g,hg,rfl⟩:=List.mem_map.1 hf
   obtain ⟨i,hi⟩:=List.mem_iff_getElem?.1 hg
   have:=h3 i g hi
   omega
  ·simp only [List.getElem?_map] at hi
   cases e:z.fl[i]? with
   |none=>rw [e] at hi;cases hi
   |some g=>
    rw [e] at hi
    have hg:g.toNat=f:=Option.some.inj hi
    have k:=h3 i g e
    rw [←absT_z,←hz,←k.2.2]
    omega
end Go.Proofs.YtidakhhekofkoaaGreatDoor
