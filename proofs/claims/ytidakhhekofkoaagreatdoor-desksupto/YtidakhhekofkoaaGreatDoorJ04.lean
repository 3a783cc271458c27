/- Plain mathematics of formulas and of their reading from tokens: no program in it. A formula is a tree (kind, name, place); the kinds: 0 an activity, 1 true, 2 false, 3 end, 4 not, 5 X, 6 N, 7 F, 8 G, 9 U, 10 and, 11 or, 12 implies. -/
import Derived.Test.YtidakhhekofkoaaGreatDoorJ02
import Derived.Deep.Trees
namespace Go.Proofs.YtidakhhekofkoaaGreatDoor
open Go.Deep
abbrev Fm:=BT (Nat × ByteArray × Nat)
def leaf (k:Nat) (s:ByteArray) (p:Nat):Fm:= .node 0 0 (k,s,p) .nil .nil
def one (k:Nat) (f:Fm):Fm:= .node 0 0 (k,ByteArray.empty,0) f .nil
def two (k:Nat) (f g:Fm):Fm:= .node 0 0 (k,ByteArray.empty,0) f g
def opOf (k:Nat):Nat:=if k=17 then 4 else if k=9 then 5 else if k=10 then 6 else if k=11 then 7 else if k=12 then 8 else 0
abbrev Rd:=Except Nat (Fm × List Tk)
def headK (l:List Tk):Nat:=match l with|[]=>0|t::_=>t.k
def headS (l:List Tk):ByteArray:=match l with|[]=>ByteArray.empty|t::_=>t.s
def headP (l:List Tk):Nat:=match l with|[]=>0|t::_=>t.p
def pf:Nat→Nat→Fm→List Tk→Rd
 |0,_,_,l=> .error (headP l)
 |n+1,0,_,l=>match pf n 1 .nil l with
  | .error q=> .error q
  | .ok (a,l1)=>if headK l1=14 then (match pf n 0 .nil l1.tail with| .error q=> .error q| .ok (b,l2)=> .ok (two 12 a b,l2)) else .ok (a,l1)
 |n+1,1,_,l=>match pf n 2 .nil l with
  | .error q=> .error q
  | .ok (a,l1)=>pf n 5 a l1
 |n+1,2,_,l=>match pf n 3 .nil l with
  | .error q=> .error q
  | .ok (a,l1)=>pf n 6 a l1
 |n+1,3,_,l=>match pf n 4 .nil l with
  | .error q=> .error q
  | .ok (a,l1)=>if headK l1=13 then (match pf n 4 .nil l1.tail with| .error q=> .error q| .ok (b,l2)=> .ok (two 9 a b,l2)) else .ok (a,l1)
 |n+1,4,_,l=>
   if opOf (headK l)≠0 then (match pf n 4 .nil l.tail with| .error q=> .error q| .ok (a,l1)=> .ok (one (opOf (headK l)) a,l1))
   else if headK l=18 then (match pf n 0 .nil l.tail with| .error q=> .error q| .ok (a,l1)=>if headK l1=19 then .ok (a,l1.tail) else .error (headP l1))
   else if headK l=6∨headK l=7∨headK l=8 then .ok (leaf (headK l - 5) ByteArray.empty 0,l.tail)
   else if headK l=2 then .ok (leaf 0 (headS l) (headP l),l.tail)
   else .error (headP l)
 |n+1,5,f,l=>if headK l=15 then (match pf n 2 .nil l.tail with| .error q=> .error q| .ok (b,l1)=>pf n 5 (two 11 f b) l1) else .ok (f,l)
 |n+1,6,f,l=>if headK l=16 then (match pf n 3 .nil l.tail with| .error q=> .error q| .ok (b,l1)=>pf n 6 (two 10 f b) l1) else .ok (f,l)
 |_+1,_+7,f,l=> .ok (f,l)
theorem pf_len: ∀n lev f l f' l',pf n lev f l= .ok (f',l')→l'.length≤l.length
 |0,_,_,_,_,_,h=>by simp [pf] at h
 |n+1,0,f,l,f',l',h=>by
  rw [pf] at h
  split at h
  ·cases h
  ·rename_i a l1 e
   have h1:=pf_len n 1 .nil l a l1 e
   split at h
   ·split at h
    ·cases h
    ·rename_i b l2 e2
     have h2:=pf_len n 0 .nil l1.tail b l2 e2
     cases h;simp at h2;omega
   ·cases h;exact h1
 |n+1,1,f,l,f',l',h=>by
  rw [pf] at h
  split at h
  ·cases h
  ·rename_i a l1 e
   have h1:=pf_len n 2 .nil l a l1 e
   have h2:=pf_len n 5 a l1 f' l' h
   omega
 |n+1,2,f,l,f',l',h=>by
  rw [pf] at h
  split at h
  ·cases h
  ·rename_i a l1 e
   have h1:=pf_len n 3 .nil l a l1 e
   have h2:=pf_len n 6 a l1 f' l' h
   omega
 |n+1,3,f,l,f',l',h=>by
  rw [pf] at h
  split at h
  ·cases h
  ·rename_i a l1 e
   have h1:=pf_len n 4 .nil l a l1 e
   split at h
   ·split at h
    ·cases h
    ·rename_i b l2 e2
     have h2:=pf_len n 4 .nil l1.tail b l2 e2
     cases h;simp at h2;omega
   ·cases h;exact h1
 |n+1,4,f,l,f',l',h=>by
  rw [pf] at h
  split at h
  ·split at h
   ·cases h
   ·rename_i a l1 e
    have h1:=pf_len n 4 .nil l.tail a l1 e
    cases h;simp at h1;omega
  ·split at h
   ·split at h
    ·cases h
    ·rename_i a l1 e
     have h1:=pf_len n 0 .nil l.tail a l1 e
     split at h
     ·cases h;simp at h1⊢;omega
     ·cases h
   ·split at h
    ·cases h;simp
    ·split at h
     ·cases h;simp
     ·cases h
 |n+1,5,f,l,f',l',h=>by
  rw [pf] at h
  split at h
  ·split at h
   ·cases h
   ·rename_i b l1 e
    have h1:=pf_len n 2 .nil l.tail b l1 e
    have h2:=pf_len n 5 _ l1 f' l' h
    simp at h1;omega
  ·cases h;exact Nat.le_refl _
 |n+1,6,f,l,f',l',h=>by
  rw [pf] at h
  split at h
  ·split at h
   ·cases h
   ·rename_i b l1 e
    have h1:=pf_len n 3 .nil l.tail b l1 e
    have h2:=pf_len n 6 _ l1 f' l' h
    simp at h1;omega
  ·cases h;exact Nat.le_refl _
 |n+1,k+7,f,l,f',l',h=>by
  rw [pf] at h;cases h;exact Nat.le_refl _
def Ends:List Tk→Prop
 |[]=>False
 |[t]=>t.k≤1
 |t::r=>2≤t.k∧Ends r
theorem Ends.ne {l:List Tk} (h:Ends l):l≠[]:=by rintro rfl;exact h
def kText (k:Nat):List UInt8:=
 if k=4 then [97,99,116,115] else if k=5 then [114,117,108,101] else if k=6 then [116,114,117,101] else if k=7 then [102,97,108,115,101] else if k=8 then [101,110,100] else
 if k=9 then [88] else if k=10 then [78] else if k=11 then [70] else if k=12 then [71] else if k=13 then [85] else if k=14 then [45,62] else
 if k=15 then [124] else if k=16 then [38] else if k=17 then [33] else if k=18 then [40] else if k=19 then [41] else if k=20 then [44] else if k=21 then [59] else []
def TkOk (t:Tk):Prop:=t.k≤21∧(4≤t.k→t.s.data.toList=kText t.k)∧(t.k=3→ ∃c:UInt8,t.s.data.toList=[c]∧48≤c.toNat∧c.toNat≤57)∧(t.k≤3→t.s.data.toList≠[40])
theorem kText_inj: ∀a:Fin 22,∀b:Fin 22,4≤a.val→4≤b.val→kText a.val=kText b.val→a=b:=by decide
theorem kText_eq {a b:Nat} (ha:a≤21) (hb:b≤21) (ha4:4≤a) (hb4:4≤b) (h:kText a=kText b):a=b:=by
 have:=kText_inj ⟨a,by omega⟩ ⟨b,by omega⟩ ha4 hb4 h
 exact congrArg Fin.val this
theorem extract_one (s:ByteArray) (j:Nat) (h:j<s.size):(s.extract j (j+1)).data.toList=[s[j]]:=by
 rw [Lib.extract_data,drop_at s j h]
 have:j+1 - j=1:=by omega
 rw [this];rfl
theorem wordK_text (l:List UInt8):wordK l≤21∧(4≤wordK l→l=kText (wordK l))∧wordK l≠3:=by
 unfold wordK
 repeat' split
 all_goals (refine ⟨by omega,fun h=> ?_,by omega⟩)
 all_goals first|assumption|(exfalso;omega)
theorem signK_text (c:UInt8):signK c.toNat≤21∧(4≤signK c.toNat→[c]=kText (signK c.toNat))∧signK c.toNat≠3:=by
 have aux: ∀n:Nat,∀hn:n<256,signK n≤21∧(4≤signK n→[UInt8.ofNat n]=kText (signK n))∧signK n≠3:=by
  intro n hn
  have:=(by decide+kernel: ∀m:Fin 256,signK m.val≤21∧(4≤signK m.val→[UInt8.ofNat m.val]=kText (signK m.val))∧signK m.val≠3) ⟨n,hn⟩
  exact this
 have:=aux c.toNat (UInt8.toNat_lt c)
 rwa [UInt8.ofNat_toNat] at this
theorem extract_head (s:ByteArray) (j k:Nat) (h:j<s.size) (hk:j<k): ∃r,(s.extract j k).data.toList=s[j]::r:=by
 rw [Lib.extract_data,drop_at s j h]
 obtain ⟨m,hm⟩: ∃m,k - j=m+1:=⟨k - j - 1,by omega⟩
 rw [hm];exact ⟨_,rfl⟩
theorem signK_40 (c:UInt8) (h:signK c.toNat≤3):[c]≠[40]:=by
 intro e
 have:c=40:=by simpa using e
 subst this
 exact absurd h (by decide)
theorem lexAt_ok (s:ByteArray) (j:Nat):TkOk (lexAt s j):=by
 unfold lexAt TkOk
 split
 ·rename_i hj
  split
  ·rename_i hl
   have:=wordK_text (s.extract j (upTo isLet s j)).data.toList
   refine ⟨this.1,this.2.1,fun h=>absurd h this.2.2,fun _=> ?_⟩
   have h2:=upTo_ge isLet s (j+1)
   rw [←upTo_yes isLet s j hj hl] at h2
   obtain ⟨r,hr⟩:=extract_head s j (upTo isLet s j) hj (by omega)
   show (s.extract j (upTo isLet s j)).data.toList≠[40]
   rw [hr]
   intro e
   have:s[j]=40:=by simpa using (List.cons.inj e).1
   rw [this] at hl
   exact absurd hl (by decide)
  ·split
   ·rename_i hd
    refine ⟨by show 3≤21;omega,fun h=>absurd (show 4≤3 from h) (by omega),fun _=>⟨s[j],extract_one s j hj,hd⟩,fun _=> ?_⟩
    show (s.extract j (j+1)).data.toList≠[40]
    rw [extract_one s j hj]
    intro e
    have:s[j]=40:=by simpa using e
    rw [this] at hd
    exact absurd hd (by decide)
   ·split
    ·split
     ·exact ⟨by show 14≤21;omega,fun _=>rfl,fun h=>absurd (show 14=3 from h) (by omega),fun h=>absurd (show 14≤3 from h) (by omega)⟩
     ·have:=signK_text s[j]
      exact ⟨this.1,fun h=>(extract_one s j hj).trans (this.2.1 h),fun h=>absurd h this.2.2,fun h=>by show (s.extract j (j+1)).data.toList≠[40];rw [extract_one s j hj];exact signK_40 _ h⟩
    ·have:=signK_text s[j]
     exact ⟨this.1,fun h=>(extract_one s j hj).trans (this.2.1 h),fun h=>absurd h this.2.2,fun h=>by show (s.extract j (j+1)).data.toList≠[40];rw [extract_one s j hj];exact signK_40 _ h⟩
 ·exact ⟨by show 0≤21;omega,fun h=>absurd (show 4≤0 from h) (by omega),fun h=>absurd (show 0=3 from h) (by omega),fun _=>by show ByteArray.empty.data.toList≠[40];decide⟩
theorem lexR_ok (s:ByteArray): ∀n i,∀t∈lexR s n i,TkOk t
 |0,_,t,h=>by simp [lexR] at h
 |n+1,i,t,h=>by
  by_cases hk:(lexAt s (upTo isBl s i)).k≤1
  ·rw [lexR_stop s n i hk] at h;simp at h;subst h;exact lexAt_ok s _
  ·rw [lexR_go s n i hk] at h
   rcases List.mem_cons.1 h with rfl|h
   ·exact lexAt_ok s _
   ·exact lexR_ok s n _ t h
theorem lexR_ends (s:ByteArray): ∀n i,i≤s.size→s.size<n+i→Ends (lexR s n i)
 |0,i,h,h'=>by omega
 |n+1,i,h,h'=>by
  by_cases hk:(lexAt s (upTo isBl s i)).k≤1
  ·rw [lexR_stop s n i hk];exact hk
  ·rw [lexR_go s n i hk]
   have ha:=lex_adv s i h hk
   have:=lexR_ends s n _ ha.2 (by omega)
   cases hr:lexR s n ((lexAt s (upTo isBl s i)).p+(lexAt s (upTo isBl s i)).s.size) with
   |nil=>rw [hr] at this;exact absurd this id
   |cons u r=>rw [hr] at this;exact ⟨by omega,this⟩
theorem lexR_len (s:ByteArray): ∀n i,i≤s.size→(lexR s n i).length+i≤s.size+1
 |0,i,h=>by simp [lexR];omega
 |n+1,i,h=>by
  by_cases hk:(lexAt s (upTo isBl s i)).k≤1
  ·rw [lexR_stop s n i hk];simp;omega
  ·rw [lexR_go s n i hk]
   have ha:=lex_adv s i h hk
   have:=lexR_len s n _ ha.2
   simp;omega
structure Rl where
 pl:Nat
 call:Bool
 word:Tk
 args:List Tk
 fin:Nat
 f:Fm
def headT (l:List Tk):Tk:=match l with|[]=>⟨0,ByteArray.empty,0⟩|t::_=>t
def tk0:Tk:=⟨0,ByteArray.empty,0⟩
def ruleRead (l : List Tk) : Except Nat (Rl × List Tk) :=
  if headK l = 2 ∧ headK l.tail = 18 then
    (if headK l.tail.tail = 2 then
      (if headK l.tail.tail.tail = 20 then
        (if headK l.tail.tail.tail.tail = 2 ∨ headK l.tail.tail.tail.tail = 3 then
          (if headK l.tail.tail.tail.tail.tail = 19 then .ok (⟨0, true, headT l, [headT l.tail.tail, headT l.tail.tail.tail.tail], headP l.tail.tail.tail.tail.tail, .nil⟩, l.tail.tail.tail.tail.tail.tail)
           else .error (headP l.tail.tail.tail.tail.tail))
         else .error (headP l.tail.tail.tail.tail))
       else if headK l.tail.tail.tail = 19 then .ok (⟨0, true, headT l, [headT l.tail.tail], headP l.tail.tail.tail, .nil⟩, l.tail.tail.tail.tail)
       else .error (headP l.tail.tail.tail))
     else .error (headP l.tail.tail))
  else (match pf (6 * l.length + 5) 0 .nil l with
    | .error q => .error q
    | .ok (f, l1) => .ok (⟨0, false, tk0, [], 0, f⟩, l1))
def actsRead : Nat → List Tk → Except Nat (List Tk × List Tk)
  | 0, l => .error (headP l)
  | n + 1, l => if headK l = 2 then
      (if headK l.tail = 20 then (match actsRead n l.tail.tail with | .error q => .error q | .ok (ts, l1) => .ok (headT l :: ts, l1))
       else .ok ([headT l], l.tail))
    else .error (headP l)
def rulesRead:Nat→List Tk→Except Nat (List Rl)
 |0,l=> .error (headP l)
 |n+1,l=>if headK l=0 then .ok []
  else if headK l=5 then (match ruleRead l.tail with
   | .error q=> .error q
   | .ok (r,l1)=>if headK l1=21 then (match rulesRead n l1.tail with| .error q=> .error q| .ok rs=> .ok ({r with pl:=headP l}::rs)) else .error (headP l1))
  else .error (headP l)
def modelRead (l:List Tk):Except Nat (List Tk × List Rl):=
 if headK l=4 then (match actsRead l.length l.tail with
  | .error q=> .error q
  | .ok (as,l1)=>if headK l1=21 then (match rulesRead l1.length l1.tail with| .error q=> .error q| .ok rs=> .ok (as,rs)) else .error (headP l1))
 else .error (headP l)
def meet (x:Nat × Nat) (p e:Nat):Nat × Nat:=if x.2=0∨p<x.1∨(p=x.1∧e<x.2) then (p,e) else x
def meets (x:Nat × Nat) (l:List (Nat × Nat)):Nat × Nat:=l.foldl (fun x f=>meet x f.1 f.2) x
theorem meets_append (x:Nat × Nat) (l m:List (Nat × Nat)):meets x (l++m)=meets (meets x l) m:=List.foldl_append
def hasN (al:List Tk) (s:ByteArray):Bool:=
 match al with
 |[]=>false
 |t::r=>if t.s.toList=s.toList then true else hasN r s
def fName (al:List Tk) (s:ByteArray) (p:Nat):List (Nat × Nat):=(if 8<s.size then [(p,1)] else [])++(if hasN al s=true then [] else [(p,3)])
def fFm (al:List Tk):Fm→List (Nat × Nat)
 | .nil=>[]
 | .node _ _ a l r=>(if a.1=0 then fName al a.2.1 a.2.2 else [])++(fFm al l++fFm al r)
def tplNo (l:List UInt8):Nat:=
 if l=[105,110,105,116] then 0 else if l=[108,97,115,116] then 1 else if l=[115,111,109,101] then 2 else if l=[102,101,119] then 3 else
 if l=[114,101,115,112,111,110,115,101] then 4 else if l=[112,114,101,99,101,100,101] then 5 else if l=[99,104,97,105,110] then 6 else if l=[98,101,102,111,114,101] then 7 else
 if l=[119,105,116,104] then 8 else if l=[97,112,97,114,116] then 9 else if l=[110,101,118,101,114] then 10 else if l=[110,111,116,110,101,120,116] then 11 else 12
def tplTakes (k:Nat):List UInt8:=if k≤1 then [110] else if k≤3 then [110,100] else if k≤11 then [110,110] else []
def acF (s:ByteArray):Fm:=leaf 0 s 0
def timesF (a:ByteArray):Nat→Fm
 |0=>one 7 (acF a)
 |1=>one 7 (acF a)
 |n+2=>one 7 (two 10 (acF a) (one 5 (timesF a (n+1))))
def tplF (k:Nat) (a b:ByteArray) (n:Nat):Fm:=
 if k=0 then acF a
 else if k=1 then one 7 (two 10 (acF a) (one 4 (one 5 (leaf 1 ByteArray.empty 0))))
 else if k=2 then timesF a n
 else if k=3 then one 4 (timesF a n)
 else if k=4 then one 8 (two 12 (acF a) (one 7 (acF b)))
 else if k=5 then two 11 (two 9 (one 4 (acF b)) (acF a)) (one 8 (one 4 (acF b)))
 else if k=6 then one 8 (two 12 (acF a) (one 5 (acF b)))
 else if k=7 then two 10 (one 4 (acF b)) (one 8 (two 12 (one 5 (acF b)) (acF a)))
 else if k=8 then two 12 (one 7 (acF a)) (one 7 (acF b))
 else if k=9 then one 4 (two 10 (one 7 (acF a)) (one 7 (acF b)))
 else if k=10 then one 8 (two 12 (acF a) (one 6 (one 8 (one 4 (acF b)))))
 else one 8 (two 12 (acF a) (one 4 (one 5 (acF b))))
def sizeF:Fm→Nat
 | .nil=>0
 | .node _ _ _ l r=>1+sizeF l+sizeF r
def badArg (kinds:List UInt8) (t:Tk):Bool:=
 match kinds with
 |[]=>true
 |c::_=>if t.k=2 then !(c.toNat==110) else if c.toNat=100 then (match t.s.data.toList with|d::_=>decide (d.toNat<49)||decide (51<d.toNat)|[]=>false) else true
def fArg (al:List Tk) (kinds:List UInt8) (t:Tk):List (Nat × Nat):=(if t.k=2 then fName al t.s t.p else [])++(if badArg kinds t=true then [(t.p,4)] else [])
def fArgs (al:List Tk):List UInt8→List Tk→List (Nat × Nat)
 |_,[]=>[]
 |kinds,t::r=>fArg al kinds t++fArgs al kinds.tail r
def fCall (al:List Tk) (r:Rl):List (Nat × Nat):=
 (if 8<r.word.s.size then [(r.word.p,1)] else [])++((if tplNo r.word.s.toList≤11 then [] else [(r.word.p,3)])++(fArgs al (tplTakes (tplNo r.word.s.toList)) r.args++(if r.args.length<(tplTakes (tplNo r.word.s.toList)).length then [(r.fin,4)] else [])))
end Go.Proofs.YtidakhhekofkoaaGreatDoor
