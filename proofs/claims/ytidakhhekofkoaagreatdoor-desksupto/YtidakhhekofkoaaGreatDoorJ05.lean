/- Contracts of the reference's small functions: letter, word, within. -/
import Derived.Test.YtidakhhekofkoaaGreatDoorProg
import Derived.Test.YtidakhhekofkoaaGreatDoorJ02
import Derived.Test.YtidakhhekofkoaaGreatDoorJ03
import Derived.WalkKit
import Derived.WalkSpells
import Derived.WalkLawsBesides
namespace Go.Proofs.YtidakhhekofkoaaGreatDoor
open Go.RowKit
set_option maxHeartbeats 400000 in
theorem letter_any (c:UInt8) (w:World):
  Calls Tryz.prog 186 #[.int .u8 (c.toNat:Int)] w fun e w'=>e= .returned (.bool (isLet c))∧w'=w:=by
 by_cases h:(97:Int)≤(c.toNat:Int)
 all_goals
  go_enter Tryz.func186,Tryz.ntmps186
  go_wp2
  go_ret
 ·refine ⟨ret_bool ?_,rfl⟩
  have h':97≤c.toNat:=by omega
  simp only [isLet,h',decide_true,Bool.true_and]
  rw [decide_eq_decide];omega
 ·refine ⟨ret_bool ?_,rfl⟩
  have h':¬ 97≤c.toNat:=by omega
  simp [isLet,h']
set_option maxHeartbeats 400000 in
theorem word_any (s:ByteArray) (w:World):
  Calls Tryz.prog 185 #[.string s] w fun e w'=>e= .returned (.bool (isWord s.data.toList))∧w'=w:=by
 rw [←ByteArray.toList_eq]
 go_enter Tryz.func185,Tryz.ntmps185
 go_wp2
 all_goals (go_ret;exact ⟨by simp [isWord,Bool.or_assoc, *],rfl⟩)
set_option maxHeartbeats 400000 in
theorem within_any (s:ByteArray) (c:UInt8) (w:World) (hs:s.size≤maxLen):
  Calls Tryz.prog 279 #[.string s,.int .u8 (c.toNat:Int)] w fun e w'=>e= .returned (.bool (hasC s.data.toList c))∧w'=w:=by
 unfold maxLen at hs
 go_enter Tryz.func279,Tryz.ntmps279
 go_wp2
 go_loop [5] (fun i=> ∃k:Nat,k≤s.size∧i= .int .i64 k∧Hid (hasC s.data.toList c=hasC (s.data.toList.drop k) c)) (fun i=>s.size - (intOf i).toNat)
 case atStart=>exact ⟨0,Nat.zero_le _,rfl,rfl⟩
 case round=>
  obtain ⟨k,hk,rfl,H⟩:=hrel
  by_cases hlt:k<s.size
  ·go_wp2
   ·go_ret
    have e:((s[k].toNat:Int)==(c.toNat:Int))=true:=by assumption
    exact ⟨ret_bool (by rw [H.out,hasC_yes s c k hlt (by have:=eq_of_beq e;omega)]),rfl⟩
   ·have e:((s[k].toNat:Int)==(c.toNat:Int))=false:=by assumption
    go_round
    case rel=>exact ⟨k+1,by omega,by go_num,H.out.trans (hasC_no s c k hlt (by have:=ne_of_beq_false e;omega))⟩
    case measure=>simp [intOf];omega
  ·go_wp2
   go_ret
   exact ⟨ret_bool (by rw [H.out,hasC_end s c k (by omega)]),rfl⟩
def refK (k:Nat):Int:=if k=0 then 101 else if k=1 then 63 else if k=2 then 110 else if k=3 then 100 else if k≤8 then 119 else 111
def tkR (t:Tk):Value:= .agg #[.int .u8 (refK t.k),.string t.s,.int .i64 t.p]
theorem refK_word (k:Nat) (h:4≤k∧k≤8):refK k=119:=by unfold refK;rw [if_neg (by omega),if_neg (by omega),if_neg (by omega),if_neg (by omega),if_pos h.2]
theorem refK_sign (k:Nat) (h:9≤k):refK k=111:=by unfold refK;rw [if_neg (by omega),if_neg (by omega),if_neg (by omega),if_neg (by omega),if_neg (by omega)]
theorem tk_val {s:ByteArray} {i k:Nat} {t:Tk} (HE:Hid (upTo isBl s i=k)) (h:lexAt s k=t) {a:Int} {b:ByteArray} {p:Int} (ha:refK t.k=a) (hb:t.s=b) (hp:(t.p:Int)=p):
  Ending.returned (.agg #[.int .u8 a,.string b,.int .i64 p])= .returned (tkR (lexAt s (upTo isBl s i))):=by
 rw [HE.out,h,tkR,ha,hb,hp]
set_option maxHeartbeats 2000000 in
theorem token_any (s : ByteArray) (i : Nat) (w : World) (hs : s.size ≤ maxLen) (hi : i ≤ s.size) :
    Calls Tryz.prog 244 #[.string s, .int .i64 i] w fun e w' => e = .returned (tkR (lexAt s (upTo isBl s i))) ∧ Below w.heap.size w w' := by
  have hs0 := hs
  unfold maxLen at hs
  have fin : ∀ c1 : Array Value, Below w.heap.size w (w.alloc (.cells c1 232)) := fun c1 => (Below.refl _ _).alloc (Nat.le_refl _) _
  have FIN := hide fin
  clear fin
  go_enter Tryz.func244, Tryz.ntmps244
  go_wp2_with fail
  go_loop [1] (fun x => ∃ k : Nat, k ≤ s.size ∧ x = .int .i64 k ∧ Hid (upTo isBl s i = upTo isBl s k)) (fun x => s.size - (intOf x).toNat)
  case atStart => exact ⟨i, hi, rfl, rfl⟩
  case round =>
    obtain ⟨k, hk, rfl, H⟩ := hrel
    by_cases hlt : k < s.size
    · by_cases hb : isBl s[k] = true
      · have HB := hide hb
        clear hb
        go_wp2_with fail
        rotate_right
        · exfalso
          have h1 : (((s[k].toNat : Int) == 32) = false ∧ ((s[k].toNat : Int) == 9) = false) ∧ ((s[k].toNat : Int) == 10) = false := by assumption
          have := unhide HB
          simp only [isBl, Bool.or_eq_true, beq_iff_eq, beq_eq_false_iff_ne] at this h1
          omega
        all_goals
          go_round
          case rel => exact ⟨k + 1, by omega, by go_num, H.out.trans (upTo_yes isBl s k hlt (unhide HB))⟩
          case measure => simp [intOf]; omega
      · have hb' : isBl s[k] = false := by simpa using hb
        have HB := hide hb'
        have h32 : ((s[k].toNat : Int) == 32) = false := by
          simp only [isBl, Bool.or_eq_false_iff, beq_eq_false_iff_ne] at hb' ⊢; omega
        have h9 : ((s[k].toNat : Int) == 9) = false := by
          simp only [isBl, Bool.or_eq_false_iff, beq_eq_false_iff_ne] at hb' ⊢; omega
        have h10 : ((s[k].toNat : Int) == 10) = false := by
          simp only [isBl, Bool.or_eq_false_iff, beq_eq_false_iff_ne] at hb' ⊢; omega
        have hz : ((k : Int) == (s.size : Int)) = false := beq_eq_false_iff_ne.2 (by omega)
        have HE : Hid (upTo isBl s i = k) := H.out.trans (upTo_no isBl s k hlt hb')
        clear hb hb' H HB
        go_wp2_with fail
        go_loop [5] (fun x => ∃ j : Nat, k ≤ j ∧ j ≤ s.size ∧ x = .int .i64 j ∧ Hid (upTo isLet s k = upTo isLet s j)) (fun x => s.size - (intOf x).toNat)
        case atStart => exact ⟨k, Nat.le_refl _, by omega, rfl, rfl⟩
        case round =>
          obtain ⟨j, hj1, hj2, rfl, HJ⟩ := hrel
          by_cases hgo : ∃ h : j < s.size, isLet s[j] = true
          · obtain ⟨hjl, hl⟩ := hgo
            go_wp2_with (go_at_call 186; refine (letter_any _ _).mono ?_; rintro e w' ⟨rfl, rfl⟩)
            go_round
            case rel => exact ⟨j + 1, by omega, by omega, by go_num, HJ.out.trans (upTo_yes isLet s j hjl hl)⟩
            case measure => simp [intOf]; omega
          · have hJ : upTo isLet s k = j := by
              refine HJ.out.trans ?_
              by_cases hjl : j < s.size
              · exact upTo_no isLet s j hjl (by cases hl : isLet s[j] with | false => rfl | true => exact absurd ⟨hjl, hl⟩ hgo)
              · exact upTo_end isLet s j (by omega)
            have HJ' := hide hJ
            have HG := hide hgo
            clear hJ HJ hgo
            have hg : ∀ h : j < s.size, isLet s[j] = false := fun h => by cases hl : isLet s[j] with | false => rfl | true => exact absurd ⟨h, hl⟩ (unhide HG)
            clear HG
            by_cases hkj : k < j
            · have HN : Hid (lexAt s k = ⟨wordK (s.extract k j).data.toList, s.extract k j, k⟩) := by
                have := lex_name s k hlt (upTo_pos s k hlt (by rw [unhide HJ']; exact hkj))
                rwa [unhide HJ'] at this
              by_cases hw : isWord (s.extract k j).data.toList = true
              · have HW := hide hw
                clear hw
                by_cases hjl : j < s.size
                all_goals
                  go_wp2_with (first | (go_at_call 186; refine (letter_any _ _).mono ?_; rintro e w' ⟨rfl, rfl⟩) | (go_at_call 185; refine (word_any _ _).mono ?_; rintro e w' ⟨rfl, rfl⟩; rw [unhide HW]))
                  refine bodyPost_ret (v := .agg #[.int .u8 119, .string (s.extract k j), .int .i64 (k : Int)]) ?_ rfl ⟨?_, ?_⟩
                  · simp [results, Tryz.results244, go_sem]
                  · exact tk_val HE (unhide HN) (refK_word _ (wordK_word _ (unhide HW))) rfl rfl
                  · exact unhide FIN _
              · have hw' : isWord (s.extract k j).data.toList = false := by simpa using hw
                have HW := hide hw'
                clear hw hw'
                by_cases hjl : j < s.size
                all_goals
                  go_wp2_with (first | (go_at_call 186; refine (letter_any _ _).mono ?_; rintro e w' ⟨rfl, rfl⟩) | (go_at_call 185; refine (word_any _ _).mono ?_; rintro e w' ⟨rfl, rfl⟩; rw [unhide HW]))
                  refine bodyPost_ret (v := .agg #[.int .u8 110, .string (s.extract k j), .int .i64 (k : Int)]) ?_ rfl ⟨?_, ?_⟩
                  · simp [results, Tryz.results244, go_sem]
                  · exact tk_val HE (unhide HN) (by rw [wordK_none _ (unhide HW)]; rfl) rfl rfl
                  · exact unhide FIN _
            · have hjk : j = k := by omega
              subst hjk
              have hl := hg hlt
              have HL := hide hl
              go_wp2_with (first | (go_at_call 186; refine (letter_any _ _).mono ?_; rintro e w' ⟨rfl, rfl⟩) | (go_at_call 279; refine (within_any _ _ _ (by decide)).mono ?_; rintro e w' ⟨rfl, rfl⟩))
              all_goals first
                | (have h1 : (48 : Int) ≤ (s[j].toNat : Int) := by assumption
                   have h2 : (s[j].toNat : Int) ≤ 57 := by assumption
                   refine bodyPost_ret (v := .agg #[.int .u8 100, .string (s.extract j (j + 1)), .int .i64 (j : Int)]) ?_ rfl ⟨?_, ?_⟩
                   · simp [results, Tryz.results244, go_sem]
                   · exact tk_val HE (lex_digit s j hlt (by omega) (by omega)) rfl rfl rfl
                   · exact unhide FIN _)
                | (have h1 : ((s[j + 1].toNat : Int) == 62) = true := by assumption
                   have h2 : (s[j].toNat : Int) = 45 := by assumption
                   have h3 : (j : Int) + 1 < (s.size : Int) := by assumption
                   refine bodyPost_ret (v := .agg #[.int .u8 111, .string ⟨#[45, 62]⟩, .int .i64 (j : Int)]) ?_ rfl ⟨?_, ?_⟩
                   · simp [results, Tryz.results244, go_sem]
                   · exact tk_val HE (lex_arrow s j hlt (by omega) (by omega) (by have := eq_of_beq h1; omega)) rfl rfl rfl
                   · exact unhide FIN _)
                | (have h1 : hasC [88, 78, 70, 71, 85, 124, 38, 33, 40, 41, 44, 59] s[j] = true := by assumption
                   have hn := lex_sign s j hlt (unhide HL) (by omega) (by rintro ⟨a, h2, b⟩; first | omega | (have h4 : ((s[j + 1].toNat : Int) == 62) = false := (by assumption); have := ne_of_beq_false h4; omega))
                   refine bodyPost_ret (v := .agg #[.int .u8 111, .string (s.extract j (j + 1)), .int .i64 (j : Int)]) ?_ rfl ⟨?_, ?_⟩
                   · simp [results, Tryz.results244, go_sem]
                   · exact tk_val HE hn (refK_sign _ (signK_has _ h1)) rfl rfl
                   · exact unhide FIN _)
                | (have h1 : hasC [88, 78, 70, 71, 85, 124, 38, 33, 40, 41, 44, 59] s[j] = false := by assumption
                   have hn := lex_sign s j hlt (unhide HL) (by omega) (by rintro ⟨a, h2, b⟩; first | omega | (have h4 : ((s[j + 1].toNat : Int) == 62) = false := (by assumption); have := ne_of_beq_false h4; omega))
                   refine bodyPost_ret (v := .agg #[.int .u8 63, .string (s.extract j (j + 1)), .int .i64 (j : Int)]) ?_ rfl ⟨?_, ?_⟩
                   · simp [results, Tryz.results244, go_sem]
                   · exact tk_val HE hn (by rw [signK_hasnt _ h1]; rfl) rfl rfl
                   · exact unhide FIN _)
    · have hz : ((k : Int) == (s.size : Int)) = true := beq_iff_eq.2 (by omega)
      have HE : Hid (upTo isBl s i = k) := H.out.trans (upTo_end isBl s k (by omega))
      clear H
      go_wp2_with fail
      refine bodyPost_ret (v := .agg #[.int .u8 101, .string ⟨#[]⟩, .int .i64 (k : Int)]) ?_ rfl ⟨?_, ?_⟩
      · simp [results, Tryz.results244, go_sem]
      · exact tk_val HE (lex_end s k (by omega)) rfl rfl (by show (s.size : Int) = k; omega)
      · exact unhide FIN _
def tkCellsR (L:List Tk):List Value:=L.flatMap fun t=>[.int .u8 (refK t.k),.string t.s,.int .i64 t.p]
theorem tkCellsR_snoc (L:List Tk) (t:Tk):tkCellsR (L++[t])=tkCellsR L++[.int .u8 (refK t.k),.string t.s,.int .i64 t.p]:=by
 simp [tkCellsR]
theorem Tryz.infoTok:(Tryz.prog.info? 232).map (fun i=>(i.zero,i.size,i.bytes))=some (some (.agg #[.int .u8 0,.string ⟨#[]⟩,.int .i64 0]),3,32):=by kernel_rfl
theorem refK_end (k:Nat):(refK k==101)=decide (k=0):=by
 unfold refK;repeat' split
 all_goals simp_all
theorem refK_stray (k:Nat):(refK k==63)=decide (k=1):=by
 unfold refK;repeat' split
 all_goals simp_all
set_option maxHeartbeats 1000000 in
theorem Tokens_any (s:ByteArray) (w:World) (hs:s.size≤400):
  Calls Tryz.prog 199 #[.string s] w fun e w'=> ∃v,e= .returned v∧w'.ownsRow w.heap.size 232 3 v (lexR s (s.size+1) 0).length (tkCellsR (lexR s (s.size+1) 0))∧Below w.heap.size w w':=by
 have hs0:s.size≤maxLen:=by unfold maxLen;omega
 obtain ⟨i0,hi,hz0,hz1,hz2⟩:=info_parts Tryz.infoTok
 go_enter Tryz.func199,Tryz.ntmps199
 go_wp2_with fail
 go_loopw [3,4] (fun v x wr=> ∃(k n:Nat) (acc:List Tk),k≤s.size∧s.size<n+k∧acc.length≤k∧x= .int .i64 k∧Hid (lexR s (s.size+1) 0=acc++lexR s n k)∧
   wr.ownsRow w.heap.size 232 3 v acc.length (tkCellsR acc)∧Below w.heap.size w wr) (fun _ x _=>s.size - (intOf x).toNat)
 case atStart=>exact ⟨0,s.size+1,[],Nat.zero_le _,by omega,Nat.le_refl _,rfl,rfl,World.ownsRow_nil _ _ _ _,Below.refl _ _⟩
 case round=>
  obtain ⟨k,n,acc,hk,hn,hacc,rfl,H,hown,hbel⟩:=hrel
  go_wp2_with (go_at_call 244;refine (token_any s k _ hs0 hk).mono ?_)
  rintro e w1 ⟨rfl,hb1⟩
  have hadv:=lex_adv s k hk
  have hstop:=lexR_stop s (n - 1) k
  have hgo:=lexR_go s (n - 1) k
  generalize lexAt s (upTo isBl s k)=t at *
  have HA:=hide hadv
  have HS:=hide hstop
  have HG:=hide hgo
  clear hadv hstop hgo
  simp only [tkR]
  go_wp2_with (at_builtin;go_must (refine wpList_append_own _ rfl _ _ 225 rfl w.heap.size 232 i0 (.agg #[.int .u8 0,.string ⟨#[]⟩,.int .i64 0]) 3 32 Tryz.underlying225 hi hz0 hz1 hz2 rfl (by decide) _ acc.length (tkCellsR acc) rfl ?c0 ⟨w1.heap.size+1,0,none⟩ 1 1 [.int .u8 (refK t.k),.string t.s,.int .i64 t.p] rfl rfl ?c1 ?c2 ?c3 ?c4 ?c5 ?_))
  case c0=>exact ((owns_later hown hb1).alloc _).alloc _
  case c1=>
   intro j u hj
   match j,hj with
   |0,hj=>simp at hj;subst hj;simp [Addr.add]
   |1,hj=>simp at hj;subst hj;simp [Addr.add]
   |2,hj=>simp at hj;subst hj;simp [Addr.add]
   |j+3,hj=>simp at hj
  case c2=>intro u hu;simp at hu;rcases hu with rfl|rfl|rfl<;>rfl
  case c3=>unfold maxLen;omega
  case c4=>omega
  case c5=>have:=hbel.size;have:=hb1.size;simp;omega
  intro v' w2 hown2 hgrow _
  have hol:=own_lt hown
  have hsz:=hb1.size
  have hc0:w2.cell? ⟨w1.heap.size,0,none⟩=some (.int .u8 (refK t.k)):=(box_kept hgrow (by simp;omega) (fun k hk=>by have:=hol k hk;omega) 0).trans (by simp)
  have hc1:w2.cell? ⟨w1.heap.size,1,none⟩=some (.string t.s):=(box_kept hgrow (by simp;omega) (fun k hk=>by have:=hol k hk;omega) 1).trans (by simp)
  have hc2:w2.cell? ⟨w1.heap.size,2,none⟩=some (.int .i64 t.p):=(box_kept hgrow (by simp;omega) (fun k hk=>by have:=hol k hk;omega) 2).trans (by simp)
  have HB2:Hid (Below w.heap.size w w2):=((((hbel.trans (hb1.mono hbel.size)).alloc (by have:=hbel.size;omega) _).alloc (by have:=hbel.size;simp;omega) _).grown hgrow (by have:=hbel.size;simp;omega) (fun k hk=>(hol k hk).1))
  have HO2:Hid (w2.ownsRow w.heap.size 232 3 v' (acc++[t]).length (tkCellsR (acc++[t]))):=by
   rw [tkCellsR_snoc,List.length_append];exact hown2
  have hn1:n - 1+1=n:=by omega
  rw [hn1] at HS HG
  clear hown2 hgrow hown hol hn1 hb1 hbel hsz
  by_cases h0:t.k≤1
  ·have HR:Hid (lexR s (s.size+1) 0=acc++[t]):=by rw [H.out,HS.out h0];rfl
   by_cases h00:t.k=0
   ·have e1:(refK t.k==101)=true:=by rw [refK_end];simp [h00]
    have HZ:=hide h00
    clear h00 h0
    go_wp2
    go_ret
    exact ⟨_,rfl,by rw [HR.out];exact HO2.out,HB2.out⟩
   ·have e1:(refK t.k==101)=false:=by rw [refK_end];simp [h00]
    have e2:(refK t.k==63)=true:=by rw [refK_stray];simp;omega
    clear h00 h0
    go_wp2
    go_ret
    exact ⟨_,rfl,by rw [HR.out];exact HO2.out,HB2.out⟩
  ·have HR:Hid (lexR s (s.size+1) 0=(acc++[t])++lexR s (n - 1) (t.p+t.s.size)):=by show _=_;rw [H.out,HG.out h0];simp
   have hadv:=HA.out h0
   have e1:(refK t.k==101)=false:=by rw [refK_end];simp;omega
   have e2:(refK t.k==63)=false:=by rw [refK_stray];simp;omega
   clear h0
   go_wp2
   go_roundw
   case rel=>exact ⟨t.p+t.s.size,n - 1,acc++[t],hadv.2,by omega,by simp;omega,by go_num,HR.out,HO2.out,HB2.out⟩
   case measure=>simp [intOf];omega
end Go.Proofs.YtidakhhekofkoaaGreatDoor
