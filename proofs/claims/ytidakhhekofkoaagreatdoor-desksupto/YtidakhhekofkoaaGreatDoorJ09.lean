/- The program's wordKind, tokenAt. -/
import Derived.Test.YtidakhhekofkoaaGreatDoorJ07
import Derived.Test.YtidakhhekofkoaaGreatDoorJ04
import Derived.Deep.RegionWith
import Derived.OrdersHeld
set_option linter.unusedSimpArgs false
namespace Go.Proofs.YtidakhhekofkoaaGreatDoor
open Go.RowKit Go.Deep
def wds:List (List UInt8 × Nat):=[([97,99,116,115],4),([114,117,108,101],5),([116,114,117,101],6),([102,97,108,115,101],7),([101,110,100],8)]
def lookW (l:List UInt8):List (List UInt8 × Nat)→Nat
 |[]=>2
 |x::r=>if l=x.1 then x.2 else lookW l r
theorem wordK_look (l:List UInt8):wordK l=lookW l wds:=rfl
theorem ixW0 (w:World):(Instr.index 321 (.agg wordsC) (.int .i64 0)).run Tryz.prog w= .ok (.agg #[.string ⟨#[97,99,116,115]⟩,.int .i64 4]) w:=by kernel_rfl
theorem ixW1 (w:World):(Instr.index 321 (.agg wordsC) (.int .i64 1)).run Tryz.prog w= .ok (.agg #[.string ⟨#[114,117,108,101]⟩,.int .i64 5]) w:=by kernel_rfl
theorem ixW2 (w:World):(Instr.index 321 (.agg wordsC) (.int .i64 2)).run Tryz.prog w= .ok (.agg #[.string ⟨#[116,114,117,101]⟩,.int .i64 6]) w:=by kernel_rfl
theorem ixW3 (w:World):(Instr.index 321 (.agg wordsC) (.int .i64 3)).run Tryz.prog w= .ok (.agg #[.string ⟨#[102,97,108,115,101]⟩,.int .i64 7]) w:=by kernel_rfl
theorem ixW4 (w:World):(Instr.index 321 (.agg wordsC) (.int .i64 4)).run Tryz.prog w= .ok (.agg #[.string ⟨#[101,110,100]⟩,.int .i64 8]) w:=by kernel_rfl
set_option maxHeartbeats 2000000 in
set_option maxRecDepth 100000 in
theorem wordKind_any (s : ByteArray) (w : World) (hG : GV w) :
    Calls Tryz.prog 171 #[.string s] w fun e w' => e = .returned (.int .i64 (wordK s.toList : Nat)) ∧ Below w.heap.size w w' := by
  obtain ⟨t, m, hg⟩ := hG.ws
  clear hG
  rw [wordK_look]
  go_enter Tryz.func171, Tryz.ntmps171
  go_wp2_with (refine wpList_load_row rfl 321 _ rfl 2 rfl t _ m _ hg Tryz.underlying321 rfl (by kernel_rfl) ?_)
  clear hg
  go_loopw [6] (fun i wr => ∃ z : Int, i = .int .i64 z ∧ 0 ≤ z ∧ z ≤ 5 ∧ Hid (lookW s.toList wds = lookW s.toList (wds.drop z.toNat)) ∧ Below w.heap.size w wr) (fun i _ => (5 - intOf i).toNat)
  case atStart => exact ⟨0, rfl, by omega, by omega, rfl, Below.refl _ _⟩
  case round =>
    obtain ⟨z, rfl, h0, h5, H, hb⟩ := hrel
    have HB := hide hb
    clear hb
    have hz : z = 0 ∨ z = 1 ∨ z = 2 ∨ z = 3 ∨ z = 4 ∨ z = 5 := by omega
    clear h0 h5
    have i0 := ixW0
    have i1 := ixW1
    have i2 := ixW2
    have i3 := ixW3
    have i4 := ixW4
    rcases hz with rfl | rfl | rfl | rfl | rfl | rfl
    all_goals go_wp2_with fail
    all_goals first
      | (go_ret
         refine ⟨ret_int ?_, by first | exact unhide HB | exact (unhide HB).alloc (unhide HB).size _⟩
         rw [H.out]
         first | rfl | (simp_all [lookW, wds]; done))
      | (go_round
         case rel => exact ⟨_, rfl, by decide, by decide, H.out.trans (if_neg (by intro h; clear H; simp [wds] at h; simp_all)), by first | exact unhide HB | exact (unhide HB).alloc (unhide HB).size _⟩
         case measure => simp [intOf])
theorem byte_eq {a:ByteArray} {l:List UInt8} (h:a.data.toList=l):a=⟨l.toArray⟩:=by
 cases a with
 |mk d=>simp at h;subst h;simp
theorem byte_inj {a b:ByteArray} (h:a.data.toList=b.data.toList):a=b:=(byte_eq h).trans (byte_eq rfl).symm
end Go.Proofs.YtidakhhekofkoaaGreatDoor
