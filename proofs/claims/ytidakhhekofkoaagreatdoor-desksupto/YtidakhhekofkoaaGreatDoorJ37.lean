/- The law's world through a script of traces; its step Holds. -/
import Derived.Test.YtidakhhekofkoaaGreatDoorJ29
import Derived.Test.YtidakhhekofkoaaGreatDoorJ07
import Derived.BigQuiet
import Derived.Deep.RegionWith
import Derived.Test.YtidakhhekofkoaaGreatDoorJ15
import Derived.Test.YtidakhhekofkoaaGreatDoorJ09
import Derived.Test.YtidakhhekofkoaaGreatDoorJ10
import Derived.Deep.RegionHeld
import Derived.Deep.AppendLies
import Derived.Test.YtidakhhekofkoaaGreatDoorJ18
import Derived.Test.YtidakhhekofkoaaGreatDoorJ11
import Derived.Deep.DeepCutAuto
import Derived.Test.YtidakhhekofkoaaGreatDoorJ17
import Derived.Laws.EntriesVeiled
import Derived.Test.YtidakhhekofkoaaGreatDoorJ01
import Derived.Shelf.Strings.Builder1
import Derived.Shelf.Strings.Builder2
import Derived.Shelf.Strings.OnBuilder
import Derived.Test.YtidakhhekofkoaaGreatDoorProg
set_option linter.unusedSimpArgs false
set_option linter.unusedVariables false
namespace Go.Proofs.YtidakhhekofkoaaGreatDoor
open Go.RowKit Go.Deep
structure Bk where
 mr:ByteArray
 l:Value
 g1:Value
 g2:Value
 g3:Value
def bkC (b:Bk):List Value:=[.string b.mr,b.l,b.g1,b.g2,b.g3]
def bksC (bs:List Bk):List Value:=bs.flatMap bkC
theorem bksC_snoc (bs:List Bk) (b:Bk):bksC (bs++[b])=bksC bs++[.string b.mr,b.l,b.g1,b.g2,b.g3]:=by simp [bksC,bkC]
structure BkOk (w:World) (b:Bk):Prop where
 l:AllM w b.l (.string b.mr) 9
 g1:AllM w b.g1 (.string b.mr) 9
 g2:AllM w b.g2 (.string b.mr) 9
 g3:AllM w b.g3 (.string b.mr) 9
theorem AllM.keep {w w':World} {l v:Value} {e:Nat} (h:AllM w l v e) (hk: ∀b,TyAt w b e→w'.heap[b]? =w.heap[b]?):AllM w' l v e:=by
 obtain ⟨o,n,c,h1,h2,h3⟩:=h
 refine ⟨o,n,c,h1,h2,fun i hi=> ?_⟩
 obtain ⟨b,h4,h5,h6⟩:=h3 i hi
 have e:=hk b h5
 refine ⟨b,h4, ?_, ?_⟩
 ·obtain ⟨cc,m,hc⟩:=h5;exact ⟨cc,m,e.trans hc⟩
 ·unfold World.cell? at h6⊢
  simp only [e];exact h6
theorem BkOk.keep {w w':World} {b:Bk} (h:BkOk w b) (hk: ∀b,TyAt w b 9→w'.heap[b]? =w.heap[b]?):BkOk w' b:=⟨h.l.keep hk,h.g1.keep hk,h.g2.keep hk,h.g3.keep hk⟩
theorem BkOk.later {w w':World} {b:Bk} (h:BkOk w b) (hb:Below w.heap.size w w'):BkOk w' b:=h.keep (fun b ⟨_,_,hc⟩=>hb.block b (lt_of_blk hc))
theorem tab_lt {w:World} (h:Lib.TabIs Tryz.prog w "internal/strconv.uint64pow10" .u64 Lib.pow10Tab):4<w.heap.size:=by
 unfold Lib.TabIs World.var? at h
 rw [tab_glob] at h
 simp only [Option.bind_some] at h
 split at h
 ·rename_i c t m e;exact lt_of_blk e
 ·cases h
theorem tab_later {w w':World} (h:Lib.TabIs Tryz.prog w "internal/strconv.uint64pow10" .u64 Lib.pow10Tab) (hb:Below w.heap.size w w'):Lib.TabIs Tryz.prog w' "internal/strconv.uint64pow10" .u64 Lib.pow10Tab:=tab_same h (hb.block _ (tab_lt h))
end Go.Proofs.YtidakhhekofkoaaGreatDoor
