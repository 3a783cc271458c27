/- The package variables of the program, as the program's text lays them. -/
import Derived.Test.YtoclbcffbhldmaaGreatDoorR1
namespace Go.Proofs.YtoclbcffbhldmaaGreatDoor
open Go.RowKit Go.Deep

def fsignsC : Array Value := #[.string ⟨#[]⟩, .string ⟨#[116, 114, 117, 101]⟩, .string ⟨#[102, 97, 108, 115, 101]⟩, .string ⟨#[101, 110, 100]⟩, .string ⟨#[33]⟩, .string ⟨#[88]⟩, .string ⟨#[78]⟩, .string ⟨#[70]⟩, .string ⟨#[71]⟩, .string ⟨#[85]⟩, .string ⟨#[38]⟩, .string ⟨#[124]⟩, .string ⟨#[45, 62]⟩]
def wordsC : Array Value := #[.string ⟨#[97, 99, 116, 115]⟩, .int .i64 4, .string ⟨#[114, 117, 108, 101]⟩, .int .i64 5, .string ⟨#[116, 114, 117, 101]⟩, .int .i64 6, .string ⟨#[102, 97, 108, 115, 101]⟩, .int .i64 7, .string ⟨#[101, 110, 100]⟩, .int .i64 8]
def rsignsC : Array Value := #[.string ⟨#[88]⟩, .int .i64 9, .string ⟨#[78]⟩, .int .i64 10, .string ⟨#[70]⟩, .int .i64 11, .string ⟨#[71]⟩, .int .i64 12, .string ⟨#[85]⟩, .int .i64 13, .string ⟨#[45, 62]⟩, .int .i64 14, .string ⟨#[124]⟩, .int .i64 15, .string ⟨#[38]⟩, .int .i64 16, .string ⟨#[33]⟩, .int .i64 17, .string ⟨#[40]⟩, .int .i64 18, .string ⟨#[41]⟩, .int .i64 19, .string ⟨#[44]⟩, .int .i64 20, .string ⟨#[59]⟩, .int .i64 21]
/-- The variables hold what the text says. -/
structure GV (w : World) : Prop where
  fs : ∃ t m, w.heap[0]? = some (.cells fsignsC t m)
  ws : ∃ t m, w.heap[3]? = some (.cells wordsC t m)
  rs : ∃ t m, w.heap[2]? = some (.cells rsignsC t m)
theorem GV.later {w w' : World} (h : GV w) (hb : Below w.heap.size w w') : GV w' := by
  obtain ⟨⟨t1, m1, h1⟩, ⟨t2, m2, h2⟩, ⟨t3, m3, h3⟩⟩ := h
  exact ⟨⟨t1, m1, (hb.block _ (lt_of_blk h1)).trans h1⟩, ⟨t2, m2, (hb.block _ (lt_of_blk h2)).trans h2⟩, ⟨t3, m3, (hb.block _ (lt_of_blk h3)).trans h3⟩⟩
theorem GV.alloc {w : World} (h : GV w) (o : Obj) : GV (w.alloc o) := h.later ((Below.refl _ _).alloc (Nat.le_refl _) _)
end Go.Proofs.YtoclbcffbhldmaaGreatDoor
