/- A desk of the program, as it lies. -/
import Derived.Test.YtidakhhekofkoaaGreatDoorK34
import Derived.Test.YtidakhhekofkoaaGreatDoorK35
import Derived.Test.YtidakhhekofkoaaGreatDoorK06
set_option linter.unusedSimpArgs false
set_option linter.unusedVariables false
namespace Go.Proofs.YtidakhhekofkoaaGreatDoor
open Go.RowKit Go.Deep Go.Maps
def ptrE (v : Value) : Option (DataW Unit × List MemPlace) :=
 match v with
 | .pointer (some ⟨b, 0, none⟩) => some (.lit (.int .i64 (b : Int)), [])
 | .pointer none => some (.nil, [])
 | _ => none
theorem ptrE_mk (b : Nat) : ptrE (.pointer (some ⟨b, 0, none⟩)) = some (.lit (.int .i64 (b : Int)), []) := rfl
theorem ptrE_inv {v : Value} {b : Nat} {ps : List MemPlace} (h : ptrE v = some (.lit (.int .i64 (b : Int)), ps)) : v = .pointer (some ⟨b, 0, none⟩) := by
 unfold ptrE at h
 split at h
 ·injection h with h
  injection h with h _
  injection h with h
  injection h with _ h
  have : (_ : Nat) = b := Int.ofNat.inj h
  rw [this]
 ·injection h with h
  injection h with h _
  cases h
 ·cases h
theorem ptrE_nil {v : Value} {ps : List MemPlace} (h : ptrE v = some (.nil, ps)) : v = .pointer none := by
 unfold ptrE at h
 split at h
 ·injection h with h
  injection h with h _
  cases h
 ·rfl
 ·cases h
def klI (id : ByteArray) : Lit := .string id.data.toList
theorem klI_inj {a b : ByteArray} (h : klI a = klI b) : a = b := by
 unfold klI at h
 injection h with h
 cases a with | mk a => cases b with | mk b => exact congrArg ByteArray.mk (Array.toList_inj.1 h)
theorem lawT : Keyed Tryz.prog 9 := string_keyed Tryz.underlying9
theorem keyI {id : ByteArray} (h : id.size ≤ 140737488355328) : keyOf Tryz.prog 9 (.string id) = some (klI id) := WideMaps.keyOf_string_mk Tryz.underlying9 (by
 unfold maxLen
 omega)
theorem klI_key (id : ByteArray) : WideAt.IsKeyLit (klI id) := trivial
structure FrD (S : Nat → Prop) (w w' : World) : Prop where
 os : w'.os = w.os
 tape : w'.tape = w.tape
 output : w'.output = w.output
 size : w.heap.size ≤ w'.heap.size
 block : ∀ k, k < w.heap.size → ¬ S k → w'.heap[k]? = w.heap[k]?
theorem FrD.refl (S : Nat → Prop) (w : World) : FrD S w w := ⟨rfl, rfl, rfl, Nat.le_refl _, fun _ _ _ => rfl⟩
theorem FrD.below {S : Nat → Prop} {w w' : World} (h : Below w.heap.size w w') : FrD S w w' := ⟨h.os, h.tape, h.output, h.size, fun k hk _ => h.block k hk⟩
theorem FrD.trans {S : Nat → Prop} {a b c : World} (h : FrD S a b) (h' : FrD S b c) : FrD S a c :=
 ⟨h'.os.trans h.os, h'.tape.trans h.tape, h'.output.trans h.output, Nat.le_trans h.size h'.size, fun k hk hs => (h'.block k (Nat.lt_of_lt_of_le hk h.size) hs).trans (h.block k hk hs)⟩
theorem FrD.mono {S S' : Nat → Prop} {w w' : World} (h : FrD S w w') (hs : ∀ k, k < w.heap.size → S k → S' k) : FrD S' w w' := ⟨h.os, h.tape, h.output, h.size, fun k hk hn => h.block k hk (fun e => hn (hs k hk e))⟩
theorem FrD.toBelow {S : Nat → Prop} {w w' : World} (h : FrD S w w') {B : Nat} (hB : B ≤ w.heap.size) (hs : ∀ k, k < B → ¬ S k) : Below B w w' := ⟨h.os, h.tape, h.output, h.size, fun k hk => h.block k (Nat.lt_of_lt_of_le hk hB) (hs k hk)⟩
theorem FrD.grown {S : Nat → Prop} {w w' : World} {b : Nat} (h : w.grownBy w' (some b)) (hb : S b) : FrD S w w' := ⟨h.os, h.tape, h.output, h.size, fun k hk hn => h.block k hk (fun e => by cases e; exact hn hb)⟩
theorem bcellS {S : Nat → Prop} {w w' : World} (h : FrD S w w') {b : Nat} (hb : b < w.heap.size) (hn : ¬ S b) (i : Nat) : w'.cell? ⟨b, i, none⟩ = w.cell? ⟨b, i, none⟩ := by
 unfold World.cell?
 rw [h.block b hb hn]
theorem TbL.frame {S : Nat → Prop} {W W' : World} {t : Tb} {A n ab a0 fb f0 nb n0 : Nat} {rb ro rc : Nat → Nat} (h : TbL W t A n ab a0 fb f0 nb n0 rb ro rc) (hf : FrD S W W') (ha : ¬ S ab) (hfb : ¬ S fb) (hnb : ¬ S nb) (hr : ∀ i, i < n → ¬ S (rb i)) : TbL W' t A n ab a0 fb f0 nb n0 rb ro rc :=
 ⟨h.hA, h.hn, h.A6, h.A1, h.n1, h.n100, h.rt, fun i s hs => (bcellS hf h.la ha _).trans (h.act i s hs), fun i hi => (bcellS hf h.lf hfb _).trans (h.fla i hi), fun i hi => (bcellS hf h.ln hnb _).trans (h.row i hi),
  fun i a hi ha => (bcellS hf (h.lr i hi) (hr i hi) _).trans (h.nxt i a hi ha), Nat.lt_of_lt_of_le h.la hf.size, Nat.lt_of_lt_of_le h.lf hf.size, Nat.lt_of_lt_of_le h.ln hf.size, fun i hi => Nat.lt_of_lt_of_le (h.lr i hi) hf.size⟩
def DkS (cs : List Cs) (mb : Nat) (pb : ByteArray → Nat) (k : Nat) : Prop := k = mb ∨ ∃ c ∈ cs, k = pb c.id
structure DkP (w : World) (db : Nat) (t : Tb) (cs : List Cs) (A n ab a0 fb f0 nb n0 ac fc nc : Nat) (rb ro rc : Nat → Nat) (mb : Nat) (pb : ByteArray → Nat) (D : DataW Unit) : Prop where
 blk : w.heap[db]? = some (.cells #[.slice (some ⟨ab, a0, none⟩) A ac, .slice (some ⟨fb, f0, none⟩) n fc, .slice (some ⟨nb, n0, none⟩) n nc, .map (some mb)] 95 (0, 0))
 tb : TbL w t A n ab a0 fb f0 nb n0 rb ro rc
 mp : w.ownsMap Tryz.prog 9 ptrE mb cs.length D
 sz : Maps.size D = cs.length
 has : ∀ id, Maps.has D (klI id) = true ↔ ∃ c ∈ cs, c.id = id
 at_ : ∀ c ∈ cs, ∀ zd, D.atKey (klI c.id) zd = .lit (.int .i64 (pb c.id : Int))
 cell : ∀ c ∈ cs, w.heap[pb c.id]? = some (.cells #[.int .i64 (c.st : Int), .int .i64 (c.ev : Int)] 100 (0, 0))
 nd : (cs.map (·.id)).Nodup
 inj : ∀ c ∈ cs, ∀ c' ∈ cs, pb c.id = pb c'.id → c.id = c'.id
 st : ∀ c ∈ cs, c.st < n
 few : cs.length ≤ 8
 sep : ∀ k, DkS cs mb pb k → k ≠ db ∧ k ≠ ab ∧ k ≠ fb ∧ k ≠ nb ∧ ∀ i, i < n → k ≠ rb i
theorem owns_tight {P : Program} {k : TypeId} {R : Value → Option (DataW Unit × List MemPlace)} {w : World} {b n : Nat} {D : DataW Unit} (h : w.ownsMap P k R b n D) : w.ownsMap P k R b (Maps.size D) D := by
 obtain ⟨es, clock, hb, F, hs, rfl⟩ := h
 exact ⟨es, clock, hb, F, by simp [Maps.size, length_sorted], rfl⟩
def pbPut (pb : ByteArray → Nat) (id : ByteArray) (p : Nat) (x : ByteArray) : Nat := if x = id then p else pb x
theorem pbPut_same (pb : ByteArray → Nat) (id : ByteArray) (p : Nat) : pbPut pb id p id = p := if_pos rfl
theorem pbPut_other (pb : ByteArray → Nat) {id x : ByteArray} (p : Nat) (h : x ≠ id) : pbPut pb id p x = pb x := if_neg h
section
variable {w : World} {db : Nat} {t : Tb} {cs : List Cs} {A n ab a0 fb f0 nb n0 ac fc nc : Nat} {rb ro rc : Nat → Nat} {mb : Nat} {pb : ByteArray → Nat} {D : DataW Unit}
theorem DkP.mlt (h : DkP w db t cs A n ab a0 fb f0 nb n0 ac fc nc rb ro rc mb pb D) : mb < w.heap.size := h.mp.lt
theorem DkP.blocks (h : DkP w db t cs A n ab a0 fb f0 nb n0 ac fc nc rb ro rc mb pb D) {k : Nat} (hs : DkS cs mb pb k) : k < w.heap.size := by
 rcases hs with rfl | ⟨c, hc, rfl⟩
 ·exact h.mlt
 ·exact lt_of_blk (h.cell c hc)
theorem DkP.later {w' : World} (h : DkP w db t cs A n ab a0 fb f0 nb n0 ac fc nc rb ro rc mb pb D) (hb : Below w.heap.size w w') : DkP w' db t cs A n ab a0 fb f0 nb n0 ac fc nc rb ro rc mb pb D :=
 ⟨(hb.block _ (lt_of_blk h.blk)).trans h.blk, h.tb.later hb, h.mp.kept (grown_below hb none) (fun e => by cases e), h.sz, h.has, h.at_, fun c hc => (hb.block _ (lt_of_blk (h.cell c hc))).trans (h.cell c hc), h.nd, h.inj, h.st, h.few, h.sep⟩
theorem DkP.mne (h : DkP w db t cs A n ab a0 fb f0 nb n0 ac fc nc rb ro rc mb pb D) {c : Cs} (hc : c ∈ cs) : mb ≠ pb c.id := fun e => by
 obtain ⟨es, cl, h1, _⟩ := h.mp
 have h2 := h.cell c hc
 rw [← e, h1] at h2
 cases h2
theorem DkP.put (h : DkP w db t cs A n ab a0 fb f0 nb n0 ac fc nc rb ro rc mb pb D) {c : Cs} (hc : c ∈ cs) (s e : Nat) (hs : s < n) :
  DkP ((w.setCell ⟨pb c.id, 0, none⟩ (.int .i64 (s : Int))).setCell ⟨pb c.id, 1, none⟩ (.int .i64 (e : Int))) db t (csPut cs c.id s e) A n ab a0 fb f0 nb n0 ac fc nc rb ro rc mb pb D ∧
   FrD (DkS cs mb pb) w ((w.setCell ⟨pb c.id, 0, none⟩ (.int .i64 (s : Int))).setCell ⟨pb c.id, 1, none⟩ (.int .i64 (e : Int))) := by
 have hg : w.grownBy ((w.setCell ⟨pb c.id, 0, none⟩ (.int .i64 (s : Int))).setCell ⟨pb c.id, 1, none⟩ (.int .i64 (e : Int))) (some (pb c.id)) := (grown_set _ _ _ _).trans (grown_set _ _ _ _)
 have hb2 : ((w.setCell ⟨pb c.id, 0, none⟩ (.int .i64 (s : Int))).setCell ⟨pb c.id, 1, none⟩ (.int .i64 (e : Int))).heap[pb c.id]? = some (.cells #[.int .i64 (s : Int), .int .i64 (e : Int)] 100 (0, 0)) := blk_set (blk_set (h.cell c hc) 0 _) 1 _
 generalize (w.setCell ⟨pb c.id, 0, none⟩ (.int .i64 (s : Int))).setCell ⟨pb c.id, 1, none⟩ (.int .i64 (e : Int)) = w' at *
 have hin : DkS cs mb pb (pb c.id) := Or.inr ⟨c, hc, rfl⟩
 obtain ⟨p1, p2, p3, p4, p5⟩ := h.sep _ hin
 have hf : FrD (fun k => k = pb c.id) w w' := FrD.grown hg rfl
 have hS : ∀ k, DkS (csPut cs c.id s e) mb pb k → DkS cs mb pb k := fun k hk => by
  rcases hk with rfl | ⟨x, hx, rfl⟩
  ·exact Or.inl rfl
  ·rcases csPut_mem hx with ⟨_, hx'⟩ | ⟨rfl, _⟩
   ·exact Or.inr ⟨x, hx', rfl⟩
   ·exact hin
 refine ⟨⟨(hf.block db (lt_of_blk h.blk) (fun e => p1 e.symm)).trans h.blk, h.tb.frame hf (fun e => p2 e.symm) (fun e => p3 e.symm) (fun e => p4 e.symm) (fun i hi e => p5 i hi e.symm), ?_, ?_, fun id => ?_, fun x hx zd => ?_, fun x hx => ?_, ?_, fun x hx y hy e => ?_, fun x hx => ?_, ?_, fun k hk => h.sep k (hS k hk)⟩, ?_⟩
 ·rw [csPut_len]
  exact h.mp.kept hg (fun e => h.mne hc (Option.some.inj e))
 ·rw [csPut_len]; exact h.sz
 ·rw [h.has]
  constructor
  ·rintro ⟨x, hx, rfl⟩
   have : x.id ∈ (csPut cs c.id s e).map (·.id) := by rw [csPut_ids]; exact List.mem_map.2 ⟨x, hx, rfl⟩
   obtain ⟨y, hy, e⟩ := List.mem_map.1 this
   exact ⟨y, hy, e⟩
  ·rintro ⟨x, hx, rfl⟩
   rcases csPut_mem hx with ⟨_, hx'⟩ | ⟨rfl, y, hy, e⟩
   ·exact ⟨x, hx', rfl⟩
   ·exact ⟨y, hy, e⟩
 ·rcases csPut_mem hx with ⟨_, hx'⟩ | ⟨rfl, _⟩
  ·exact h.at_ x hx' zd
  ·exact h.at_ c hc zd
 ·rcases csPut_mem hx with ⟨hne, hx'⟩ | ⟨rfl, _⟩
  ·exact (hf.block _ (lt_of_blk (h.cell x hx')) (fun e => hne (h.inj x hx' c hc e))).trans (h.cell x hx')
  ·exact hb2
 ·rw [csPut_ids]; exact h.nd
 ·have hx' : ∃ x' ∈ cs, x'.id = x.id := by
   rcases csPut_mem hx with ⟨_, hx'⟩ | ⟨rfl, y, hy, e⟩
   ·exact ⟨x, hx', rfl⟩
   ·exact ⟨y, hy, e⟩
  have hy' : ∃ y' ∈ cs, y'.id = y.id := by
   rcases csPut_mem hy with ⟨_, hx'⟩ | ⟨rfl, y, hy, e⟩
   ·exact ⟨y, hx', rfl⟩
   ·exact ⟨y, hy, e⟩
  obtain ⟨x', h1, h2⟩ := hx'
  obtain ⟨y', h3, h4⟩ := hy'
  rw [← h2, ← h4] at e ⊢
  exact h.inj x' h1 y' h3 e
 ·rcases csPut_mem hx with ⟨_, hx'⟩ | ⟨rfl, _⟩
  ·exact h.st x hx'
  ·exact hs
 ·rw [csPut_len]; exact h.few
 ·exact hf.mono (fun k _ e => by rw [e]; exact hin)
theorem DkP.del {w' : World} (h : DkP w db t cs A n ab a0 fb f0 nb n0 ac fc nc rb ro rc mb pb D) {c : Cs} (hc : c ∈ cs) (hm : w'.ownsMap Tryz.prog 9 ptrE mb cs.length (D.del (klI c.id))) (ht : w.mapTurned w' mb) :
  DkP w' db t (csDel cs c.id) A n ab a0 fb f0 nb n0 ac fc nc rb ro rc mb pb (D.del (klI c.id)) ∧ FrD (DkS cs mb pb) w w' := by
 have hg := ht.grown
 have hin : DkS cs mb pb mb := Or.inl rfl
 obtain ⟨p1, p2, p3, p4, p5⟩ := h.sep _ hin
 have hf : FrD (fun k => k = mb) w w' := FrD.grown hg rfl
 have hS : ∀ k, DkS (csDel cs c.id) mb pb k → DkS cs mb pb k := fun k hk => by
  rcases hk with rfl | ⟨x, hx, rfl⟩
  ·exact Or.inl rfl
  ·exact Or.inr ⟨x, (csDel_mem.1 hx).1, rfl⟩
 have hlen := csDel_len h.nd ⟨c, hc, rfl⟩
 have hsz : Maps.size (D.del (klI c.id)) = (csDel cs c.id).length := by
  have h1 := size_del (k := klI c.id) (h.mp.tidy lawT)
  rw [(h.has c.id).2 ⟨c, hc, rfl⟩, if_pos rfl, h.sz] at h1
  omega
 refine ⟨⟨(hf.block db (lt_of_blk h.blk) (fun e => p1 e.symm)).trans h.blk, h.tb.frame hf (fun e => p2 e.symm) (fun e => p3 e.symm) (fun e => p4 e.symm) (fun i hi e => p5 i hi e.symm), ?_, hsz, fun id => ?_, fun x hx zd => ?_, fun x hx => ?_, csDel_nodup h.nd, fun x hx y hy e => h.inj x (csDel_mem.1 hx).1 y (csDel_mem.1 hy).1 e, fun x hx => h.st x (csDel_mem.1 hx).1, ?_, fun k hk => h.sep k (hS k hk)⟩, hf.mono (fun k _ e => by rw [e]; exact hin)⟩
 ·have := owns_tight hm
  rw [hsz] at this
  exact this
 ·by_cases e : id = c.id
  ·subst e
   rw [has_del_same]
   refine ⟨fun h => Bool.noConfusion h, ?_⟩
   rintro ⟨x, hx, e⟩
   exact ((csDel_mem.1 hx).2 e).elim
  ·rw [has_del_other (fun e' => e (klI_inj e')), h.has]
   exact ⟨fun ⟨x, hx, e1⟩ => ⟨x, csDel_mem.2 ⟨hx, by rw [e1]; exact e⟩, e1⟩, fun ⟨x, hx, e1⟩ => ⟨x, (csDel_mem.1 hx).1, e1⟩⟩
 ·obtain ⟨h1, h2⟩ := csDel_mem.1 hx
  rw [atKey_del_other (fun e' => h2 (klI_inj e'))]
  exact h.at_ x h1 zd
 ·obtain ⟨h1, h2⟩ := csDel_mem.1 hx
  exact (hf.block _ (lt_of_blk (h.cell x h1)) (fun e => h.mne h1 e.symm)).trans (h.cell x h1)
 ·have := h.few; omega
theorem DkP.new {w' : World} (h : DkP w db t cs A n ab a0 fb f0 nb n0 ac fc nc rb ro rc mb pb D) {id : ByteArray} (hn : ∀ c ∈ cs, c.id ≠ id) (h8 : cs.length < 8) {p : Nat} (hp : w.heap[p]? = some (.cells #[.int .i64 0, .int .i64 0] 100 (0, 0)))
  (hnew : ¬ DkS cs mb pb p) (hps : p ≠ db ∧ p ≠ ab ∧ p ≠ fb ∧ p ≠ nb ∧ ∀ i, i < n → p ≠ rb i) (hm : w'.ownsMap Tryz.prog 9 ptrE mb (cs.length + 1) (D.put (klI id) (.lit (.int .i64 (p : Int))))) (ht : w.mapTurned w' mb) :
  DkP w' db t (cs ++ [⟨id, 0, 0⟩]) A n ab a0 fb f0 nb n0 ac fc nc rb ro rc mb (pbPut pb id p) (D.put (klI id) (.lit (.int .i64 (p : Int)))) ∧ FrD (DkS cs mb pb) w w' := by
 have hg := ht.grown
 have hin : DkS cs mb pb mb := Or.inl rfl
 obtain ⟨p1, p2, p3, p4, p5⟩ := h.sep _ hin
 have hf : FrD (fun k => k = mb) w w' := FrD.grown hg rfl
 have hmem : ∀ {x : Cs}, x ∈ cs ++ [⟨id, 0, 0⟩] → (x ∈ cs ∧ x.id ≠ id) ∨ x = ⟨id, 0, 0⟩ := fun {x} hx => by
  rcases List.mem_append.1 hx with hx | hx
  ·exact Or.inl ⟨hx, hn x hx⟩
  ·exact Or.inr (List.mem_singleton.1 hx)
 have hpm : p ≠ mb := fun e => hnew (Or.inl e)
 refine ⟨⟨(hf.block db (lt_of_blk h.blk) (fun e => p1 e.symm)).trans h.blk, h.tb.frame hf (fun e => p2 e.symm) (fun e => p3 e.symm) (fun e => p4 e.symm) (fun i hi e => p5 i hi e.symm), ?_, ?_, fun x => ?_, fun x hx zd => ?_, fun x hx => ?_, ?_, fun x hx y hy e => ?_, fun x hx => ?_, ?_, fun k hk => ?_⟩, hf.mono (fun k _ e => by rw [e]; exact hin)⟩
 ·rw [List.length_append]; exact hm
 ·have h1 := size_put (k := klI id) (h.mp.tidy lawT) (.lit (.int .i64 (p : Int)))
  have h2 : Maps.has D (klI id) = false := by
   cases e : Maps.has D (klI id) with
   | false => rfl
   | true => obtain ⟨c, hc, e'⟩ := (h.has id).1 e; exact (hn c hc e').elim
  rw [h2, if_neg (by decide), h.sz] at h1
  rw [h1, List.length_append]
  rfl
 ·by_cases e : x = id
  ·subst e
   rw [has_put_same h.mp.isMap (klI_key _)]
   exact ⟨fun _ => ⟨⟨x, 0, 0⟩, by simp, rfl⟩, fun _ => rfl⟩
  ·rw [has_put_other (fun e' => e (klI_inj e')), h.has]
   refine ⟨fun ⟨c, hc, e1⟩ => ⟨c, List.mem_append_left _ hc, e1⟩, fun ⟨c, hc, e1⟩ => ?_⟩
   rcases hmem hc with ⟨h1, _⟩ | rfl
   ·exact ⟨c, h1, e1⟩
   ·exact (e e1.symm).elim
 ·rcases hmem hx with ⟨h1, h2⟩ | rfl
  ·rw [atKey_put_other (fun e' => h2 (klI_inj e')), pbPut_other _ _ h2]
   exact h.at_ x h1 zd
  ·rw [atKey_put_same h.mp.isMap (klI_key _), pbPut_same]
 ·rcases hmem hx with ⟨h1, h2⟩ | rfl
  ·rw [pbPut_other _ _ h2]
   exact (hf.block _ (lt_of_blk (h.cell x h1)) (fun e => h.mne h1 e.symm)).trans (h.cell x h1)
  ·rw [pbPut_same]
   exact (hf.block _ (lt_of_blk hp) hpm).trans hp
 ·rw [List.map_append, List.nodup_append]
  refine ⟨h.nd, by simp, fun x hx y hy e => ?_⟩
  obtain ⟨c, hc, rfl⟩ := List.mem_map.1 hx
  have hy' : y = id := by simpa using hy
  exact hn c hc (e.trans hy')
 ·rcases hmem hx with ⟨h1, h2⟩ | rfl
  ·rcases hmem hy with ⟨h3, h4⟩ | rfl
   ·rw [pbPut_other _ _ h2, pbPut_other _ _ h4] at e
    exact h.inj x h1 y h3 e
   ·rw [pbPut_other _ _ h2, pbPut_same] at e
    exact (hnew (Or.inr ⟨x, h1, e.symm⟩)).elim
  ·rcases hmem hy with ⟨h3, h4⟩ | rfl
   ·rw [pbPut_same, pbPut_other _ _ h4] at e
    exact (hnew (Or.inr ⟨y, h3, e⟩)).elim
   ·rfl
 ·rcases hmem hx with ⟨h1, _⟩ | rfl
  ·exact h.st x h1
  ·have := h.tb.n1; show 0 < n; omega
 ·rw [List.length_append]; show cs.length + 1 ≤ 8; omega
 ·rcases hk with rfl | ⟨x, hx, rfl⟩
  ·exact h.sep _ hin
  ·rcases hmem hx with ⟨h1, h2⟩ | rfl
   ·rw [pbPut_other _ _ h2]
    exact h.sep _ (Or.inr ⟨x, h1, rfl⟩)
   ·rw [pbPut_same]
    exact hps
end
theorem flT_le {t : Tb} (h : RightT t) (s : Nat) : flT t s ≤ 3 := by
 unfold flT
 cases e : t.fl[s]? with
 | none => simp
 | some f => exact h.fs f (List.mem_of_getElem? e)
theorem and_two {f : Nat} (h : f ≤ 3) : bits BinOp.and IntKind.i64 (f : Int) 2 = if 2 ≤ f then 2 else 0 := by
 match f, h with
 | 0, _ => decide
 | 1, _ => decide
 | 2, _ => decide
 | 3, _ => decide
theorem and_one {f : Nat} (h : f ≤ 3) : bits BinOp.and IntKind.i64 (f : Int) 1 = if f % 2 = 1 then 1 else 0 := by
 match f, h with
 | 0, _ => decide
 | 1, _ => decide
 | 2, _ => decide
 | 3, _ => decide
theorem acc_fl (t : Tb) (s : Nat) : accT t s = decide (flT t s % 2 = 1) := by
 unfold accT flT
 rfl
section
variable (w : World) (t : Tb) (A n ab a0 fb f0 nb n0 ac fc nc : Nat) (rb ro rc : Nat → Nat)
set_option maxHeartbeats 2000000 in
set_option maxRecDepth 100000 in
theorem has_alive (hL : TbL w t A n ab a0 fb f0 nb n0 rb ro rc) (s : Nat) (hs : s < n) :
  Calls Tryz.prog 48 #[.agg #[.slice (some ⟨ab, a0, none⟩) A ac, .slice (some ⟨fb, f0, none⟩) n fc, .slice (some ⟨nb, n0, none⟩) n nc], .int .i64 (s : Int), .int .i64 2] w fun e w' => e = .returned (.bool (decide (2 ≤ flT t s))) ∧ Below w.heap.size w w' := by
 have hfa := hL.fla s hs
 have hlf := hL.lf
 have hb := and_two (flT_le hL.rt s)
 have hin : (s : Int) < (n : Int) := by omega
 clear hL
 generalize flT t s = f at *
 go_enter Tryz.func48, Tryz.ntmps48
 by_cases h2 : 2 ≤ f
 ·rw [if_pos h2] at hb
  go_wp2_with fail
  refine bodyPost_ret (v := .bool true) (by simp [results, Tryz.results48, go_sem]) rfl ?_
  exact ⟨by rw [decide_eq_true h2], (Below.refl _ _).alloc (Nat.le_refl _) _⟩
 ·rw [if_neg h2] at hb
  go_wp2_with fail
  refine bodyPost_ret (v := .bool false) (by simp [results, Tryz.results48, go_sem]) rfl ?_
  exact ⟨by rw [decide_eq_false h2], (Below.refl _ _).alloc (Nat.le_refl _) _⟩
set_option maxHeartbeats 2000000 in
set_option maxRecDepth 100000 in
theorem has_acc (hL : TbL w t A n ab a0 fb f0 nb n0 rb ro rc) (s : Nat) (hs : s < n) :
  Calls Tryz.prog 48 #[.agg #[.slice (some ⟨ab, a0, none⟩) A ac, .slice (some ⟨fb, f0, none⟩) n fc, .slice (some ⟨nb, n0, none⟩) n nc], .int .i64 (s : Int), .int .i64 1] w fun e w' => e = .returned (.bool (accT t s)) ∧ Below w.heap.size w w' := by
 have hfa := hL.fla s hs
 have hlf := hL.lf
 have hb := and_one (flT_le hL.rt s)
 have hin : (s : Int) < (n : Int) := by omega
 rw [acc_fl]
 clear hL
 generalize flT t s = f at *
 go_enter Tryz.func48, Tryz.ntmps48
 by_cases h2 : f % 2 = 1
 ·rw [if_pos h2] at hb
  rw [decide_eq_true h2]
  clear h2
  go_wp2_with fail
  refine bodyPost_ret (v := .bool true) (by simp [results, Tryz.results48, go_sem]) rfl ?_
  exact ⟨rfl, (Below.refl _ _).alloc (Nat.le_refl _) _⟩
 ·rw [if_neg h2] at hb
  rw [decide_eq_false h2]
  clear h2
  go_wp2_with fail
  refine bodyPost_ret (v := .bool false) (by simp [results, Tryz.results48, go_sem]) rfl ?_
  exact ⟨rfl, (Below.refl _ _).alloc (Nat.le_refl _) _⟩
end
theorem idx_fnd (x : ByteArray) : ∀ (l : List ByteArray) (i : Nat), Lib.idxFromS l x i = match fnd x l i with | some a => (a : Int) | none => -1
 | [], i => rfl
 | y :: l, i => by
  rw [Lib.idxFromS, fnd]
  by_cases e : y = x
  ·rw [if_pos e, if_pos e]
  ·rw [if_neg e, if_neg e]
   exact idx_fnd x l (i + 1)
def NxP (t : Tb) (s : Nat) (act : ByteArray) (e : Ending) : Prop :=
 (fnd act t.acts 0 = none ∧ e = .returned (.tuple #[.int .i64 0, .bool false])) ∨ ∃ a, fnd act t.acts 0 = some a ∧ e = .returned (.tuple #[.int .i64 (nxT t s a : Int), .bool true])
section
variable (w : World) (t : Tb) (A n ab a0 fb f0 nb n0 ac fc nc : Nat) (rb ro rc : Nat → Nat)
set_option maxHeartbeats 2000000 in
set_option maxRecDepth 100000 in
theorem next_any (hL : TbL w t A n ab a0 fb f0 nb n0 rb ro rc) (s : Nat) (hs : s < n) (act : ByteArray) :
  Calls Tryz.prog 91 #[.agg #[.slice (some ⟨ab, a0, none⟩) A ac, .slice (some ⟨fb, f0, none⟩) n fc, .slice (some ⟨nb, n0, none⟩) n nc], .int .i64 (s : Int), .string act] w fun e w' => NxP t s act e ∧ Below w.heap.size w w' := by
 have hA6 := hL.A6
 have hba : Below w.heap.size w (w.alloc (.cells #[.slice (some ⟨ab, a0, none⟩) A ac, .slice (some ⟨fb, f0, none⟩) n fc, .slice (some ⟨nb, n0, none⟩) n nc] 92)) := (Below.refl _ _).alloc (Nat.le_refl _) _
 have HIX : Hid (Calls Tryz.prog 123 #[.slice (some ⟨ab, a0, none⟩) A ac, .string act] (w.alloc (.cells #[.slice (some ⟨ab, a0, none⟩) A ac, .slice (some ⟨fb, f0, none⟩) n fc, .slice (some ⟨nb, n0, none⟩) n nc] 92)) fun e w' => e = .returned (.int .i64 (Lib.idxOfS (t.acts.take A) act)) ∧ w' = (w.alloc (.cells #[.slice (some ⟨ab, a0, none⟩) A ac, .slice (some ⟨fb, f0, none⟩) n fc, .slice (some ⟨nb, n0, none⟩) n nc] 92))) :=
  Any.slices_Index_string (P := Tryz.prog) { Tryz.lays110 with } ab a0 A ac t.acts act _ (by rw [hL.hA]; exact Nat.le_refl _) (by omega) (fun j hj => by
   have := (hL.later hba).act j t.acts[j] (List.getElem?_eq_getElem hj)
   rw [this, List.getD_eq_getElem?_getD, List.getElem?_eq_getElem hj]
   rfl)
 have hta : t.acts.take A = t.acts := List.take_of_length_le (by rw [hL.hA]; exact Nat.le_refl _)
 rw [hta] at HIX
 have hidx : Lib.idxOfS t.acts act = match fnd act t.acts 0 with | some a => (a : Int) | none => -1 := idx_fnd act t.acts 0
 rw [hidx] at HIX
 have HL := hide hL
 have hsn : (s : Int) < (n : Int) := by omega
 have hrow := hL.row s hs
 have hln := hL.ln
 clear hL hta hidx hba
 go_enter Tryz.func91, Tryz.ntmps91
 cases hf : fnd act t.acts 0 with
 | none =>
  rw [hf] at HIX
  have HF := hide hf
  clear hf
  go_wp2_with fail
  refine (unhide HIX).mono ?_
  rintro e w' ⟨rfl, hw⟩
  subst hw
  clear HIX
  go_wp2_with fail
  refine bodyPost_ret (v := .tuple #[.int .i64 0, .bool false]) (by simp [results, Tryz.results91, go_sem]) rfl ?_
  exact ⟨Or.inl ⟨unhide HF, rfl⟩, (Below.refl _ _).alloc (Nat.le_refl _) _⟩
 | some a =>
  rw [hf] at HIX
  have HF := hide hf
  have haA : a < A := by
   have h1 := (List.getElem?_eq_some_iff.1 (fnd_some hf).2).1
   rw [Nat.sub_zero, (unhide HL).hA] at h1
   exact h1
  have hai : (a : Int) < (A : Int) := by omega
  have hneg : ¬ (a : Int) < 0 := by omega
  have hnx := (unhide HL).nxt s a hs haA
  have hlr := (unhide HL).lr s hs
  clear hf
  obtain ⟨y, hy⟩ : ∃ y, y = nxT t s a := ⟨_, rfl⟩
  rw [← hy] at hnx
  have HY := hide hy
  clear hy
  go_wp2_with fail
  refine (unhide HIX).mono ?_
  rintro e w' ⟨rfl, hw⟩
  subst hw
  clear HIX
  go_wp2_with fail
  refine bodyPost_ret (v := .tuple #[.int .i64 (y : Int), .bool true]) (by simp [results, Tryz.results91, go_sem]) rfl ?_
  exact ⟨Or.inr ⟨a, unhide HF, by rw [unhide HY]⟩, (Below.refl _ _).alloc (Nat.le_refl _) _⟩
end
end Go.Proofs.YtidakhhekofkoaaGreatDoor
