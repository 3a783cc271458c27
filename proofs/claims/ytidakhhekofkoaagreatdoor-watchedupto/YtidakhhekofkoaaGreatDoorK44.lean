/- Watched: the world of a desk that is watched; what the desk lets come; contains. -/
import Derived.Test.YtidakhhekofkoaaGreatDoorK42
import Derived.Test.YtidakhhekofkoaaGreatDoorK41
import Derived.Test.YtidakhhekofkoaaGreatDoorK43
set_option linter.unusedSimpArgs false
set_option linter.unusedVariables false
namespace Go.Proofs.YtidakhhekofkoaaGreatDoor
open Go.RowKit Go.Deep Go.Maps
theorem bcellB {B : Nat} {w w' : World} (h : Below B w w') {b : Nat} (hb : b < B) (i : Nat) : w'.cell? ⟨b, i, none⟩ = w.cell? ⟨b, i, none⟩ := by
 unfold World.cell?
 rw [h.block b hb]
theorem TbL.low {B : Nat} {W W' : World} {t : Tb} {A n ab a0 fb f0 nb n0 : Nat} {rb ro rc : Nat → Nat} (h : TbL W t A n ab a0 fb f0 nb n0 rb ro rc) (hb : Below B W W') (ha : ab < B) (hf : fb < B) (hn : nb < B) (hr : ∀ i, i < n → rb i < B) : TbL W' t A n ab a0 fb f0 nb n0 rb ro rc :=
 ⟨h.hA, h.hn, h.A6, h.A1, h.n1, h.n100, h.rt, fun i s hs => (bcellB hb ha _).trans (h.act i s hs), fun i hi => (bcellB hb hf _).trans (h.fla i hi), fun i hi => (bcellB hb hn _).trans (h.row i hi),
  fun i a hi ha => (bcellB hb (hr i hi) _).trans (h.nxt i a hi ha), Nat.lt_of_lt_of_le h.la hb.size, Nat.lt_of_lt_of_le h.lf hb.size, Nat.lt_of_lt_of_le h.ln hb.size, fun i hi => Nat.lt_of_lt_of_le (h.lr i hi) hb.size⟩
structure DkH (B : Nat) (db : Nat) (cs : List Cs) (n ab fb nb : Nat) (rb : Nat → Nat) (mb : Nat) (pb : ByteArray → Nat) : Prop where
 hs : ∀ k, DkS cs mb pb k → k < B
 hd : db < B
 ha : ab < B
 hf : fb < B
 hn : nb < B
 hr : ∀ i, i < n → rb i < B
section
variable {w w' : World} {db : Nat} {t : Tb} {cs : List Cs} {A n ab a0 fb f0 nb n0 ac fc nc : Nat} {rb ro rc : Nat → Nat} {mb : Nat} {pb : ByteArray → Nat} {D : DataW Unit} {B : Nat}
theorem DkP.all (h : DkP w db t cs A n ab a0 fb f0 nb n0 ac fc nc rb ro rc mb pb D) : DkH w.heap.size db cs n ab fb nb rb mb pb :=
 ⟨fun k hk => h.blocks hk, lt_of_blk h.blk, h.tb.la, h.tb.lf, h.tb.ln, h.tb.lr⟩
theorem DkP.low (h : DkP w db t cs A n ab a0 fb f0 nb n0 ac fc nc rb ro rc mb pb D) (hb : Below B w w') (hB : B ≤ w.heap.size) (hh : DkH B db cs n ab fb nb rb mb pb) : DkP w' db t cs A n ab a0 fb f0 nb n0 ac fc nc rb ro rc mb pb D := by
 refine ⟨(hb.block _ hh.hd).trans h.blk, h.tb.low hb hh.ha hh.hf hh.hn hh.hr, ?_, h.sz, h.has, h.at_, fun c hc => (hb.block _ (hh.hs _ (Or.inr ⟨c, hc, rfl⟩))).trans (h.cell c hc), h.nd, h.inj, h.st, h.few, h.sep⟩
 obtain ⟨es, cl, h1, h2⟩ := h.mp
 exact ⟨es, cl, (hb.block _ (hh.hs _ (Or.inl rfl))).trans h1, h2⟩
end
structure WtI (wO wr : World) (T0 : Nat) (db : Nat) (t : Tb) (cs : List Cs) (A n ab a0 fb f0 nb n0 ac fc nc : Nat) (rb ro rc : Nat → Nat) (mb : Nat) (pb : ByteArray → Nat) (D : DataW Unit) : Prop where
 o : Below wO.heap.size wO wr
 d : DkP wr db t cs A n ab a0 fb f0 nb n0 ac fc nc rb ro rc mb pb D
 lo : ∀ k, DkS cs mb pb k → wO.heap.size ≤ k
 hi : DkH T0 db cs n ab fb nb rb mb pb
 le : T0 ≤ wr.heap.size
 ge : wO.heap.size ≤ T0
section
variable {wO wr wr' : World} {T0 : Nat} {db : Nat} {t : Tb} {cs : List Cs} {A n ab a0 fb f0 nb n0 ac fc nc : Nat} {rb ro rc : Nat → Nat} {mb : Nat} {pb : ByteArray → Nat} {D : DataW Unit}
theorem WtI.later (h : WtI wO wr T0 db t cs A n ab a0 fb f0 nb n0 ac fc nc rb ro rc mb pb D) (hb : Below wr.heap.size wr wr') : WtI wO wr' T0 db t cs A n ab a0 fb f0 nb n0 ac fc nc rb ro rc mb pb D :=
 ⟨h.o.trans (hb.mono h.o.size), h.d.later hb, h.lo, h.hi, Nat.le_trans h.le hb.size, h.ge⟩
theorem WtI.low (h : WtI wO wr T0 db t cs A n ab a0 fb f0 nb n0 ac fc nc rb ro rc mb pb D) (hb : Below T0 wr wr') : WtI wO wr' T0 db t cs A n ab a0 fb f0 nb n0 ac fc nc rb ro rc mb pb D :=
 ⟨h.o.trans (hb.mono h.ge), h.d.low hb h.le h.hi, h.lo, h.hi, Nat.le_trans h.le hb.size, h.ge⟩
theorem WtI.turn (h : WtI wO wr T0 db t cs A n ab a0 fb f0 nb n0 ac fc nc rb ro rc mb pb D) {cs' : List Cs} {D' : DataW Unit} (hf : FrD (DkS cs mb pb) wr wr') (hd : DkP wr' db t cs' A n ab a0 fb f0 nb n0 ac fc nc rb ro rc mb pb D') (hs : ∀ k, DkS cs' mb pb k → DkS cs mb pb k) : WtI wO wr' T0 db t cs' A n ab a0 fb f0 nb n0 ac fc nc rb ro rc mb pb D' :=
 ⟨h.o.trans (hf.toBelow h.o.size (fun k hk hs => by have := h.lo k hs; omega)), hd, fun k hk => h.lo k (hs k hk), ⟨fun k hk => h.hi.hs k (hs k hk), h.hi.hd, h.hi.ha, h.hi.hf, h.hi.hn, h.hi.hr⟩, Nat.le_trans h.le hf.size, h.ge⟩
end
theorem owns_frame {S : Nat → Prop} {w w' : World} {base e n : Nat} {v : Value} {xs : List Value} (h : w.ownsRow base e 1 v n xs) (hf : FrD S w w') (hs : ∀ k, S k → k < base) : w'.ownsRow base e 1 v n xs := by
 obtain ⟨h1, h2⟩ := h
 refine ⟨h1, ?_⟩
 rcases h2 with h2 | ⟨g, cap, cur, hv, hb, hrow, h3⟩
 ·exact Or.inl h2
 ·refine Or.inr ⟨g, cap, cur, hv, hb, ?_, h3⟩
  exact (hf.block g (lt_of_blk hrow) (fun k => by have := hs g k; omega)).trans hrow
theorem csPut_S {cs : List Cs} {id : ByteArray} {s e mb : Nat} {pb : ByteArray → Nat} {k : Nat} (hk : DkS (csPut cs id s e) mb pb k) : DkS cs mb pb k := by
 rcases hk with rfl | ⟨x, hx, rfl⟩
 ·exact Or.inl rfl
 ·rcases csPut_mem hx with ⟨_, hx'⟩ | ⟨rfl, y, hy, e⟩
  ·exact Or.inr ⟨x, hx', rfl⟩
  ·exact Or.inr ⟨y, hy, by rw [e]⟩
def idX : ByteArray := ⟨#[120]⟩
def idY : ByteArray := ⟨#[121]⟩
def csXY (s e : Nat) : List Cs := [⟨idX, s, e⟩, ⟨idY, 0, 0⟩]
theorem csXY_x (s e : Nat) : csAt (csXY s e) idX = some ⟨idX, s, e⟩ := rfl
theorem csXY_y (s e : Nat) : csAt (csXY s e) idY = some ⟨idY, 0, 0⟩ := rfl
theorem csXY_put (s e s' e' : Nat) : csPut (csXY s e) idX s' e' = csXY s' e' := rfl
theorem event_xy (t : Tb) (s e : Nat) (act : ByteArray) : dkEvent t (csXY s e) idX act = if (dkStep t s act).2 = 0 then (csXY (dkStep t s act).1 (e + 1), 0) else (csXY s e, (dkStep t s act).2) := rfl
theorem step_at {t : Tb} (h : RightT t) {s a : Nat} (ha : a < t.acts.length) : dkStep t s (nmT t a) = if flT t (nxT t s a) < 2 then (0, 9) else (nxT t s a, 0) := by
 have hx : t.acts[a]? = some (nmT t a) := by unfold nmT; rw [List.getElem?_eq_getElem ha]; rfl
 unfold dkStep
 rw [fnd_at h.acts.nd hx]
theorem lives_fl {t : Tb} (h : RightT t) {s : Nat} (hs : s < t.nx.length) : 2 ≤ flT t s ↔ Lives t s := by
 have hsl : s < t.fl.length := by rw [h.fl]; exact hs
 exact h.alive s (flT t s) (by unfold flT; rw [List.getElem?_eq_getElem hsl]; rfl)
theorem opts_mem {t : Tb} {s : Nat} {x : ByteArray} (hx : x ∈ t.acts) : x ∈ optsT t s ↔ (dkStep t s x).2 = 0 := by
 unfold optsT
 rw [List.mem_filter, decide_eq_true_iff]
 exact ⟨fun h => h.2, fun h => ⟨hx, h⟩⟩
set_option maxHeartbeats 2000000 in
set_option maxRecDepth 100000 in
theorem kcontains_any (w : World) (o : Option Addr) (c n : Nat) (l : List ByteArray) (hn : l.length = n) (hT : TxS w o l) (hl : n ≤ 1000000) (x : ByteArray) :
  Calls Tryz.prog 33 #[.slice o n c, .string x] w fun e w' => TellsB (x ∈ l) e ∧ Below w.heap.size w w' := by
 have HT := hide hT
 have HN := hide hn
 clear hT hn
 go_enter Tryz.func33, Tryz.ntmps33
 go_wp2_with fail
 go_loopw [5] (fun y wr => ∃ k : Nat, k ≤ n ∧ y = .int .i64 k ∧ Hid (Below w.heap.size w wr) ∧ Hid (x ∉ l.take k)) (fun y _ => n - (intOf y).toNat)
 case atStart => exact ⟨0, Nat.zero_le _, rfl, Below.refl _ _, fun h => List.not_mem_nil h⟩
 case round =>
  obtain ⟨k, hk, rfl, HB, HK⟩ := hrel
  by_cases hlt : k < n
  ·have hkn : (k : Int) < (n : Int) := by omega
   have hkl : k < l.length := by rw [unhide HN]; exact hlt
   obtain ⟨b, off, rfl, hb, hc⟩ := (unhide HT).later (unhide HB) k l[k] (List.getElem?_eq_getElem hkl)
   have HX := hide (List.getElem?_eq_getElem hkl : l[k]? = some l[k])
   generalize l[k] = y at *
   by_cases hxy : y = x
   ·have HM : Hid (x ∈ l) := by rw [← hxy]; exact List.mem_of_getElem? (unhide HX)
    subst hxy
    go_wp2_with fail
    refine bodyPost_ret (v := .bool true) (by simp [results, Tryz.results33, go_sem]) rfl ?_
    exact ⟨TellsB.yes (unhide HM), unhide HB⟩
   ·have HK2 : Hid (x ∉ l.take (k + 1)) := by
     show ¬ _
     rw [List.take_add_one, unhide HX, List.mem_append]
     rintro (h | h)
     ·exact unhide HK h
     ·exact hxy (by simpa using h : x = y).symm
    have hne := bytes_ne hxy
    clear hxy
    go_wp2_with fail
    go_roundw
    case rel => exact ⟨k + 1, by omega, by go_num, HB, HK2⟩
    case measure => simp [intOf]; omega
  ·have hkn : ¬ (k : Int) < (n : Int) := by omega
   have HE : Hid (x ∉ l) := by
    have := unhide HK
    rw [List.take_of_length_le (by rw [unhide HN]; omega)] at this
    exact this
   go_wp2_with fail
   refine bodyPost_ret (v := .bool false) (by simp [results, Tryz.results33, go_sem]) rfl ?_
   exact ⟨TellsB.no (unhide HE), unhide HB⟩
end Go.Proofs.YtidakhhekofkoaaGreatDoor
namespace Go.Proofs.YtidakhhekofkoaaGreatDoor
open Rt
open Go.RowKit Go.Deep Go.Maps
theorem Compile_some (w : World) (t : Tb) (s : ByteArray) (hG : GV w) {al : List Tk} {rs : List Rl} (hr : readM s = .ok (al, rs)) (hc : CompP al rs (some t)) :
  Calls Tryz.prog 17 #[.string s] w fun e w' => DecT t w w' e := by
 refine (Compile_any s w hG).mono ?_
 rintro e w' h
 unfold CmpP at h
 rw [hr] at h
 obtain ⟨o, ho, hd⟩ := h
 rw [comp_uniq ho hc] at hd
 exact DecT.of rfl (comp_right hr hc) hd
section
variable {w : World} {db : Nat} {t : Tb} {A n ab a0 fb f0 nb n0 ac fc nc : Nat} {rb ro rc : Nat → Nat} {mb : Nat} {pb : ByteArray → Nat} {D : DataW Unit} {s E : Nat}
theorem tell_x (hD : DkP w db t (csXY s E) A n ab a0 fb f0 nb n0 ac fc nc rb ro rc mb pb D) :
  Calls Tryz.prog 51 #[.pointer (some ⟨db, 0, none⟩), .string ⟨#[120]⟩] w fun e w' => e = .returned (.tuple #[.agg #[.int .i64 (E : Int), .bool (accT t s)], .int .i64 0]) ∧ Below w.heap.size w w' := by
 refine (Tell_any w db t (csXY s E) A n ab a0 fb f0 nb n0 ac fc nc rb ro rc mb pb D hD idX (by decide)).mono ?_
 rintro e w' ⟨h, hb⟩
 refine ⟨?_, hb⟩
 rcases h with ⟨h, _⟩ | ⟨c, h, rfl⟩
 ·rw [csXY_x] at h; cases h
 ·rw [csXY_x] at h; cases h; rfl
theorem tell_y (hD : DkP w db t (csXY s E) A n ab a0 fb f0 nb n0 ac fc nc rb ro rc mb pb D) :
  Calls Tryz.prog 51 #[.pointer (some ⟨db, 0, none⟩), .string ⟨#[121]⟩] w fun e w' => e = .returned (.tuple #[.agg #[.int .i64 0, .bool (accT t 0)], .int .i64 0]) ∧ Below w.heap.size w w' := by
 refine (Tell_any w db t (csXY s E) A n ab a0 fb f0 nb n0 ac fc nc rb ro rc mb pb D hD idY (by decide)).mono ?_
 rintro e w' ⟨h, hb⟩
 refine ⟨?_, hb⟩
 rcases h with ⟨h, _⟩ | ⟨c, h, rfl⟩
 ·rw [csXY_y] at h; cases h
 ·rw [csXY_y] at h; cases h; rfl
theorem event_ok (hD : DkP w db t (csXY s E) A n ab a0 fb f0 nb n0 ac fc nc rb ro rc mb pb D) (hE : E ≤ 10000000) {a : Nat} (ha : a < A) (hl : 2 ≤ flT t (nxT t s a)) :
  Calls Tryz.prog 32 #[.pointer (some ⟨db, 0, none⟩), .string ⟨#[120]⟩, .string (nmT t a)] w fun e w' => e = .returned (.int .i64 0) ∧ FrD (DkS (csXY s E) mb pb) w w' ∧ DkP w' db t (csXY (nxT t s a) (E + 1)) A n ab a0 fb f0 nb n0 ac fc nc rb ro rc mb pb D := by
 have hst : dkStep t s (nmT t a) = (nxT t s a, 0) := by rw [step_at hD.tb.rt (by rw [hD.tb.hA]; exact ha), if_neg (by omega)]
 refine (Event_any w db t (csXY s E) A n ab a0 fb f0 nb n0 ac fc nc rb ro rc mb pb D hD idX (nmT t a) (by decide) (fun c hc => ?_)).mono ?_
 ·rcases List.mem_cons.1 hc with rfl | hc
  ·show E ≤ _; omega
  ·rcases List.mem_cons.1 hc with rfl | hc
   ·show 0 ≤ _; omega
   ·exact (List.not_mem_nil hc).elim
 ·rintro e w' ⟨rfl, hf, hd⟩
  rw [event_xy, hst, if_pos rfl] at hd ⊢
  exact ⟨rfl, hf, hd⟩
end
set_option maxHeartbeats 16000000 in
set_option maxRecDepth 100000 in
theorem ends_any (wO w : World) (T0 : Nat) (db : Nat) (t : Tb) (A n ab a0 fb f0 nb n0 ac fc nc : Nat) (rb ro rc : Nat → Nat) (mb : Nat) (pb : ByteArray → Nat) (D : DataW Unit) (s E : Nat) (hW : WtI wO w T0 db t (csXY s E) A n ab a0 fb f0 nb n0 ac fc nc rb ro rc mb pb D) (m : ByteArray) (al : List Tk) (rs : List Rl) (hr : readM m = .ok (al, rs)) (hc : CompP al rs (some t))
  (v : List Nat) (hva : ∀ a ∈ v, a < A) (hrun : runT t 0 v = s) (hvl : v.length = E) (hE : E ≤ 2000000) (to_ : Option Addr) (tc : Nat) (hO : w.ownsRow T0 9 1 (.slice to_ E tc) E (strsC (v.map (nmT t)))) (hG : GVF wO) (hal : 2 ≤ flT t s) :
  Calls Tryz.prog 34 #[.pointer (some ⟨db, 0, none⟩), .string m, .slice to_ E tc, .int .i64 (n : Int)] w fun e w' => e = .returned (.bool true) ∧ Below wO.heap.size wO w' := by
 obtain ⟨i0, hi0, hz0, hz1, hz2⟩ := info_parts Tryz.infoStr
 have HALL := hide (comp_all hr hc)
 have HCS := hide (fun W (h : GV W) => Compile_some W t m h hr hc)
 have HW := hide hW
 have HVA := hide hva
 have HRUN := hide hrun
 have HVL := hide hvl
 have HO := hide hO
 have HG := hide hG
 have HAL := hide hal
 have HAA := hide hW.d.tb.hA
 have HNN := hide hW.d.tb.hn
 have HTL := hide (tell_x hW.d)
 have hA6 := hW.d.tb.A6
 have hn100 := hW.d.tb.n100
 have HRT := hide hW.d.tb.rt
 have HSN := hide (hW.d.st ⟨idX, s, E⟩ (List.mem_cons_self ..))
 clear hW hva hrun hvl hO hG hal hr hc
 obtain ⟨acc, hacc⟩ : ∃ acc, acc = accT t s := ⟨_, rfl⟩
 rw [← hacc] at HTL
 have HACC := hide hacc
 clear hacc
 go_enter Tryz.func34, Tryz.ntmps34
 go_wp2_with fail
 refine (unhide HTL).mono ?_
 clear HTL
 rintro e w1 ⟨rfl, hb1⟩
 have hba : Below w1.heap.size w1 (w1.alloc (.cells #[.int .i64 (E : Int), .bool acc] 105)) := (Below.refl _ _).alloc (Nat.le_refl _) _
 have HW2 := hide (((unhide HW).later hb1).later hba)
 have HO2 := hide (owns_later (owns_later (unhide HO) hb1) hba)
 have HSB := hide (blk_alloc w1 (.cells #[.int .i64 (E : Int), .bool acc] 105))
 have HH : Hid (Calls Tryz.prog 16 #[.string m, .slice to_ E tc] (w1.alloc (.cells #[.int .i64 (E : Int), .bool acc] 105)) fun e w' => e = .returned (.tuple #[.bool acc, .int .i64 0]) ∧ Below (w1.alloc (.cells #[.int .i64 (E : Int), .bool acc] 105)).heap.size (w1.alloc (.cells #[.int .i64 (E : Int), .bool acc] 105)) w') := by
  have h1 := Holds_any m (v.map (nmT t)) _ to_ tc ((unhide HG).later (unhide HW2).o).g (owns_txs (unhide HO2) (by rw [List.length_map]; exact unhide HVL)) (by rw [List.length_map, unhide HVL]; omega)
  rw [List.length_map, unhide HVL, (unhide HALL).2.2.2 v (fun a ha => by rw [unhide HAA]; exact unhide HVA a ha), unhide HRUN, ← unhide HACC] at h1
  exact h1
 clear hb1 hba HW HO
 go_wp2_with fail
 refine (unhide HH).mono ?_
 clear HH
 generalize w1.alloc (.cells #[.int .i64 (E : Int), .bool acc] 105) = w2 at *
 generalize w1.heap.size = sb at *
 rintro e w3 ⟨rfl, hb3⟩
 have HW3 := hide ((unhide HW2).later hb3)
 have HO3 := hide (owns_later (unhide HO2) hb3)
 have hsb3 := (hb3.block _ (lt_of_blk (unhide HSB))).trans (unhide HSB)
 have HTY := hide (tell_y (unhide HW3).d)
 have c0 := cell_of_blk hsb3 0
 have c1 := cell_of_blk hsb3 1
 have l0 := lt_of_blk hsb3
 obtain ⟨acy, hacy⟩ : ∃ acy, acy = accT t 0 := ⟨_, rfl⟩
 rw [← hacy] at HTY
 clear hacy hb3 HW2 HO2 HSB
 go_wp2_with fail
 refine (unhide HTY).mono ?_
 clear HTY c0 c1 l0 hsb3
 rintro e w4 ⟨rfl, hb4⟩
 have hba : Below w4.heap.size w4 (w4.alloc (.cells #[.int .i64 0, .bool acy] 105)) := (Below.refl _ _).alloc (Nat.le_refl _) _
 have HW5 := hide (((unhide HW3).later hb4).later hba)
 have HO5 := hide (owns_later (owns_later (unhide HO3) hb4) hba)
 have HCM := hide (unhide HCS _ ((unhide HG).later (unhide HW5).o).g)
 clear hb4 hba HW3 HO3 HCS
 go_wp2_with fail
 refine (unhide HCM).mono ?_
 clear HCM
 generalize w4.alloc (.cells #[.int .i64 0, .bool acy] 105) = w5 at *
 rintro e w6 ⟨ao, fo, no, bc, gc, hc, rv, rfl, hT, hR, hb6⟩
 have hbb : Below w6.heap.size w6 (w6.alloc (.cells #[.slice ao t.acts.length bc, .slice fo t.fl.length gc, .slice no t.nx.length hc] 36)) := (Below.refl _ _).alloc (Nat.le_refl _) _
 have HW7 := hide (((unhide HW5).later hb6).later hbb)
 have HO7 := hide (owns_later (owns_later (unhide HO5) hb6) hbb)
 have HBL := hide (blk_alloc w6 (.cells #[.slice ao t.acts.length bc, .slice fo t.fl.length gc, .slice no t.nx.length hc] 36))
 obtain ⟨bb, b0, gb, g0, hb, h0, qb, qo, qc, rfl, rfl, rfl, hL⟩ := tbl_of ((hT.later hbb).read hR.small).1 hR
 rw [hR.fl, unhide HAA, unhide HNN] at HBL HW7 HO7 hL ⊢
 have HL := hide hL
 clear hb6 hbb hT hR hL HW5 HO5
 have c0 := cell_of_blk (unhide HBL) 0
 have c1 := cell_of_blk (unhide HBL) 1
 have c2 := cell_of_blk (unhide HBL) 2
 have l0 := lt_of_blk (unhide HBL)
 go_wp2_with fail
 refine (shaped_any _ t A n bb b0 gb g0 hb h0 bc gc hc qb qo qc (unhide HL)).mono ?_
 clear c0 c1 c2 l0
 generalize w6.alloc (.cells #[.slice (some ⟨bb, b0, none⟩) A bc, .slice (some ⟨gb, g0, none⟩) n gc, .slice (some ⟨hb, h0, none⟩) n hc] 36) = w7 at *
 generalize w6.heap.size = tb at *
 rintro e w8 ⟨rfl, hb8⟩
 have HW8 := hide ((unhide HW7).later hb8)
 have HO8 := hide (owns_later (unhide HO7) hb8)
 have HBL8 := hide ((hb8.block _ (lt_of_blk (unhide HBL))).trans (unhide HBL))
 have HL8 := hide ((unhide HL).later hb8)
 clear hb8 HW7 HO7 HBL HL
 have c0 := cell_of_blk (unhide HBL8) 0
 have c1 := cell_of_blk (unhide HBL8) 1
 have c2 := cell_of_blk (unhide HBL8) 2
 have l0 := lt_of_blk (unhide HBL8)
 have HRS := hide (rest_any w8 t A n bb b0 gb g0 hb h0 bc gc hc qb qo qc (unhide HL8) to_ tc E v (unhide HVL) (unhide HVA) (owns_txs (unhide HO8) (by rw [List.length_map]; exact unhide HVL)) (by omega) (by rw [unhide HRUN]; exact unhide HAL))
 rw [unhide HRUN] at HRS
 go_wp2_with fail
 refine (unhide HRS).mono ?_
 clear HRS c0 c1 c2 l0
 rintro e w9 ⟨u, mo, mc, rfl, hua, huacc, hun, hmo, hb9⟩
 have HW9 := hide ((unhide HW8).later hb9)
 have HO9 := hide (owns_later (unhide HO8) hb9)
 have HMO := hide hmo
 have HUA := hide hua
 have HUACC := hide huacc
 have HDJ : Hid (∀ b, (Value.slice to_ E tc).ownBlock = some b → (Value.slice mo u.length mc).ownBlock ≠ some b) := fun b h1 h2 => by
  obtain ⟨c, h3⟩ := own_at (unhide HO8) h1
  have h4 := lt_of_blk h3
  have h5 := own_base hmo h2
  omega
 have hT8 : T0 ≤ w8.heap.size := (unhide HW8).le
 generalize w8.heap.size = M0 at *
 obtain ⟨U, hU⟩ : ∃ U, u.length = U := ⟨_, rfl⟩
 rw [hU] at hun HMO HDJ ⊢
 have HUL := hide hU
 clear hU hb9 hmo hua huacc HW8 HO8 HBL8 HL8
 go_wp2_with fail
 go_loopw [2, 19] (fun tv x wr => ∃ (i : Nat) (o : Option Addr) (c : Nat), i ≤ U ∧ x = .int .i64 i ∧ tv = .slice o (E + i) c ∧ Hid (WtI wO wr T0 db t (csXY (runT t s (u.take i)) (E + i)) A n ab a0 fb f0 nb n0 ac fc nc rb ro rc mb pb D) ∧ Hid (wr.ownsRow T0 9 1 (.slice o (E + i) c) (E + i) (strsC ((v ++ u.take i).map (nmT t)))) ∧ Hid (wr.ownsRow M0 9 1 (.slice mo U mc) U (strsC (u.map (nmT t)))) ∧ Hid (∀ b, (Value.slice o (E + i) c).ownBlock = some b → (Value.slice mo U mc).ownBlock ≠ some b)) (fun _ x _ => U - (intOf x).toNat)
 case atStart => exact ⟨0, to_, tc, Nat.zero_le _, rfl, rfl, HW9, by simpa using HO9, HMO, HDJ⟩
 case round =>
  obtain ⟨i, o, c, hi, rfl, rfl, HWr, HOr, HMr, HDr⟩ := hrel
  by_cases hil : i < U
  ·have hin : (i : Int) < (U : Int) := by omega
   have hiu : i < u.length := by rw [unhide HUL]; exact hil
   have haA := unhide HUA u[i] (List.getElem_mem hiu)
   have HRN : Hid (runT t s (u.take (i + 1)) = nxT t (runT t s (u.take i)) u[i]) := by
    show _ = _
    rw [List.take_add_one, List.getElem?_eq_getElem hiu]
    exact run_snoc t u[i] (u.take i) s
   have HTK : Hid (u.take (i + 1) = u.take i ++ [u[i]]) := by show _ = _; rw [List.take_add_one, List.getElem?_eq_getElem hiu]; rfl
   have hsn : s < n := unhide HSN
   have HUI0 : u[i]? = some u[i] := List.getElem?_eq_getElem hiu
   have HUI := hide HUI0
   clear HUI0
   have hlive : 2 ≤ flT t (nxT t (runT t s (u.take i)) u[i]) := by
    rw [← unhide HRN]
    have hlt : runT t s (u.take (i + 1)) < t.nx.length := run_lt (unhide HRT) _ s (fun a ha => by rw [unhide HAA]; exact unhide HUA a (List.mem_of_mem_take ha)) (by rw [unhide HNN]; exact hsn)
    rw [lives_fl (unhide HRT) hlt]
    refine Wd.lives (unhide HRT) (k := (u.drop (i + 1)).length) hlt ⟨u.drop (i + 1), rfl, fun a ha => by rw [unhide HAA]; exact unhide HUA a (List.mem_of_mem_drop ha), ?_⟩
    rw [← run_app, List.take_append_drop]
    exact unhide HUACC
   obtain ⟨mb2, m2, rfl, hml, hmc⟩ := owns_txs (unhide HMr) (by rw [List.length_map]; exact unhide HUL) i (nmT t u[i]) (by rw [List.getElem?_map, List.getElem?_eq_getElem hiu]; rfl)
   have HEV := hide (event_ok (unhide HWr).d (by omega) haA hlive)
   clear hlive
   generalize hxe : runT t s (u.take i) = x at *
   generalize u[i] = a at *
   rw [← unhide HRN] at HEV
   generalize hye : runT t s (u.take (i + 1)) = y at *
   have HYE := hide hye
   obtain ⟨sn, hs9⟩ : ∃ sn, sn = nmT t a := ⟨_, rfl⟩
   rw [← hs9] at HEV hmc
   have HSN9 := hide hs9
   have HMC := hide hmc
   clear hs9 hxe hye
   go_wp2_with fail
   refine (unhide HEV).mono ?_
   clear HEV hmc
   rintro e w10 ⟨rfl, hf10, hd10⟩
   have HWe := hide ((unhide HWr).turn hf10 hd10 (fun k hk => by rw [← csXY_put x (E + i) y (E + i + 1)] at hk; exact csPut_S hk))
   have HOe := hide (owns_frame (unhide HOr) hf10 (fun k hk => (unhide HWr).hi.hs k hk))
   have HMe := hide (owns_frame (unhide HMr) hf10 (fun k hk => Nat.lt_of_lt_of_le ((unhide HWr).hi.hs k hk) hT8))
   obtain ⟨mb3, m3, e3, hml3, hmc3⟩ := owns_txs (unhide HMe) (by rw [List.length_map]; exact unhide HUL) i sn (by rw [List.getElem?_map, unhide HSN9, unhide HUI]; rfl)
   cases e3
   clear hf10 hd10 HWr HOr HMr
   go_wp2_with (at_builtin; go_must (refine wpList_append_lies _ rfl _ _ 25 rfl T0 9 i0 (.string ⟨#[]⟩) 1 16 Tryz.underlying25 hi0 hz0 hz1 hz2 rfl (by decide) _ (E + i) (strsC ((v ++ u.take i).map (nmT t))) rfl ?c0 _ 1 1 [.string sn] rfl rfl ?c1 ?c2 (by decide) ?c3 ?c4 ?c5 (w10.heap.size + 1) (by simp) ?_))
   case c0 => exact (unhide HOe).alloc _
   case c1 =>
    intro j u hj
    match j, hj with
    | 0, hj => simp at hj; subst hj; exact cell_of_blk (blk_alloc' _ _ _ (by simp)) 0
    | j + 1, hj => simp at hj
   case c2 => intro u hu; simp at hu; subst hu; rfl
   case c3 => unfold maxLen; omega
   case c4 => omega
   case c5 => have := (unhide HWe).le; simp; omega
   intro g8 c8 w8' ho8 hg8 hat8 _
   have hba8 : Below w10.heap.size w10 (w10.alloc (.cells #[.string sn] 9)) := (Below.refl _ _).alloc (Nat.le_refl _) _
   have hb8 : Below T0 w10 w8' := (hba8.mono (unhide HWe).le).grown hg8 (Nat.le_trans (unhide HWe).le hba8.size) (fun b hb => own_base (unhide HOe) hb)
   have HWz := hide ((unhide HWe).low hb8)
   have HMz := hide (owns_other (owns_later (unhide HMe) hba8) hg8 (fun b hb e => unhide HDr b hb e))
   have HDz : Hid (∀ b, (Value.slice (some ⟨g8, 0, none⟩) (E + i + 1) c8).ownBlock = some b → (Value.slice (some ⟨mb2, m2, none⟩) U mc).ownBlock ≠ some b) := fun b h1 h2 => by
    have e1 : g8 = b := Option.some.inj h1
    rcases hat8 with h3 | h3
    ·exact unhide HDr b (h3.trans (by rw [e1])) h2
    ·have e2 : mb2 = b := Option.some.inj h2
     omega
   have HOz : Hid (w8'.ownsRow T0 9 1 (.slice (some ⟨g8, 0, none⟩) (E + i + 1) c8) (E + i + 1) (strsC ((v ++ u.take (i + 1)).map (nmT t)))) := by
    have e : strsC ((v ++ u.take (i + 1)).map (nmT t)) = strsC ((v ++ u.take i).map (nmT t)) ++ [.string sn] := by
     rw [unhide HTK, ← List.append_assoc, List.map_append]
     unfold strsC
     rw [List.map_append, unhide HSN9]
     rfl
    show World.ownsRow _ _ _ _ _ _ _
    rw [e, List.map_append, List.map_take]
    exact ho8
   clear ho8 hg8 hba8 hb8 hat8 HOe HMe HWe hmc3
   go_wp2_with fail
   go_roundw
   case rel => exact ⟨i + 1, some ⟨g8, 0, none⟩, c8, by omega, by go_num, rfl, by rw [unhide HYE]; exact HWz, HOz, HMz, HDz⟩
   case measure => simp [intOf]; omega
  ·have hin : ¬ (i : Int) < (U : Int) := by omega
   have hie : U = i := by omega
   subst hie
   have htk : u.take U = u := List.take_of_length_le (by rw [unhide HUL]; exact Nat.le_refl _)
   rw [htk] at HWr HOr
   have HH : Hid (Calls Tryz.prog 16 #[.string m, .slice o (E + U) c] wr fun e w' => e = .returned (.tuple #[.bool true, .int .i64 0]) ∧ Below wr.heap.size wr w') := by
    have hlen : (v ++ u).length = E + U := by rw [List.length_append, unhide HVL, unhide HUL]
    have h1 := Holds_any m ((v ++ u).map (nmT t)) wr o c ((unhide HG).later (unhide HWr).o).g (owns_txs (unhide HOr) (by rw [List.length_map, hlen])) (by rw [List.length_map, hlen]; omega)
    rw [List.length_map, hlen, (unhide HALL).2.2.2 (v ++ u) (fun a ha => by
     rw [unhide HAA]
     rcases List.mem_append.1 ha with h | h
     ·exact unhide HVA a h
     ·exact unhide HUA a h), run_app, unhide HRUN, unhide HUACC] at h1
    exact h1
   clear htk HMr HDr
   go_wp2_with fail
   refine (unhide HH).mono ?_
   clear HH
   rintro e w11 ⟨rfl, hb11⟩
   have HWx := hide ((unhide HWr).later hb11)
   have HEND : Hid (Calls Tryz.prog 53 #[.pointer (some ⟨db, 0, none⟩), .string ⟨#[120]⟩] w11 fun e w' => e = .returned (.int .i64 0) ∧ DkQ db t (csXY (runT t s u) (E + U)) [⟨idY, 0, 0⟩] A n ab a0 fb f0 nb n0 ac fc nc rb ro rc mb pb w11 w') := by
    have h1 := End_any w11 db t (csXY (runT t s u) (E + U)) A n ab a0 fb f0 nb n0 ac fc nc rb ro rc mb pb D (unhide HWx).d idX (by decide)
    have e1 : dkEnd t (csXY (runT t s u) (E + U)) idX = ([⟨idY, 0, 0⟩], 0) := by
     show (if accT t (runT t s u) = true then _ else _) = _
     rw [if_pos (unhide HUACC)]
     rfl
    rw [e1] at h1
    exact h1
   clear hb11 HWr HOr
   go_wp2_with fail
   refine (unhide HEND).mono ?_
   clear HEND
   rintro e w12 ⟨rfl, hf12, pb', D', hd12, hs12⟩
   have hb12 : Below wO.heap.size wO w12 := (unhide HWx).o.trans (hf12.toBelow (unhide HWx).o.size (fun k hk hs => by have := (unhide HWx).lo k hs; omega))
   have HST : Hid (Calls Tryz.prog 30 #[.pointer (some ⟨db, 0, none⟩), .string ⟨#[120]⟩] w12 fun e w' => e = .returned (.int .i64 0) ∧ Below wO.heap.size wO w') := by
    refine (Start_any w12 db t [⟨idY, 0, 0⟩] A n ab a0 fb f0 nb n0 ac fc nc rb ro rc mb pb' D' hd12 idX (by decide)).mono ?_
    rintro e w' ⟨he, hf, _⟩
    refine ⟨he, hb12.trans (hf.toBelow hb12.size (fun k hk hs => ?_))⟩
    have h1 := (unhide HWx).o.size
    rcases hs12 k hs with h | h
    ·have := (unhide HWx).lo k h; omega
    ·omega
   clear hf12 hd12 hs12 hb12
   go_wp2_with fail
   refine (unhide HST).mono ?_
   clear HST
   rintro e w13 ⟨rfl, hb13⟩
   have HB13 := hide hb13
   clear hb13
   go_wp2_with fail
   refine bodyPost_ret (v := .bool true) (by simp [results, Tryz.results34, go_sem]) rfl ?_
   exact ⟨rfl, unhide HB13⟩
def OpT (t : Tb) (w w' : World) (e : Ending) : Prop := Below w.heap.size w w' ∧
 ((¬ 2 ≤ flT t 0 ∧ e = .returned (.tuple #[.pointer none, .int .i64 7])) ∨
 ∃ db A n ab a0 fb f0 nb n0 ac fc nc rb ro rc mb pb D, 2 ≤ flT t 0 ∧ e = .returned (.tuple #[.pointer (some ⟨db, 0, none⟩), .int .i64 0]) ∧ DkP w' db t [] A n ab a0 fb f0 nb n0 ac fc nc rb ro rc mb pb D ∧ w.heap.size ≤ mb)
theorem Open_t (w : World) (t : Tb) (b : ByteArray) (hb : b.data.toList = encB t) (hR : RightT t) (hG : GV w) : Calls Tryz.prog 29 #[.string b] w fun e w' => OpT t w w' e := by
 refine (Open_any w b hG).mono ?_
 rintro e w' ⟨hB, h⟩
 refine ⟨hB, ?_⟩
 rw [hb] at h
 rcases h with ⟨h, _⟩ | ⟨t', h, h2, he⟩ | ⟨t', db, A, n, ab, a0, fb, f0, nb, n0, ac, fc, nc, rb, ro, rc, mb, pb, D, h, h2, he, hd, h3, h4, _⟩
 ·cases dec_same hR h
 ·cases dec_same hR h
  exact Or.inl ⟨h2, he⟩
 ·cases dec_same hR h
  exact Or.inr ⟨db, A, n, ab, a0, fb, f0, nb, n0, ac, fc, nc, rb, ro, rc, mb, pb, D, h2, he, hd, h4⟩
section
variable {w : World} {db : Nat} {t : Tb} {A n ab a0 fb f0 nb n0 ac fc nc : Nat} {rb ro rc : Nat → Nat} {mb : Nat} {pb : ByteArray → Nat} {D : DataW Unit} {s E : Nat}
theorem options_x (hD : DkP w db t (csXY s E) A n ab a0 fb f0 nb n0 ac fc nc rb ro rc mb pb D) :
  Calls Tryz.prog 31 #[.pointer (some ⟨db, 0, none⟩), .string ⟨#[120]⟩] w fun e w' => ∃ o k, e = .returned (.tuple #[.slice o (optsT t s).length k, .int .i64 0]) ∧ w'.ownsRow w.heap.size 9 1 (.slice o (optsT t s).length k) (optsT t s).length (strsC (optsT t s)) ∧ Below w.heap.size w w' := by
 refine (Options_any w db t (csXY s E) A n ab a0 fb f0 nb n0 ac fc nc rb ro rc mb pb D hD idX (by decide)).mono ?_
 rintro e w' ⟨hb, h⟩
 rcases h with ⟨h, _⟩ | ⟨c, o, k, h, he, ho⟩
 ·rw [csXY_x] at h; cases h
 ·rw [csXY_x] at h; cases h; exact ⟨o, k, he, ho, hb⟩
theorem event_no (hD : DkP w db t (csXY s E) A n ab a0 fb f0 nb n0 ac fc nc rb ro rc mb pb D) (hE : E ≤ 10000000) {a : Nat} (ha : a < A) (hl : ¬ 2 ≤ flT t (nxT t s a)) :
  Calls Tryz.prog 32 #[.pointer (some ⟨db, 0, none⟩), .string ⟨#[120]⟩, .string (nmT t a)] w fun e w' => e = .returned (.int .i64 9) ∧ FrD (DkS (csXY s E) mb pb) w w' ∧ DkP w' db t (csXY s E) A n ab a0 fb f0 nb n0 ac fc nc rb ro rc mb pb D := by
 have hst : dkStep t s (nmT t a) = (0, 9) := by rw [step_at hD.tb.rt (by rw [hD.tb.hA]; exact ha), if_pos (by omega)]
 refine (Event_any w db t (csXY s E) A n ab a0 fb f0 nb n0 ac fc nc rb ro rc mb pb D hD idX (nmT t a) (by decide) (fun c hc => ?_)).mono ?_
 ·rcases List.mem_cons.1 hc with rfl | hc
  ·show E ≤ _; omega
  ·rcases List.mem_cons.1 hc with rfl | hc
   ·show 0 ≤ _; omega
   ·exact (List.not_mem_nil hc).elim
 ·rintro e w' ⟨rfl, hf, hd⟩
  rw [event_xy, hst, if_neg (by decide)] at hd ⊢
  exact ⟨rfl, hf, hd⟩
end
structure WtP (wO wr : World) (db : Nat) (t : Tb) (cs : List Cs) (A n ab a0 fb f0 nb n0 ac fc nc : Nat) (rb ro rc : Nat → Nat) (mb : Nat) (pb : ByteArray → Nat) (D : DataW Unit) : Prop where
 o : Below wO.heap.size wO wr
 d : DkP wr db t cs A n ab a0 fb f0 nb n0 ac fc nc rb ro rc mb pb D
 lo : ∀ k, DkS cs mb pb k → wO.heap.size ≤ k
theorem WtP.start {wO wr wr' : World} {db : Nat} {t : Tb} {cs cs' : List Cs} {A n ab a0 fb f0 nb n0 ac fc nc : Nat} {rb ro rc : Nat → Nat} {mb : Nat} {pb : ByteArray → Nat} {D : DataW Unit} (h : WtP wO wr db t cs A n ab a0 fb f0 nb n0 ac fc nc rb ro rc mb pb D) (hq : DkQ db t cs cs' A n ab a0 fb f0 nb n0 ac fc nc rb ro rc mb pb wr wr') :
  ∃ pb' D', WtP wO wr' db t cs' A n ab a0 fb f0 nb n0 ac fc nc rb ro rc mb pb' D' := by
 obtain ⟨hf, pb', D', hd, hs⟩ := hq
 refine ⟨pb', D', h.o.trans (hf.toBelow h.o.size (fun k hk hs => by have := h.lo k hs; omega)), hd, fun k hk => ?_⟩
 rcases hs k hk with h1 | h1
 ·exact h.lo k h1
 ·exact Nat.le_trans h.o.size h1
set_option maxHeartbeats 16000000 in
set_option maxRecDepth 100000 in
theorem Watched_any (s : ByteArray) (raw : List Int) (w : World) (ro : Option Addr) (rc : Nat) (hG : GVF w) (hI : InS w ro raw) (hr : ∀ x ∈ raw, -9223372036854775808 ≤ x ∧ x ≤ 9223372036854775807) (hmax : raw.length ≤ 2000000) :
  Calls Tryz.prog 11 #[.string s, .slice ro raw.length rc] w fun e w' => e = .returned (.bool true) ∧ Below w.heap.size w w' := by
 obtain ⟨i0, hi0, hz0, hz1, hz2⟩ := info_parts Tryz.infoStr
 obtain ⟨R, hR0⟩ : ∃ R, raw.length = R := ⟨_, rfl⟩
 rw [hR0] at hmax ⊢
 have HRL := hide hR0
 have HI := hide hI
 have HRR := hide hr
 have HG := hide hG
 have HK := hide (knows_any w hG)
 clear hI hr hG hR0
 go_enter Tryz.func11, Tryz.ntmps11
 go_wp2_with fail
 refine (unhide HK).mono ?_
 rintro e w1 ⟨rfl, hb1⟩
 have HB1 := hide hb1
 have HCM := hide (Compile_any s w1 ((unhide HG).later hb1).g)
 clear hb1 HK
 go_wp2_with fail
 refine (unhide HCM).mono ?_
 clear HCM
 rintro e w2 hm
 rcases hm.three.two with ⟨x, hx0, rfl, hb2⟩ | ⟨al, rs, t, hx, hc, ao, fo, no, ac, fc, nc, rv, rfl, hT, hR, hb2⟩
 ·have hba : Below w2.heap.size w2 (w2.alloc (.cells #[.slice none 0 0, .slice none 0 0, .slice none 0 0] 36)) := (Below.refl _ _).alloc (Nat.le_refl _) _
  have hb12 := (unhide HB1).trans (hb2.mono (unhide HB1).size)
  have HB2 := hide (hb12.trans (hba.mono hb12.size))
  have HBL1 := hide (blk_alloc w2 (.cells #[.slice none 0 0, .slice none 0 0, .slice none 0 0] 36))
  have hwt : w.heap.size ≤ w2.heap.size := hb12.size
  obtain ⟨al, rs, t, hx, hc⟩ := first_tab
  have HCF := hide (Compile_some _ t firstB ((unhide HG).later (unhide HB2)).g hx hc)
  have hx1 : ¬ ((x : Nat) : Int) = 0 := by omega
  clear hm hb2 hba hb12 hx0
  go_wp2_with fail
  refine (unhide HCF).mono ?_
  clear HCF
  generalize w2.alloc (.cells #[.slice none 0 0, .slice none 0 0, .slice none 0 0] 36) = w3 at *
  generalize w2.heap.size = tb at *
  rintro e w4 ⟨ao, fo, no, ac, fc, nc, rv, rfl, hT, hR, hb4⟩
  have hbk := (hb4.block _ (lt_of_blk (unhide HBL1))).trans (unhide HBL1)
  have HB := hide (setT_below ((unhide HB2).trans (hb4.mono (unhide HB2).size)) hwt (.slice ao t.acts.length ac) (.slice fo t.fl.length fc) (.slice no t.nx.length nc))
  have HBL := hide (setT_blk hbk (.slice ao t.acts.length ac) (.slice fo t.fl.length fc) (.slice no t.nx.length nc))
  have HT := hide ((setT_tab hbk hT (A' := .slice ao t.acts.length ac) (F' := .slice fo t.fl.length fc) (X' := .slice no t.nx.length nc)).read hR.small).1
  have HALL := hide (comp_all hx hc)
  have HX := hide hx
  have HC := hide hc
  have HR := hide hR
  have hbl := fun o => cell_of_blk (unhide HBL) o
  have hbf := fun o => frozen_of_blk hbk o
  have hbc := fun o => cell_of_blk hbk o
  have hll := lt_of_blk hbk
  have HEN := hide (Encode_t _ ao fo no ac fc nc _ _ _ t (unhide HT) ((unhide HG).later (unhide HB)).g rfl rfl rfl hR)
  clear hT hR hb4 hx hc
  go_wp2_with fail
  refine (unhide HEN).mono ?_
  clear HEN hbl hll hbf hbc hbk
  rintro e w4 ⟨rfl, hb4⟩
  have HB4 := hide ((unhide HB).trans (hb4.mono (unhide HB).size))
  have HBL4 := hide ((hb4.block _ (lt_of_blk (unhide HBL))).trans (unhide HBL))
  have HT4 := hide ((unhide HT).later hb4)
  have HS : Hid ((⟨(encB t).toArray⟩ : ByteArray).data.toList = encB t) := hide rfl
  clear hb4 HB HBL HT
  generalize (⟨(encB t).toArray⟩ : ByteArray) = S at *
  have HOP := hide (Open_t w4 t S (unhide HS) (unhide HR) ((unhide HG).later (unhide HB4)).g)
  go_wp2_with fail
  refine (unhide HOP).mono ?_
  clear HOP
  rintro e w5 ⟨hb5, hop⟩
  have HBL5 := hide ((hb5.block _ (lt_of_blk (unhide HBL4))).trans (unhide HBL4))
  have HB5 := hide ((unhide HB4).trans (hb5.mono (unhide HB4).size))
  have HO5 := hide hb5
  obtain ⟨xb, x0, yb, y0, zb, z0, ub, uo, uc, rfl, rfl, rfl, hL⟩ := tbl_of (unhide HT4) (unhide HR)
  rw [(unhide HR).fl] at HBL5 HBL4 ⊢
  have HL4 := hide hL
  have HL5 := hide (hL.later hb5)
  clear hL hb5 HT4
  generalize hAe : t.acts.length = A at *
  generalize hne : t.nx.length = n at *
  have HAE := hide hAe
  have HNE := hide hne
  clear hAe hne
  have c0 := cell_of_blk (unhide HBL5) 0
  have c1 := cell_of_blk (unhide HBL5) 1
  have c2 := cell_of_blk (unhide HBL5) 2
  have l0 := lt_of_blk (unhide HBL5)
  have hn1 := (unhide HL5).n1
  have hA1 := (unhide HL5).A1
  have hA6 := (unhide HL5).A6
  have hn100 := (unhide HL5).n100
  rcases hop with ⟨h2, rfl⟩ | ⟨db, A', n', ab, a0, fb, f0, nb, n0, dac, dfc, dnc, rb, ro3, rc3, mb, pb, D, h2, rfl, hd, hmb⟩
  ·go_wp2_with fail
   refine (shaped_any _ t A n xb x0 yb y0 zb z0 ac fc nc ub uo uc (unhide HL5)).mono ?_
   clear c0 c1 c2 l0
   rintro e w6 ⟨rfl, hb6⟩
   have HB6 := hide ((unhide HB5).trans (hb6.mono (unhide HB5).size))
   have hbl6 := (hb6.block _ (lt_of_blk (unhide HBL5))).trans (unhide HBL5)
   have c1 := cell_of_blk hbl6 1
   have l0 := lt_of_blk hbl6
   have hfl := ((unhide HL5).later hb6).fla 0 hn1
   have hlf := ((unhide HL5).later hb6).lf
   have hf2 : (flT t 0 : Int) < 2 := by omega
   have hni : (0 : Int) < (n : Int) := by omega
   rw [Nat.add_zero] at hfl
   clear hb6 hbl6
   generalize flT t 0 = f at *
   go_wp2_with fail
   refine bodyPost_ret (v := .bool true) (by simp [results, Tryz.results11, go_sem]) rfl ?_
   exact ⟨rfl, unhide HB6⟩
  ·obtain rfl : A' = A := hd.tb.hA.symm.trans (unhide HAE)
   obtain rfl : n' = n := hd.tb.hn.symm.trans (unhide HNE)
   have HP5 : Hid (WtP w4 w5 db t [] A' n' ab a0 fb f0 nb n0 dac dfc dnc rb ro3 rc3 mb pb D) := ⟨unhide HO5, hd, fun k hk => by
    rcases hk with rfl | ⟨c, hc, _⟩
    ·exact hmb
    ·exact (List.not_mem_nil hc).elim⟩
   clear hd hmb
   go_wp2_with fail
   refine (shaped_any _ t A' n' xb x0 yb y0 zb z0 ac fc nc ub uo uc (unhide HL5)).mono ?_
   clear c0 c1 c2 l0
   rintro e w6 ⟨rfl, hb6⟩
   have HB6 := hide ((unhide HB5).trans (hb6.mono (unhide HB5).size))
   have hbl6 := (hb6.block _ (lt_of_blk (unhide HBL5))).trans (unhide HBL5)
   have HP6 : Hid (WtP w4 w6 db t [] A' n' ab a0 fb f0 nb n0 dac dfc dnc rb ro3 rc3 mb pb D) := ⟨(unhide HP5).o.trans (hb6.mono (unhide HP5).o.size), (unhide HP5).d.later hb6, (unhide HP5).lo⟩
   have c1 := cell_of_blk hbl6 1
   have l0 := lt_of_blk hbl6
   have hfl := ((unhide HL5).later hb6).fla 0 hn1
   have hlf := ((unhide HL5).later hb6).lf
   have hf2 : ¬ (flT t 0 : Int) < 2 := by omega
   have hni : (0 : Int) < (n' : Int) := by omega
   rw [Nat.add_zero] at hfl
   have H2 := hide h2
   have HSX := hide (Start_any w6 db t [] A' n' ab a0 fb f0 nb n0 dac dfc dnc rb ro3 rc3 mb pb D (unhide HP6).d idX (by decide))
   clear hb6 hbl6 h2 HP5
   generalize hf0 : flT t 0 = f at *
   have HF0 := hide hf0
   clear hf0
   go_wp2_with fail
   refine (show Calls Tryz.prog 30 #[.pointer (some ⟨db, 0, none⟩), .string ⟨#[120]⟩] w6 fun e w' => e = .returned (.int .i64 0) ∧ DkQ db t [] [⟨idX, 0, 0⟩] A' n' ab a0 fb f0 nb n0 dac dfc dnc rb ro3 rc3 mb pb w6 w' from unhide HSX).mono ?_
   clear HSX c1 l0 hfl hlf hf2
   rintro e w7 ⟨rfl, hq7⟩
   obtain ⟨pb7, D7, hp7⟩ := (unhide HP6).start hq7
   have HP7 := hide hp7
   have HSY := hide (Start_any w7 db t [⟨idX, 0, 0⟩] A' n' ab a0 fb f0 nb n0 dac dfc dnc rb ro3 rc3 mb pb7 D7 hp7.d idY (by decide))
   clear hq7 hp7 HP6
   go_wp2_with fail
   refine (show Calls Tryz.prog 30 #[.pointer (some ⟨db, 0, none⟩), .string ⟨#[121]⟩] w7 fun e w' => e = .returned (.int .i64 0) ∧ DkQ db t [⟨idX, 0, 0⟩] (csXY 0 0) A' n' ab a0 fb f0 nb n0 dac dfc dnc rb ro3 rc3 mb pb7 w7 w' from unhide HSY).mono ?_
   clear HSY
   rintro e w8 ⟨rfl, hq8⟩
   obtain ⟨pb8, D8, hp8⟩ := (unhide HP7).start hq8
   have HP8 := hide hp8
   have HSZ := hide (Start_any w8 db t (csXY 0 0) A' n' ab a0 fb f0 nb n0 dac dfc dnc rb ro3 rc3 mb pb8 D8 hp8.d idX (by decide))
   clear hq8 hp8 HP7
   go_wp2_with fail
   refine (show Calls Tryz.prog 30 #[.pointer (some ⟨db, 0, none⟩), .string ⟨#[120]⟩] w8 fun e w' => e = .returned (.int .i64 8) ∧ DkQ db t (csXY 0 0) (csXY 0 0) A' n' ab a0 fb f0 nb n0 dac dfc dnc rb ro3 rc3 mb pb8 w8 w' from unhide HSZ).mono ?_
   clear HSZ
   rintro e w9 ⟨rfl, hq9⟩
   obtain ⟨pb9, D9, hp9⟩ := (unhide HP8).start hq9
   have HW9 : Hid (WtI w4 w9 w9.heap.size db t (csXY 0 0) A' n' ab a0 fb f0 nb n0 dac dfc dnc rb ro3 rc3 mb pb9 D9) := ⟨hp9.o, hp9.d, hp9.lo, hp9.d.all, Nat.le_refl _, hp9.o.size⟩
   clear hq9 hp9 HP8
   generalize hT0 : w9.heap.size = T0 at *
   clear hT0
   go_wp2_with fail
   go_loopw [15, 16] (fun tv x wr => ∃ (i : Nat) (v : List Nat) (o : Option Addr) (c : Nat), i ≤ R ∧ x = .int .i64 i ∧ tv = .slice o v.length c ∧ v.length ≤ i ∧ Hid (∀ a ∈ v, a < A') ∧ Hid (WtI w4 wr T0 db t (csXY (runT t 0 v) v.length) A' n' ab a0 fb f0 nb n0 dac dfc dnc rb ro3 rc3 mb pb9 D9) ∧ Hid (2 ≤ flT t (runT t 0 v)) ∧ Hid (wr.ownsRow T0 9 1 (.slice o v.length c) v.length (strsC (v.map (nmT t))))) (fun _ x _ => R - (intOf x).toNat)
   case atStart => exact ⟨0, [], none, 0, Nat.zero_le _, rfl, rfl, Nat.le_refl _, fun a ha => (List.not_mem_nil ha).elim, HW9, by rw [← unhide HF0] at H2; exact H2, ⟨rfl, Or.inl ⟨rfl, rfl⟩⟩⟩
   case round =>
    obtain ⟨i, v, o, c, hi, rfl, rfl, hvl, HVA, HW, HAL, HOW⟩ := hrel
    have HBr := hide ((unhide HB4).trans ((unhide HW).o.mono (unhide HB4).size))
    have hblr := ((unhide HW).o.block _ (lt_of_blk (unhide HBL4))).trans (unhide HBL4)
    have c0 := cell_of_blk hblr 0
    have c1 := cell_of_blk hblr 1
    have l0 := lt_of_blk hblr
    clear hblr
    by_cases hil : i < R
    ·have hin : (i : Int) < (R : Int) := by omega
     have hir : i < raw.length := by rw [unhide HRL]; exact hil
     obtain ⟨b, off, rfl, hbl, hbc⟩ := (unhide HI).later (unhide HBr) i raw[i] (List.getElem?_eq_getElem hir)
     have hrr := unhide HRR raw[i] (List.getElem_mem hir)
     have haA : pickZ raw[i] A' < A' := pickZ_lt _ (by omega)
     have HKE := hide (fun W => kpick_eq W raw[i] A' hrr.1 hrr.2 (by omega) (by omega))
     generalize raw[i] = z at *
     have haa : pickZ z A' < t.acts.length := by rw [unhide HAE]; exact haA
     have hL9 := (unhide HL4).later (unhide HW).o
     have hac := hL9.act (pickZ z A') (nmT t (pickZ z A')) (by unfold nmT; rw [List.getElem?_eq_getElem haa]; rfl)
     have hla := hL9.la
     have hai : (pickZ z A' : Int) < (A' : Int) := by omega
     have HMEM : Hid (nmT t (pickZ z A') ∈ t.acts) := by
      show _ ∈ _
      have : t.acts[pickZ z A']? = some (nmT t (pickZ z A')) := by unfold nmT; rw [List.getElem?_eq_getElem haa]; rfl
      exact List.mem_of_getElem? this
     have HSA := hide (fun s => @step_at t (unhide HR) s (pickZ z A') haa)
     clear hrr haa hL9
     generalize pickZ z A' = a at *
     obtain ⟨sn, hs⟩ : ∃ sn, sn = nmT t a := ⟨_, rfl⟩
     rw [← hs] at hac HMEM
     have HSN := hide hs
     clear hs
     go_wp2_with fail
     go_quiet (first | (go_at_call 28; exact Calls.quiet_of_same (unhide HKE _)))
     have hbd := bdn wr nq
     have HWd := hide ((unhide HW).later hbd)
     have HOd := hide (owns_later (unhide HOW) hbd)
     clear hbd hac hla hbl hbc c0 c1 l0 HKE HW HOW HBr
     generalize wr.drewN nq = wd at *
     have HOX := hide (options_x (unhide HWd).d)
     generalize hst : runT t 0 v = st at *
     have HST := hide hst
     clear hst
     have hln : (optsT t st).length ≤ 6 := by
      have h1 := unhide HAE
      have h2 : (optsT t st).length ≤ t.acts.length := List.length_filter_le _ _
      omega
     have HLN := hide (rfl : (optsT t st).length = (optsT t st).length)
     go_wp2_with fail
     refine (unhide HOX).mono ?_
     clear HOX
     rintro e w11 ⟨lo, lk, rfl, hlo, hb11⟩
     have HW1 := hide ((unhide HWd).later hb11)
     have HO1 := hide (owns_later (unhide HOd) hb11)
     have HLO := hide hlo
     have hTd : T0 ≤ wd.heap.size := (unhide HWd).le
     clear hlo hb11 HWd HOd
     by_cases hl : 2 ≤ flT t (nxT t st a)
     ·have HEV := hide (event_ok (unhide HW1).d (by omega) haA hl)
      rw [← unhide HSN] at HEV
      have HLV := hide hl
      have HIN : Hid (sn ∈ optsT t st) := by
       show _ ∈ _
       rw [opts_mem (unhide HMEM), unhide HSN, unhide HSA st, if_neg (by omega)]
      clear hl
      generalize hol : (optsT t st).length = LN at *
      go_wp2_with fail
      refine (unhide HEV).mono ?_
      clear HEV
      rintro e w12 ⟨rfl, hf12, hd12⟩
      have HW2 := hide ((unhide HW1).turn hf12 hd12 (fun k hk => by rw [← csXY_put st v.length (nxT t st a) (v.length + 1)] at hk; exact csPut_S hk))
      have HO2 := hide (owns_frame (unhide HO1) hf12 (fun k hk => (unhide HW1).hi.hs k hk))
      have HLO2 := hide (owns_frame (unhide HLO) hf12 (fun k hk => Nat.lt_of_lt_of_le ((unhide HW1).hi.hs k hk) hTd))
      have HCN := hide (kcontains_any w12 lo lk LN (optsT t st) hol (owns_txs (unhide HLO2) hol) (by omega) sn)
      clear hf12 hd12 HW1 HO1 HLO
      go_wp2_with fail
      refine (unhide HCN).mono ?_
      clear HCN
      rintro e w13 ⟨⟨b, rfl, hbt⟩, hb13⟩
      have hbe : b = true := hbt.2 (unhide HIN)
      subst hbe
      have HW3 := hide ((unhide HW2).later hb13)
      have HO3 := hide (owns_later (unhide HO2) hb13)
      clear hbt hb13 HW2 HO2 HLO2
      go_wp2_with (at_builtin; go_must (refine wpList_append_lies _ rfl _ _ 25 rfl T0 9 i0 (.string ⟨#[]⟩) 1 16 Tryz.underlying25 hi0 hz0 hz1 hz2 rfl (by decide) _ v.length (strsC (v.map (nmT t))) rfl ?c0 _ 1 1 [.string sn] rfl rfl ?c1 ?c2 (by decide) ?c3 ?c4 ?c5 _ rfl ?_))
      case c0 => exact (unhide HO3).alloc _
      case c1 =>
       intro j u hj
       match j, hj with
       | 0, hj => simp at hj; subst hj; exact cell_of_blk (blk_alloc' _ _ _ (by simp)) 0
       | j + 1, hj => simp at hj
      case c2 => intro u hu; simp at hu; subst hu; rfl
      case c3 => unfold maxLen; omega
      case c4 => omega
      case c5 => have := (unhide HW3).le; simp; omega
      intro g8 c8 w8' ho8 hg8 _ _
      have hba8 : Below w13.heap.size w13 (w13.alloc (.cells #[.string sn] 9)) := (Below.refl _ _).alloc (Nat.le_refl _) _
      have hb8 : Below T0 w13 w8' := (hba8.mono (unhide HW3).le).grown hg8 (Nat.le_trans (unhide HW3).le hba8.size) (fun b hb => own_base (unhide HO3) hb)
      have HWz : Hid (WtI w4 w8' T0 db t (csXY (runT t 0 (v ++ [a])) (v ++ [a]).length) A' n' ab a0 fb f0 nb n0 dac dfc dnc rb ro3 rc3 mb pb9 D9) := by
       have h1 := (unhide HW3).low hb8
       have e1 : runT t 0 (v ++ [a]) = nxT t (runT t 0 v) a := run_snoc t a v 0
       have e2 : (v ++ [a]).length = v.length + 1 := by rw [List.length_append]; rfl
       show WtI _ _ _ _ _ _ _ _ _ _ _ _ _ _ _ _ _ _ _ _ _ _ _
       rw [e1, e2, unhide HST]
       exact h1
      have HALz : Hid (2 ≤ flT t (runT t 0 (v ++ [a]))) := by
       have e1 : runT t 0 (v ++ [a]) = nxT t (runT t 0 v) a := run_snoc t a v 0
       show _ ≤ _
       rw [e1, unhide HST]
       exact unhide HLV
      have HOz : Hid (w8'.ownsRow T0 9 1 (.slice (some ⟨g8, 0, none⟩) (v ++ [a]).length c8) (v ++ [a]).length (strsC ((v ++ [a]).map (nmT t)))) := by
       show World.ownsRow _ _ _ _ _ _ _
       rw [List.length_append, List.map_append]
       unfold strsC
       rw [List.map_append]
       have e : ([a].map (nmT t)).map (Value.string) = [.string sn] := by rw [unhide HSN]; rfl
       rw [e]
       exact ho8
      have HVz : Hid (∀ b ∈ v ++ [a], b < A') := fun b hb => by
       rcases List.mem_append.1 hb with hb | hb
       ·exact unhide HVA b hb
       ·rw [List.mem_singleton.1 hb]; exact haA
      clear ho8 hg8 hba8 hb8 HO3 HW3
      go_wp2_with fail
      go_roundw
      case rel => exact ⟨i + 1, v ++ [a], some ⟨g8, 0, none⟩, c8, by omega, by go_num, by rw [List.length_append]; rfl, by rw [List.length_append]; show v.length + 1 ≤ i + 1; omega, HVz, HWz, HALz, HOz⟩
      case measure => simp [intOf]; omega
     ·have HEV := hide (event_no (unhide HW1).d (by omega) haA hl)
      rw [← unhide HSN] at HEV
      have HIN : Hid (¬ sn ∈ optsT t st) := by
       show ¬ _
       rw [opts_mem (unhide HMEM), unhide HSN, unhide HSA st, if_pos (by omega)]
       decide
      clear hl
      generalize hol : (optsT t st).length = LN at *
      go_wp2_with fail
      refine (unhide HEV).mono ?_
      clear HEV
      rintro e w12 ⟨rfl, hf12, hd12⟩
      have HW2 := hide ((unhide HW1).turn hf12 hd12 (fun k hk => hk))
      have HO2 := hide (owns_frame (unhide HO1) hf12 (fun k hk => (unhide HW1).hi.hs k hk))
      have HLO2 := hide (owns_frame (unhide HLO) hf12 (fun k hk => Nat.lt_of_lt_of_le ((unhide HW1).hi.hs k hk) hTd))
      have HCN := hide (kcontains_any w12 lo lk LN (optsT t st) hol (owns_txs (unhide HLO2) hol) (by omega) sn)
      clear hf12 hd12 HW1 HO1 HLO
      go_wp2_with fail
      refine (unhide HCN).mono ?_
      clear HCN
      rintro e w13 ⟨⟨b, rfl, hbt⟩, hb13⟩
      have hbe : b = false := by
       cases b with
       | false => rfl
       | true => exact absurd (hbt.1 rfl) (unhide HIN)
      subst hbe
      have HW3 := hide ((unhide HW2).later hb13)
      have HO3 := hide (owns_later (unhide HO2) hb13)
      clear hbt hb13 HW2 HO2 HLO2
      go_wp2_with fail
      go_roundw
      case rel => exact ⟨i + 1, v, o, c, by omega, by go_num, rfl, by omega, HVA, by rw [unhide HST]; exact HW3, by rw [unhide HST]; exact HAL, HO3⟩
      case measure => simp [intOf]; omega
    ·have hin : ¬ (i : Int) < (R : Int) := by omega
     have HEN := hide (ends_any w4 wr T0 db t A' n' ab a0 fb f0 nb n0 dac dfc dnc rb ro3 rc3 mb pb9 D9 (runT t 0 v) v.length (unhide HW) firstB al rs (unhide HX) (unhide HC) v (unhide HVA) rfl rfl (by omega) o c (unhide HOW) ((unhide HG).later (unhide HB4)) (unhide HAL))
     go_wp2_with fail
     refine (unhide HEN).mono ?_
     rintro e w11 ⟨rfl, hb11⟩
     have HB11 := hide ((unhide HB4).trans (hb11.mono (unhide HB4).size))
     clear hb11 HEN
     go_wp2_with fail
     refine bodyPost_ret (v := .bool true) (by simp [results, Tryz.results11, go_sem]) rfl ?_
     exact ⟨rfl, unhide HB11⟩
 ·have hba : Below w2.heap.size w2 (w2.alloc (.cells #[.slice ao t.acts.length ac, .slice fo t.fl.length fc, .slice no t.nx.length nc] 36)) := (Below.refl _ _).alloc (Nat.le_refl _) _
  have hb12 := (unhide HB1).trans (hb2.mono (unhide HB1).size)
  have HB := hide (hb12.trans (hba.mono hb12.size))
  have HBL := hide (blk_alloc w2 (.cells #[.slice ao t.acts.length ac, .slice fo t.fl.length fc, .slice no t.nx.length nc] 36))
  have HT := hide ((hT.later hba).read hR.small).1
  have HALL := hide (comp_all hx hc)
  have HX := hide hx
  have HC := hide hc
  have HR := hide hR
  have HEN := hide (Encode_t _ ao fo no ac fc nc _ _ _ t (unhide HT) ((unhide HG).later (unhide HB)).g rfl rfl rfl hR)
  have c0 := cell_of_blk (unhide HBL) 0
  have c1 := cell_of_blk (unhide HBL) 1
  have c2 := cell_of_blk (unhide HBL) 2
  have l0 := lt_of_blk (unhide HBL)
  clear hT hR hb2 hx hc hm hba hb12
  go_wp2_with fail
  refine (unhide HEN).mono ?_
  clear HEN c0 c1 c2 l0
  generalize w2.alloc (.cells #[.slice ao t.acts.length ac, .slice fo t.fl.length fc, .slice no t.nx.length nc] 36) = W at *
  generalize w2.heap.size = tb at *
  rintro e w4 ⟨rfl, hb4⟩
  have HB4 := hide ((unhide HB).trans (hb4.mono (unhide HB).size))
  have HBL4 := hide ((hb4.block _ (lt_of_blk (unhide HBL))).trans (unhide HBL))
  have HT4 := hide ((unhide HT).later hb4)
  have HS : Hid ((⟨(encB t).toArray⟩ : ByteArray).data.toList = encB t) := hide rfl
  clear hb4 HB HBL HT
  generalize (⟨(encB t).toArray⟩ : ByteArray) = S at *
  have HOP := hide (Open_t w4 t S (unhide HS) (unhide HR) ((unhide HG).later (unhide HB4)).g)
  go_wp2_with fail
  refine (unhide HOP).mono ?_
  clear HOP
  rintro e w5 ⟨hb5, hop⟩
  have HBL5 := hide ((hb5.block _ (lt_of_blk (unhide HBL4))).trans (unhide HBL4))
  have HB5 := hide ((unhide HB4).trans (hb5.mono (unhide HB4).size))
  have HO5 := hide hb5
  obtain ⟨xb, x0, yb, y0, zb, z0, ub, uo, uc, rfl, rfl, rfl, hL⟩ := tbl_of (unhide HT4) (unhide HR)
  rw [(unhide HR).fl] at HBL5 HBL4 ⊢
  have HL4 := hide hL
  have HL5 := hide (hL.later hb5)
  clear hL hb5 HT4
  generalize hAe : t.acts.length = A at *
  generalize hne : t.nx.length = n at *
  have HAE := hide hAe
  have HNE := hide hne
  clear hAe hne
  have c0 := cell_of_blk (unhide HBL5) 0
  have c1 := cell_of_blk (unhide HBL5) 1
  have c2 := cell_of_blk (unhide HBL5) 2
  have l0 := lt_of_blk (unhide HBL5)
  have hn1 := (unhide HL5).n1
  have hA1 := (unhide HL5).A1
  have hA6 := (unhide HL5).A6
  have hn100 := (unhide HL5).n100
  rcases hop with ⟨h2, rfl⟩ | ⟨db, A', n', ab, a0, fb, f0, nb, n0, dac, dfc, dnc, rb, ro3, rc3, mb, pb, D, h2, rfl, hd, hmb⟩
  ·go_wp2_with fail
   refine (shaped_any _ t A n xb x0 yb y0 zb z0 ac fc nc ub uo uc (unhide HL5)).mono ?_
   clear c0 c1 c2 l0
   rintro e w6 ⟨rfl, hb6⟩
   have HB6 := hide ((unhide HB5).trans (hb6.mono (unhide HB5).size))
   have hbl6 := (hb6.block _ (lt_of_blk (unhide HBL5))).trans (unhide HBL5)
   have c1 := cell_of_blk hbl6 1
   have l0 := lt_of_blk hbl6
   have hfl := ((unhide HL5).later hb6).fla 0 hn1
   have hlf := ((unhide HL5).later hb6).lf
   have hf2 : (flT t 0 : Int) < 2 := by omega
   have hni : (0 : Int) < (n : Int) := by omega
   rw [Nat.add_zero] at hfl
   clear hb6 hbl6
   generalize flT t 0 = f at *
   go_wp2_with fail
   refine bodyPost_ret (v := .bool true) (by simp [results, Tryz.results11, go_sem]) rfl ?_
   exact ⟨rfl, unhide HB6⟩
  ·obtain rfl : A' = A := hd.tb.hA.symm.trans (unhide HAE)
   obtain rfl : n' = n := hd.tb.hn.symm.trans (unhide HNE)
   have HP5 : Hid (WtP w4 w5 db t [] A' n' ab a0 fb f0 nb n0 dac dfc dnc rb ro3 rc3 mb pb D) := ⟨unhide HO5, hd, fun k hk => by
    rcases hk with rfl | ⟨c, hc, _⟩
    ·exact hmb
    ·exact (List.not_mem_nil hc).elim⟩
   clear hd hmb
   go_wp2_with fail
   refine (shaped_any _ t A' n' xb x0 yb y0 zb z0 ac fc nc ub uo uc (unhide HL5)).mono ?_
   clear c0 c1 c2 l0
   rintro e w6 ⟨rfl, hb6⟩
   have HB6 := hide ((unhide HB5).trans (hb6.mono (unhide HB5).size))
   have hbl6 := (hb6.block _ (lt_of_blk (unhide HBL5))).trans (unhide HBL5)
   have HP6 : Hid (WtP w4 w6 db t [] A' n' ab a0 fb f0 nb n0 dac dfc dnc rb ro3 rc3 mb pb D) := ⟨(unhide HP5).o.trans (hb6.mono (unhide HP5).o.size), (unhide HP5).d.later hb6, (unhide HP5).lo⟩
   have c1 := cell_of_blk hbl6 1
   have l0 := lt_of_blk hbl6
   have hfl := ((unhide HL5).later hb6).fla 0 hn1
   have hlf := ((unhide HL5).later hb6).lf
   have hf2 : ¬ (flT t 0 : Int) < 2 := by omega
   have hni : (0 : Int) < (n' : Int) := by omega
   rw [Nat.add_zero] at hfl
   have H2 := hide h2
   have HSX := hide (Start_any w6 db t [] A' n' ab a0 fb f0 nb n0 dac dfc dnc rb ro3 rc3 mb pb D (unhide HP6).d idX (by decide))
   clear hb6 hbl6 h2 HP5
   generalize hf0 : flT t 0 = f at *
   have HF0 := hide hf0
   clear hf0
   go_wp2_with fail
   refine (show Calls Tryz.prog 30 #[.pointer (some ⟨db, 0, none⟩), .string ⟨#[120]⟩] w6 fun e w' => e = .returned (.int .i64 0) ∧ DkQ db t [] [⟨idX, 0, 0⟩] A' n' ab a0 fb f0 nb n0 dac dfc dnc rb ro3 rc3 mb pb w6 w' from unhide HSX).mono ?_
   clear HSX c1 l0 hfl hlf hf2
   rintro e w7 ⟨rfl, hq7⟩
   obtain ⟨pb7, D7, hp7⟩ := (unhide HP6).start hq7
   have HP7 := hide hp7
   have HSY := hide (Start_any w7 db t [⟨idX, 0, 0⟩] A' n' ab a0 fb f0 nb n0 dac dfc dnc rb ro3 rc3 mb pb7 D7 hp7.d idY (by decide))
   clear hq7 hp7 HP6
   go_wp2_with fail
   refine (show Calls Tryz.prog 30 #[.pointer (some ⟨db, 0, none⟩), .string ⟨#[121]⟩] w7 fun e w' => e = .returned (.int .i64 0) ∧ DkQ db t [⟨idX, 0, 0⟩] (csXY 0 0) A' n' ab a0 fb f0 nb n0 dac dfc dnc rb ro3 rc3 mb pb7 w7 w' from unhide HSY).mono ?_
   clear HSY
   rintro e w8 ⟨rfl, hq8⟩
   obtain ⟨pb8, D8, hp8⟩ := (unhide HP7).start hq8
   have HP8 := hide hp8
   have HSZ := hide (Start_any w8 db t (csXY 0 0) A' n' ab a0 fb f0 nb n0 dac dfc dnc rb ro3 rc3 mb pb8 D8 hp8.d idX (by decide))
   clear hq8 hp8 HP7
   go_wp2_with fail
   refine (show Calls Tryz.prog 30 #[.pointer (some ⟨db, 0, none⟩), .string ⟨#[120]⟩] w8 fun e w' => e = .returned (.int .i64 8) ∧ DkQ db t (csXY 0 0) (csXY 0 0) A' n' ab a0 fb f0 nb n0 dac dfc dnc rb ro3 rc3 mb pb8 w8 w' from unhide HSZ).mono ?_
   clear HSZ
   rintro e w9 ⟨rfl, hq9⟩
   obtain ⟨pb9, D9, hp9⟩ := (unhide HP8).start hq9
   have HW9 : Hid (WtI w4 w9 w9.heap.size db t (csXY 0 0) A' n' ab a0 fb f0 nb n0 dac dfc dnc rb ro3 rc3 mb pb9 D9) := ⟨hp9.o, hp9.d, hp9.lo, hp9.d.all, Nat.le_refl _, hp9.o.size⟩
   clear hq9 hp9 HP8
   generalize hT0 : w9.heap.size = T0 at *
   clear hT0
   go_wp2_with fail
   go_loopw [15, 16] (fun tv x wr => ∃ (i : Nat) (v : List Nat) (o : Option Addr) (c : Nat), i ≤ R ∧ x = .int .i64 i ∧ tv = .slice o v.length c ∧ v.length ≤ i ∧ Hid (∀ a ∈ v, a < A') ∧ Hid (WtI w4 wr T0 db t (csXY (runT t 0 v) v.length) A' n' ab a0 fb f0 nb n0 dac dfc dnc rb ro3 rc3 mb pb9 D9) ∧ Hid (2 ≤ flT t (runT t 0 v)) ∧ Hid (wr.ownsRow T0 9 1 (.slice o v.length c) v.length (strsC (v.map (nmT t))))) (fun _ x _ => R - (intOf x).toNat)
   case atStart => exact ⟨0, [], none, 0, Nat.zero_le _, rfl, rfl, Nat.le_refl _, fun a ha => (List.not_mem_nil ha).elim, HW9, by rw [← unhide HF0] at H2; exact H2, ⟨rfl, Or.inl ⟨rfl, rfl⟩⟩⟩
   case round =>
    obtain ⟨i, v, o, c, hi, rfl, rfl, hvl, HVA, HW, HAL, HOW⟩ := hrel
    have HBr := hide ((unhide HB4).trans ((unhide HW).o.mono (unhide HB4).size))
    have hblr := ((unhide HW).o.block _ (lt_of_blk (unhide HBL4))).trans (unhide HBL4)
    have c0 := cell_of_blk hblr 0
    have c1 := cell_of_blk hblr 1
    have l0 := lt_of_blk hblr
    clear hblr
    by_cases hil : i < R
    ·have hin : (i : Int) < (R : Int) := by omega
     have hir : i < raw.length := by rw [unhide HRL]; exact hil
     obtain ⟨b, off, rfl, hbl, hbc⟩ := (unhide HI).later (unhide HBr) i raw[i] (List.getElem?_eq_getElem hir)
     have hrr := unhide HRR raw[i] (List.getElem_mem hir)
     have haA : pickZ raw[i] A' < A' := pickZ_lt _ (by omega)
     have HKE := hide (fun W => kpick_eq W raw[i] A' hrr.1 hrr.2 (by omega) (by omega))
     generalize raw[i] = z at *
     have haa : pickZ z A' < t.acts.length := by rw [unhide HAE]; exact haA
     have hL9 := (unhide HL4).later (unhide HW).o
     have hac := hL9.act (pickZ z A') (nmT t (pickZ z A')) (by unfold nmT; rw [List.getElem?_eq_getElem haa]; rfl)
     have hla := hL9.la
     have hai : (pickZ z A' : Int) < (A' : Int) := by omega
     have HMEM : Hid (nmT t (pickZ z A') ∈ t.acts) := by
      show _ ∈ _
      have : t.acts[pickZ z A']? = some (nmT t (pickZ z A')) := by unfold nmT; rw [List.getElem?_eq_getElem haa]; rfl
      exact List.mem_of_getElem? this
     have HSA := hide (fun s => @step_at t (unhide HR) s (pickZ z A') haa)
     clear hrr haa hL9
     generalize pickZ z A' = a at *
     obtain ⟨sn, hs⟩ : ∃ sn, sn = nmT t a := ⟨_, rfl⟩
     rw [← hs] at hac HMEM
     have HSN := hide hs
     clear hs
     go_wp2_with fail
     go_quiet (first | (go_at_call 28; exact Calls.quiet_of_same (unhide HKE _)))
     have hbd := bdn wr nq
     have HWd := hide ((unhide HW).later hbd)
     have HOd := hide (owns_later (unhide HOW) hbd)
     clear hbd hac hla hbl hbc c0 c1 l0 HKE HW HOW HBr
     generalize wr.drewN nq = wd at *
     have HOX := hide (options_x (unhide HWd).d)
     generalize hst : runT t 0 v = st at *
     have HST := hide hst
     clear hst
     have hln : (optsT t st).length ≤ 6 := by
      have h1 := unhide HAE
      have h2 : (optsT t st).length ≤ t.acts.length := List.length_filter_le _ _
      omega
     have HLN := hide (rfl : (optsT t st).length = (optsT t st).length)
     go_wp2_with fail
     refine (unhide HOX).mono ?_
     clear HOX
     rintro e w11 ⟨lo, lk, rfl, hlo, hb11⟩
     have HW1 := hide ((unhide HWd).later hb11)
     have HO1 := hide (owns_later (unhide HOd) hb11)
     have HLO := hide hlo
     have hTd : T0 ≤ wd.heap.size := (unhide HWd).le
     clear hlo hb11 HWd HOd
     by_cases hl : 2 ≤ flT t (nxT t st a)
     ·have HEV := hide (event_ok (unhide HW1).d (by omega) haA hl)
      rw [← unhide HSN] at HEV
      have HLV := hide hl
      have HIN : Hid (sn ∈ optsT t st) := by
       show _ ∈ _
       rw [opts_mem (unhide HMEM), unhide HSN, unhide HSA st, if_neg (by omega)]
      clear hl
      generalize hol : (optsT t st).length = LN at *
      go_wp2_with fail
      refine (unhide HEV).mono ?_
      clear HEV
      rintro e w12 ⟨rfl, hf12, hd12⟩
      have HW2 := hide ((unhide HW1).turn hf12 hd12 (fun k hk => by rw [← csXY_put st v.length (nxT t st a) (v.length + 1)] at hk; exact csPut_S hk))
      have HO2 := hide (owns_frame (unhide HO1) hf12 (fun k hk => (unhide HW1).hi.hs k hk))
      have HLO2 := hide (owns_frame (unhide HLO) hf12 (fun k hk => Nat.lt_of_lt_of_le ((unhide HW1).hi.hs k hk) hTd))
      have HCN := hide (kcontains_any w12 lo lk LN (optsT t st) hol (owns_txs (unhide HLO2) hol) (by omega) sn)
      clear hf12 hd12 HW1 HO1 HLO
      go_wp2_with fail
      refine (unhide HCN).mono ?_
      clear HCN
      rintro e w13 ⟨⟨b, rfl, hbt⟩, hb13⟩
      have hbe : b = true := hbt.2 (unhide HIN)
      subst hbe
      have HW3 := hide ((unhide HW2).later hb13)
      have HO3 := hide (owns_later (unhide HO2) hb13)
      clear hbt hb13 HW2 HO2 HLO2
      go_wp2_with (at_builtin; go_must (refine wpList_append_lies _ rfl _ _ 25 rfl T0 9 i0 (.string ⟨#[]⟩) 1 16 Tryz.underlying25 hi0 hz0 hz1 hz2 rfl (by decide) _ v.length (strsC (v.map (nmT t))) rfl ?c0 _ 1 1 [.string sn] rfl rfl ?c1 ?c2 (by decide) ?c3 ?c4 ?c5 _ rfl ?_))
      case c0 => exact (unhide HO3).alloc _
      case c1 =>
       intro j u hj
       match j, hj with
       | 0, hj => simp at hj; subst hj; exact cell_of_blk (blk_alloc' _ _ _ (by simp)) 0
       | j + 1, hj => simp at hj
      case c2 => intro u hu; simp at hu; subst hu; rfl
      case c3 => unfold maxLen; omega
      case c4 => omega
      case c5 => have := (unhide HW3).le; simp; omega
      intro g8 c8 w8' ho8 hg8 _ _
      have hba8 : Below w13.heap.size w13 (w13.alloc (.cells #[.string sn] 9)) := (Below.refl _ _).alloc (Nat.le_refl _) _
      have hb8 : Below T0 w13 w8' := (hba8.mono (unhide HW3).le).grown hg8 (Nat.le_trans (unhide HW3).le hba8.size) (fun b hb => own_base (unhide HO3) hb)
      have HWz : Hid (WtI w4 w8' T0 db t (csXY (runT t 0 (v ++ [a])) (v ++ [a]).length) A' n' ab a0 fb f0 nb n0 dac dfc dnc rb ro3 rc3 mb pb9 D9) := by
       have h1 := (unhide HW3).low hb8
       have e1 : runT t 0 (v ++ [a]) = nxT t (runT t 0 v) a := run_snoc t a v 0
       have e2 : (v ++ [a]).length = v.length + 1 := by rw [List.length_append]; rfl
       show WtI _ _ _ _ _ _ _ _ _ _ _ _ _ _ _ _ _ _ _ _ _ _ _
       rw [e1, e2, unhide HST]
       exact h1
      have HALz : Hid (2 ≤ flT t (runT t 0 (v ++ [a]))) := by
       have e1 : runT t 0 (v ++ [a]) = nxT t (runT t 0 v) a := run_snoc t a v 0
       show _ ≤ _
       rw [e1, unhide HST]
       exact unhide HLV
      have HOz : Hid (w8'.ownsRow T0 9 1 (.slice (some ⟨g8, 0, none⟩) (v ++ [a]).length c8) (v ++ [a]).length (strsC ((v ++ [a]).map (nmT t)))) := by
       show World.ownsRow _ _ _ _ _ _ _
       rw [List.length_append, List.map_append]
       unfold strsC
       rw [List.map_append]
       have e : ([a].map (nmT t)).map (Value.string) = [.string sn] := by rw [unhide HSN]; rfl
       rw [e]
       exact ho8
      have HVz : Hid (∀ b ∈ v ++ [a], b < A') := fun b hb => by
       rcases List.mem_append.1 hb with hb | hb
       ·exact unhide HVA b hb
       ·rw [List.mem_singleton.1 hb]; exact haA
      clear ho8 hg8 hba8 hb8 HO3 HW3
      go_wp2_with fail
      go_roundw
      case rel => exact ⟨i + 1, v ++ [a], some ⟨g8, 0, none⟩, c8, by omega, by go_num, by rw [List.length_append]; rfl, by rw [List.length_append]; show v.length + 1 ≤ i + 1; omega, HVz, HWz, HALz, HOz⟩
      case measure => simp [intOf]; omega
     ·have HEV := hide (event_no (unhide HW1).d (by omega) haA hl)
      rw [← unhide HSN] at HEV
      have HIN : Hid (¬ sn ∈ optsT t st) := by
       show ¬ _
       rw [opts_mem (unhide HMEM), unhide HSN, unhide HSA st, if_pos (by omega)]
       decide
      clear hl
      generalize hol : (optsT t st).length = LN at *
      go_wp2_with fail
      refine (unhide HEV).mono ?_
      clear HEV
      rintro e w12 ⟨rfl, hf12, hd12⟩
      have HW2 := hide ((unhide HW1).turn hf12 hd12 (fun k hk => hk))
      have HO2 := hide (owns_frame (unhide HO1) hf12 (fun k hk => (unhide HW1).hi.hs k hk))
      have HLO2 := hide (owns_frame (unhide HLO) hf12 (fun k hk => Nat.lt_of_lt_of_le ((unhide HW1).hi.hs k hk) hTd))
      have HCN := hide (kcontains_any w12 lo lk LN (optsT t st) hol (owns_txs (unhide HLO2) hol) (by omega) sn)
      clear hf12 hd12 HW1 HO1 HLO
      go_wp2_with fail
      refine (unhide HCN).mono ?_
      clear HCN
      rintro e w13 ⟨⟨b, rfl, hbt⟩, hb13⟩
      have hbe : b = false := by
       cases b with
       | false => rfl
       | true => exact absurd (hbt.1 rfl) (unhide HIN)
      subst hbe
      have HW3 := hide ((unhide HW2).later hb13)
      have HO3 := hide (owns_later (unhide HO2) hb13)
      clear hbt hb13 HW2 HO2 HLO2
      go_wp2_with fail
      go_roundw
      case rel => exact ⟨i + 1, v, o, c, by omega, by go_num, rfl, by omega, HVA, by rw [unhide HST]; exact HW3, by rw [unhide HST]; exact HAL, HO3⟩
      case measure => simp [intOf]; omega
    ·have hin : ¬ (i : Int) < (R : Int) := by omega
     have HEN := hide (ends_any w4 wr T0 db t A' n' ab a0 fb f0 nb n0 dac dfc dnc rb ro3 rc3 mb pb9 D9 (runT t 0 v) v.length (unhide HW) s al rs (unhide HX) (unhide HC) v (unhide HVA) rfl rfl (by omega) o c (unhide HOW) ((unhide HG).later (unhide HB4)) (unhide HAL))
     go_wp2_with fail
     refine (unhide HEN).mono ?_
     rintro e w11 ⟨rfl, hb11⟩
     have HB11 := hide ((unhide HB4).trans (hb11.mono (unhide HB4).size))
     clear hb11 HEN
     go_wp2_with fail
     refine bodyPost_ret (v := .bool true) (by simp [results, Tryz.results11, go_sem]) rfl ?_
     exact ⟨rfl, unhide HB11⟩
end Go.Proofs.YtidakhhekofkoaaGreatDoor
