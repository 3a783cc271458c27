/- The law's tells: Cases. -/
import Derived.Test.YtidakhhekofkoaaGreatDoorJ51
import Derived.Test.YtidakhhekofkoaaGreatDoorJ49
import Derived.Test.YtidakhhekofkoaaGreatDoorJ47
import Derived.Lib.QuietBelow
import Derived.Test.YtidakhhekofkoaaGreatDoorJ15
set_option linter.unusedSimpArgs false
set_option linter.unusedVariables false
namespace Go.Proofs.YtidakhhekofkoaaGreatDoor
open Go.RowKit Go.Deep
theorem ris_some (l:List ByteArray): ∃m,RisL m∧m.Perm l:=by
 refine ⟨_,sorted_ris (l.map fun b=>b.data.toList), ?_⟩
 have h:=(List.mergeSort_perm (l.map fun b=>b.data.toList) leB).map mkBa
 have e:(l.map fun b=>b.data.toList).map mkBa=l:=by
  rw [List.map_map]
  exact (List.map_congr_left fun b _=>mkBa_id b).trans (List.map_id l)
 rw [e] at h
 exact h
theorem CasP.one {cs:List Cs} {w w':World} {e:Ending} (h:CasP cs w w' e) {L:List ByteArray} {n:Nat} (h1:RisL L) (h2:L.Perm (cs.map (·.id))) (hn:n=L.length): ∃o k,e= .returned (.slice o n k)∧w'.ownsRow w.heap.size 9 1 (.slice o n k) n (strsC L)∧Below w.heap.size w w':=by
 obtain ⟨l,o,k,he,hr,hp,ho,hb⟩:=h
 have e:=ris_one hr h1 (hp.trans h2.symm)
 subst e
 subst hn
 exact ⟨o,k,he,ho,hb⟩
set_option maxHeartbeats 4000000 in
set_option maxRecDepth 100000 in
theorem tells_cases (B lb:Nat) (X:List Th) (w0 w:World) (N:Nat) (a:Lw) (ds:List Dd) (d:Dd) (hmem:d∈ds) (bs:List Bk) (ws:List Wt) (h:LI B lb X w0 w N a ds bs ws) (hwv:a.wv=ws.map Wt.l) (hev:a.ev=ws.map Wt.k) (hN:N≤10000000) (oa:Int) (os ot:ByteArray) (hos:os.size≤140737488355328) (l1:Option Addr) (l2 l3:Nat) (f1:Option Addr) (f2 f3:Nat) (m1:Option Addr) (m2 m3:Nat):
  Calls Tryz.prog 60 #[.pointer (some ⟨lb,0,none⟩),.agg #[.pointer (some ⟨d.db,0,none⟩),.pointer (some ⟨d.rd,0,none⟩)],.agg #[.int .i64 15,.int .i64 oa,.string os,.string ot,.slice l1 l2 l3,.slice f1 f2 f3,.slice m1 m2 m3]] w fun e w'=>StQ B lb X w0 N w' e:=by
 obtain ⟨L,n,hL1,hL2,hL3,h8⟩: ∃(L:List ByteArray) (n:Nat),RisL L∧L.Perm (d.cs.map (·.id))∧n=L.length∧n≤8:=by
  obtain ⟨L,h1,h2⟩:=ris_some (d.cs.map (·.id))
  refine ⟨L,_,h1,h2,rfl, ?_⟩
  have e1:=h2.length_eq
  have e2:=(h.desk hmem).1.few
  rw [List.length_map] at e1
  omega
 have hids: ∀c∈d.cs,c.id.size≤140737488355328:=fun c hc=>(h.evs d hmem c hc).2
 have HRS:=hide hL1
 have HPM:=hide hL2
 have HN:=hide hL3
 clear hL1 hL2 hL3
 have hbW:Below w.heap.size w ((w.alloc (.cells #[.pointer (some ⟨d.db,0,none⟩),.pointer (some ⟨d.rd,0,none⟩)] 112)).alloc (.cells #[.int .i64 15,.int .i64 oa,.string os,.string ot,.slice l1 l2 l3,.slice f1 f2 f3,.slice m1 m2 m3] 74)):=((Below.refl _ _).alloc (Nat.le_refl _) _).alloc (by simp) _
 have HBP:Hid (((w.alloc (.cells #[.pointer (some ⟨d.db,0,none⟩),.pointer (some ⟨d.rd,0,none⟩)] 112)).alloc (.cells #[.int .i64 15,.int .i64 oa,.string os,.string ot,.slice l1 l2 l3,.slice f1 f2 f3,.slice m1 m2 m3] 74)).heap[w.heap.size]? =some (.cells #[.pointer (some ⟨d.db,0,none⟩),.pointer (some ⟨d.rd,0,none⟩)] 112 (0,0))):=(Below.heap_alloc _ _ _ (by simp)).trans (blk_alloc _ _)
 have HBO:Hid (((w.alloc (.cells #[.pointer (some ⟨d.db,0,none⟩),.pointer (some ⟨d.rd,0,none⟩)] 112)).alloc (.cells #[.int .i64 15,.int .i64 oa,.string os,.string ot,.slice l1 l2 l3,.slice f1 f2 f3,.slice m1 m2 m3] 74)).heap[w.heap.size+1]? =some (.cells #[.int .i64 15,.int .i64 oa,.string os,.string ot,.slice l1 l2 l3,.slice f1 f2 f3,.slice m1 m2 m3] 74 (0,0))):=blk_alloc' _ _ _ (by simp)
 have hI:=h.later hbW
 have HST:=hide (Cases_any _ d.db d.t d.cs d.p.A d.p.n d.p.ab d.p.a0 d.p.fb d.p.f0 d.p.nb d.p.n0 d.p.ac d.p.fc d.p.nc d.p.rb d.p.ro d.p.rc d.mb d.pb d.D (hI.desk hmem).1 hids)
 have HI:=hide hI
 have HMEM:=hide hmem
 have HWV:=hide hwv
 have HEV:=hide hev
 have hnb:=h.nb
 clear hI h hbW hmem hwv hev
 go_enter Tryz.func60,Tryz.ntmps60
 go_wp2_with fail
 refine (unhide HST).mono ?_
 clear HST
 generalize ((w.alloc (.cells #[.pointer (some ⟨d.db,0,none⟩),.pointer (some ⟨d.rd,0,none⟩)] 112)).alloc (.cells #[.int .i64 15,.int .i64 oa,.string os,.string ot,.slice l1 l2 l3,.slice f1 f2 f3,.slice m1 m2 m3] 74))=W at *
 rintro e w1 hp
 obtain ⟨o1,k1,rfl,hr1,hb1⟩:=hp.one (unhide HRS) (unhide HPM) (unhide HN)
 clear hp
 have HI1:=hide (LI.hold1 (unhide HI) hb1 (unhide HN) hr1)
 have HBP1:=hide ((hb1.block _ (lt_of_blk (unhide HBP))).trans (unhide HBP))
 have HBO1:=hide ((hb1.block _ (lt_of_blk (unhide HBO))).trans (unhide HBO))
 have pc1:=fun o=>cell_of_blk (unhide HBP1) o
 have oc1:=fun o=>cell_of_blk (unhide HBO1) o
 have pl1:=lt_of_blk (unhide HBP1)
 have ol1:=lt_of_blk (unhide HBO1)
 have HST:=hide (Cases_any w1 d.db d.t d.cs d.p.A d.p.n d.p.ab d.p.a0 d.p.fb d.p.f0 d.p.nb d.p.n0 d.p.ac d.p.fc d.p.nc d.p.rb d.p.ro d.p.rc d.mb d.pb d.D ((unhide HI1).desk (unhide HMEM)).1 hids)
 clear hb1 hr1
 go_wp2_with fail
 refine (unhide HST).mono ?_
 clear HST pc1 oc1 pl1 ol1
 rintro e w2 hp
 obtain ⟨o2,k2,rfl,hr2,hb2⟩:=hp.one (unhide HRS) (unhide HPM) (unhide HN)
 clear hp
 have HI2:=hide (LI.hold1 (unhide HI1) hb2 (unhide HN) hr2)
 have HBP2:=hide ((hb2.block _ (lt_of_blk (unhide HBP1))).trans (unhide HBP1))
 have HBO2:=hide ((hb2.block _ (lt_of_blk (unhide HBO1))).trans (unhide HBO1))
 have pc2:=fun o=>cell_of_blk (unhide HBP2) o
 have oc2:=fun o=>cell_of_blk (unhide HBO2) o
 have pl2:=lt_of_blk (unhide HBP2)
 have ol2:=lt_of_blk (unhide HBO2)
 have HST:=hide (CasesR_any w2 B d.rd d.t d.cs d.q.A d.q.n d.q.ab d.q.a0 d.q.fb d.q.f0 d.q.nb d.q.n0 d.q.ac d.q.fc d.q.nc d.q.rb d.q.ro d.q.rc d.lo d.lc ((unhide HI2).desk (unhide HMEM)).2)
 clear hb2 hr2
 go_wp2_with fail
 refine (unhide HST).mono ?_
 clear HST pc2 oc2 pl2 ol2
 rintro e w3 hp
 obtain ⟨o3,k3,rfl,hr3,hb3⟩:=hp.one (unhide HRS) (unhide HPM) (unhide HN)
 clear hp
 have HI3:=hide (LI.hold1 (unhide HI2) hb3 (unhide HN) hr3)
 clear hb3 hr3 HI HI1 HI2 HBP1 HBO1 HBP2 HBO2 HBP HBO
 have HSM:=hide (sameTexts_n w3 _ _ _ _ _ _ _ _ (unhide HN) ((unhide HI3).row (List.mem_cons_of_mem _ (List.mem_cons_of_mem _ (List.mem_cons_self ..))) (unhide HN)) ((unhide HI3).row (List.mem_cons_self ..) (unhide HN)) h8)
 go_wp2_with fail
 refine (unhide HSM).mono ?_
 clear HSM
 rintro e w4 ⟨rfl,hb⟩
 have HI4:=hide ((unhide HI3).later hb)
 clear hb HI3
 have HSM:=hide (sameTexts_n w4 _ _ _ _ _ _ _ _ (unhide HN) ((unhide HI4).row (List.mem_cons_of_mem _ (List.mem_cons_self ..)) (unhide HN)) ((unhide HI4).row (List.mem_cons_self ..) (unhide HN)) h8)
 go_wp2_with fail
 refine (unhide HSM).mono ?_
 clear HSM
 rintro e w5 ⟨rfl,hb⟩
 have HI5:=hide ((unhide HI4).later hb)
 clear hb HI4
 have hwl:=(unhide HI5).wlen (unhide HWV) (unhide HEV)
 have HIa:=hide ((unhide HI5).permX ((List.Perm.cons _ (List.Perm.swap _ _ _)).trans (List.Perm.swap _ _ _)))
 have HKP:=hide (keepTexts_any w5 B lb a (unhide HIa).law (unhide HIa).hB o1 k1 _ _ B n _ (unhide HN) ((unhide HIa).row (List.mem_cons_of_mem _ (List.mem_cons_self ..)) (unhide HN)) h8 (by omega) (by omega))
 clear HI5
 go_wp2_with fail
 refine (unhide HKP).mono ?_
 clear HKP
 rintro e w6 hp6
 obtain ⟨rfl,a6,ws6,hI6,hwv6,hev6,hlen6,hwn6,hen6⟩:=(unhide HIa).kept (unhide HN) h8 (unhide HWV) (unhide HEV) hp6 (Nat.le_succ N) (by omega)
 have HIb:=hide (hI6.permX (List.Perm.swap _ _ _))
 have HWV6:=hide hwv6
 have HEV6:=hide hev6
 have HKP:=hide (keepTexts_any w6 B lb a6 (unhide HIb).law (unhide HIb).hB o2 k2 _ _ B n _ (unhide HN) ((unhide HIb).row (List.mem_cons_of_mem _ (List.mem_cons_self ..)) (unhide HN)) h8 (by omega) (by omega))
 clear hp6 hI6 hwv6 hev6 HIa
 go_wp2_with fail
 refine (unhide HKP).mono ?_
 clear HKP
 rintro e w7 hp7
 obtain ⟨rfl,a7,ws7,hI7,hwv7,hev7,hlen7, -, -⟩:=(unhide HIb).kept (unhide HN) h8 (unhide HWV6) (unhide HEV6) hp7 (Nat.le_refl (N+1)) (by omega)
 have HFIN:=hide (show LF B lb X w0 w7 (N+1) from ⟨a7,ds,bs,ws7,hI7.drop,hwv7,hev7⟩)
 clear hp7 hI7 hwv7 hev7 HIb
 go_wp2_with fail
 go_ret
 exact ⟨rfl,unhide HFIN⟩
theorem tells_any (B lb:Nat) (X:List Th) (w0 w:World) (N:Nat) (a:Lw) (ds:List Dd) (d:Dd) (hmem:d∈ds) (bs:List Bk) (ws:List Wt) (h:LI B lb X w0 w N a ds bs ws) (hwv:a.wv=ws.map Wt.l) (hev:a.ev=ws.map Wt.k) (hN:N≤10000000) (kd oa:Int) (hkd:kd=12∨kd=13∨kd=15) (os ot:ByteArray) (hos:os.size≤140737488355328) (l1:Option Addr) (l2 l3:Nat) (f1:Option Addr) (f2 f3:Nat) (m1:Option Addr) (m2 m3:Nat):
  Calls Tryz.prog 60 #[.pointer (some ⟨lb,0,none⟩),.agg #[.pointer (some ⟨d.db,0,none⟩),.pointer (some ⟨d.rd,0,none⟩)],.agg #[.int .i64 kd,.int .i64 oa,.string os,.string ot,.slice l1 l2 l3,.slice f1 f2 f3,.slice m1 m2 m3]] w fun e w'=>StQ B lb X w0 N w' e:=by
 rcases hkd with rfl|rfl|rfl
 ·cases hc:csAt d.cs os with
  |none=>exact tells_opt0 B lb X w0 w N a ds d hmem bs ws h hwv hev hN oa os ot hos l1 l2 l3 f1 f2 f3 m1 m2 m3 hc
  |some c=>exact tells_opt1 B lb X w0 w N a ds d hmem bs ws h hwv hev hN oa os ot hos l1 l2 l3 f1 f2 f3 m1 m2 m3 c hc
 ·cases hc:csAt d.cs os with
  |none=>exact tells_tell0 B lb X w0 w N a ds d hmem bs ws h hwv hev hN oa os ot hos l1 l2 l3 f1 f2 f3 m1 m2 m3 hc
  |some c=>exact tells_tell1 B lb X w0 w N a ds d hmem bs ws h hwv hev hN oa os ot hos l1 l2 l3 f1 f2 f3 m1 m2 m3 c hc
 ·exact tells_cases B lb X w0 w N a ds d hmem bs ws h hwv hev hN oa os ot hos l1 l2 l3 f1 f2 f3 m1 m2 m3
set_option maxHeartbeats 4000000 in
set_option maxRecDepth 100000 in
theorem step_open (B lb:Nat) (X:List Th) (w0 w:World) (N:Nat) (hF:LF B lb X w0 w N) (hG:GV w0) (hN:N≤10000000) (kd oa:Int) (hkd:kd=8∨kd=9) (os ot:ByteArray) (l1:Option Addr) (l2 l3:Nat) (f1:Option Addr) (f2 f3:Nat) (m1:Option Addr) (m2 m3:Nat):
  Calls Tryz.prog 36 #[.pointer (some ⟨lb,0,none⟩),.agg #[.int .i64 kd,.int .i64 oa,.string os,.string ot,.slice l1 l2 l3,.slice f1 f2 f3,.slice m1 m2 m3]] w fun e w'=>StQ B lb X w0 N w' e:=by
 have HF:=hide (hF.later ((Below.refl _ _).alloc (Nat.le_refl _) (.cells #[.int .i64 kd,.int .i64 oa,.string os,.string ot,.slice l1 l2 l3,.slice f1 f2 f3,.slice m1 m2 m3] 74)))
 have HG:=hide hG
 clear hF hG
 rcases hkd with rfl|rfl
 ·have HST:=hide (opened_any B lb X w0 _ N (unhide HF) (unhide HG) hN os)
  go_enter Tryz.func36,Tryz.ntmps36
  go_wp2_with fail
  refine (unhide HST).mono ?_
  rintro e w1 ⟨rfl,h1⟩
  have H1:=hide h1
  clear h1
  go_wp2_with fail
  go_ret
  exact ⟨rfl,unhide H1⟩
 ·have HBY:=hide (bytesOf_any os (w.alloc (.cells #[.int .i64 9,.int .i64 oa,.string os,.string ot,.slice l1 l2 l3,.slice f1 f2 f3,.slice m1 m2 m3] 74)))
  go_enter Tryz.func36,Tryz.ntmps36
  go_wp2_with fail
  refine (unhide HBY).mono ?_
  rintro e w1 ⟨⟨b,rfl⟩,hb⟩
  have HST:=hide (opened_any B lb X w0 w1 N ((unhide HF).later hb) (unhide HG) hN b)
  clear hb HBY
  go_wp2_with fail
  refine (unhide HST).mono ?_
  rintro e w2 ⟨rfl,h1⟩
  have H1:=hide h1
  clear h1
  go_wp2_with fail
  go_ret
  exact ⟨rfl,unhide H1⟩
theorem dd_split (ds:List Dd) {j:Nat} (hj:j<ds.length):ds=ds.take j++ds[j]::ds.drop (j+1):=by
 rw [List.getElem_cons_drop,List.take_append_drop]
theorem pair_at {w:World} {B:Nat} {dO:Option Addr} {dn dc:Nat} {l r:List Dd} {d:Dd} (h:w.ownsRow B 112 2 (.slice dO dn dc) dn (prC (l++d::r))):
  ∃g,dO=some ⟨g,0,none⟩∧g<w.heap.size∧w.cell? ⟨g,l.length * 2,none⟩=some (.pointer (some ⟨d.db,0,none⟩))∧w.cell? ⟨g,l.length * 2+1,none⟩=some (.pointer (some ⟨d.rd,0,none⟩)):=by
 have hlen:=h.1
 rw [prC_len,List.length_append,List.length_cons] at hlen
 obtain ⟨_,⟨h1,h2⟩|⟨g,cap,cur,hv,_,hrow,hle,_,hcs,htake⟩⟩:=h
 ·omega
 ·cases hv
  have key: ∀m v,(prC (l++d::r))[m]? =some v→w.cell? ⟨g,m,none⟩=some v:=fun m v hm=>by
   have hml:=(List.getElem?_eq_some_iff.1 hm).1
   rw [prC_len,List.length_append,List.length_cons] at hml
   rw [cell_of_blk hrow,←Array.getElem?_toList]
   rw [←htake,List.getElem?_take_of_lt (by omega)] at hm
   exact hm
  exact ⟨g,rfl,lt_of_blk hrow,key _ _ (prC_at l r d).1,key _ _ (prC_at l r d).2⟩
set_option maxHeartbeats 4000000 in
set_option maxRecDepth 100000 in
theorem step_desk (B lb:Nat) (X:List Th) (w0 w:World) (N:Nat) (hF:LF B lb X w0 w N) (hN:N≤10000000) (kd oa:Int) (h10:10≤kd) (h15:kd≤15) (ho0: -9223372036854775808≤oa) (ho1:oa≤9223372036854775807) (os ot:ByteArray) (hos:os.size≤140737488355328) (l1:Option Addr) (l2 l3:Nat) (f1:Option Addr) (f2 f3:Nat) (m1:Option Addr) (m2 m3:Nat):
  Calls Tryz.prog 36 #[.pointer (some ⟨lb,0,none⟩),.agg #[.int .i64 kd,.int .i64 oa,.string os,.string ot,.slice l1 l2 l3,.slice f1 f2 f3,.slice m1 m2 m3]] w fun e w'=>StQ B lb X w0 N w' e:=by
 obtain ⟨a,ds,bs,ws,h,hwv,hev⟩:=hF
 have hbW:Below w.heap.size w (w.alloc (.cells #[.int .i64 kd,.int .i64 oa,.string os,.string ot,.slice l1 l2 l3,.slice f1 f2 f3,.slice m1 m2 m3] 74)):=(Below.refl _ _).alloc (Nat.le_refl _) _
 have hI:=h.later hbW
 have HBO:=hide (blk_alloc w (.cells #[.int .i64 kd,.int .i64 oa,.string os,.string ot,.slice l1 l2 l3,.slice f1 f2 f3,.slice m1 m2 m3] 74))
 obtain ⟨dO,dn,dc,M,tO,tn,tc,wO,wn,wc,eO,en,ec,pv,bv,wv,ev⟩:=a
 have hdn:dn=ds.length:=hI.dn
 have hd7:dn≤10000000:=by have:=hI.nd;omega
 have c0:(w.alloc (.cells #[.int .i64 kd,.int .i64 oa,.string os,.string ot,.slice l1 l2 l3,.slice f1 f2 f3,.slice m1 m2 m3] 74)).cell? ⟨lb,0,none⟩=some (.slice dO dn dc):=(cell_of_blk hI.law.lw 0).trans rfl
 have hll:=lt_of_blk hI.law.lw
 have k1:(1:Int)≤kd:=by omega
 have k2:¬ kd≤3:=by omega
 have k3:(4:Int)≤kd:=by omega
 have k4:¬ kd≤7:=by omega
 have k5:¬ kd=8:=by omega
 have k6:¬ kd=9:=by omega
 have HI:=hide hI
 have HWV:=hide hwv
 have HEV:=hide hev
 have HDN:=hide hdn
 clear h hwv hev hbW hI hdn
 go_enter Tryz.func36,Tryz.ntmps36
 by_cases hz:dn=0
 ·have hzi:(dn:Int)=0:=by omega
  have HFIN:=hide (show LF B lb X w0 _ (N+1) from ⟨_,ds,bs,ws,(unhide HI).more (Nat.le_succ _),unhide HWV,unhide HEV⟩)
  subst hz
  clear HI
  go_wp2_with fail
  go_ret
  exact ⟨rfl,unhide HFIN⟩
 ·have hzi:¬ (dn:Int)=0:=by omega
  go_wp2_with fail
  generalize hW:w.alloc (.cells #[.int .i64 kd,.int .i64 oa,.string os,.string ot,.slice l1 l2 l3,.slice f1 f2 f3,.slice m1 m2 m3] 74)=W at *
  have ob:=cell_of_blk (unhide HBO) 1
  replace ob:W.cell? ⟨w.heap.size,1,none⟩=some (.int .i64 oa):=ob
  have ol:=lt_of_blk (unhide HBO)
  have HPK:=hide (fun W':World=>pickL_any W' oa dn ho0 ho1 (by omega) (by omega))
  clear hW
  refine wp_region_held_drew (S:=fun w'=>Below W.heap.size W w') (by kernel_rfl) ?_ (fun hHeld=> ?_)
  ·exact (Below.refl _ _).drew
  refine wpAnyH_take (i:=0) (v:= .pointer (some ⟨lb,0,none⟩)) rfl (by kernel_rfl) (by kernel_rfl) (by kernel_rfl) (fun _ _ _ h=>h) (Or.inl ⟨by kernel_rfl,fun w hw=>by have s0:=(bcell3 hw _ _ hll).trans c0;have s1:=(bcell3 hw _ _ ol).trans ob;have s2:=Nat.lt_of_lt_of_le hll hw.size;have s3:=Nat.lt_of_lt_of_le ol hw.size;go_simp⟩) hHeld ?_
  try simp only [Act.put,List.setIfInBounds_toArray,List.set_cons_zero,List.set_cons_succ,List.getElem_toArray,List.getElem_cons_succ,List.getElem_cons_zero]
  refine wpAnyH_take (i:=1) (v:= .pointer (some ⟨lb,0,none⟩)) rfl (by kernel_rfl) (by kernel_rfl) (by kernel_rfl) (fun _ _ _ h=>h) (Or.inl ⟨by kernel_rfl,fun w hw=>by have s0:=(bcell3 hw _ _ hll).trans c0;have s1:=(bcell3 hw _ _ ol).trans ob;have s2:=Nat.lt_of_lt_of_le hll hw.size;have s3:=Nat.lt_of_lt_of_le ol hw.size;go_simp⟩) hHeld ?_
  try simp only [Act.put,List.setIfInBounds_toArray,List.set_cons_zero,List.set_cons_succ,List.getElem_toArray,List.getElem_cons_succ,List.getElem_cons_zero]
  refine wpAnyH_take (i:=2) (v:= .pointer (some ⟨lb,0,none⟩)) rfl (by kernel_rfl) (by kernel_rfl) (by kernel_rfl) (fun _ _ _ h=>h) (Or.inl ⟨by kernel_rfl,fun w hw=>by have s0:=(bcell3 hw _ _ hll).trans c0;have s1:=(bcell3 hw _ _ ol).trans ob;have s2:=Nat.lt_of_lt_of_le hll hw.size;have s3:=Nat.lt_of_lt_of_le ol hw.size;go_simp⟩) hHeld ?_
  try simp only [Act.put,List.setIfInBounds_toArray,List.set_cons_zero,List.set_cons_succ,List.getElem_toArray,List.getElem_cons_succ,List.getElem_cons_zero]
  refine wpAnyH_take (i:=3) (v:= .slice dO dn dc) rfl (by kernel_rfl) (by kernel_rfl) (by kernel_rfl) (fun _ _ _ h=>h) (Or.inl ⟨by kernel_rfl,fun w hw=>by have s0:=(bcell3 hw _ _ hll).trans c0;have s1:=(bcell3 hw _ _ ol).trans ob;have s2:=Nat.lt_of_lt_of_le hll hw.size;have s3:=Nat.lt_of_lt_of_le ol hw.size;go_simp⟩) hHeld ?_
  try simp only [Act.put,List.setIfInBounds_toArray,List.set_cons_zero,List.set_cons_succ,List.getElem_toArray,List.getElem_cons_succ,List.getElem_cons_zero]
  refine wpAnyH_take (i:=4) (v:= .pointer (some ⟨w.heap.size,1,none⟩)) rfl (by kernel_rfl) (by kernel_rfl) (by kernel_rfl) (fun _ _ _ h=>h) (Or.inl ⟨by kernel_rfl,fun w hw=>by have s0:=(bcell3 hw _ _ hll).trans c0;have s1:=(bcell3 hw _ _ ol).trans ob;have s2:=Nat.lt_of_lt_of_le hll hw.size;have s3:=Nat.lt_of_lt_of_le ol hw.size;go_simp⟩) hHeld ?_
  try simp only [Act.put,List.setIfInBounds_toArray,List.set_cons_zero,List.set_cons_succ,List.getElem_toArray,List.getElem_cons_succ,List.getElem_cons_zero]
  refine wpAnyH_take (i:=5) (v:= .int .i64 oa) rfl (by kernel_rfl) (by kernel_rfl) (by kernel_rfl) (fun _ _ _ h=>h) (Or.inl ⟨by kernel_rfl,fun w hw=>by have s0:=(bcell3 hw _ _ hll).trans c0;have s1:=(bcell3 hw _ _ ol).trans ob;have s2:=Nat.lt_of_lt_of_le hll hw.size;have s3:=Nat.lt_of_lt_of_le ol hw.size;go_simp⟩) hHeld ?_
  try simp only [Act.put,List.setIfInBounds_toArray,List.set_cons_zero,List.set_cons_succ,List.getElem_toArray,List.getElem_cons_succ,List.getElem_cons_zero]
  refine wpAnyH_take (i:=6) (v:= .pointer (some ⟨lb,0,none⟩)) rfl (by kernel_rfl) (by kernel_rfl) (by kernel_rfl) (fun _ _ _ h=>h) (Or.inl ⟨by kernel_rfl,fun w hw=>by have s0:=(bcell3 hw _ _ hll).trans c0;have s1:=(bcell3 hw _ _ ol).trans ob;have s2:=Nat.lt_of_lt_of_le hll hw.size;have s3:=Nat.lt_of_lt_of_le ol hw.size;go_simp⟩) hHeld ?_
  try simp only [Act.put,List.setIfInBounds_toArray,List.set_cons_zero,List.set_cons_succ,List.getElem_toArray,List.getElem_cons_succ,List.getElem_cons_zero]
  refine wpAnyH_take (i:=7) (v:= .pointer (some ⟨lb,0,none⟩)) rfl (by kernel_rfl) (by kernel_rfl) (by kernel_rfl) (fun _ _ _ h=>h) (Or.inl ⟨by kernel_rfl,fun w hw=>by have s0:=(bcell3 hw _ _ hll).trans c0;have s1:=(bcell3 hw _ _ ol).trans ob;have s2:=Nat.lt_of_lt_of_le hll hw.size;have s3:=Nat.lt_of_lt_of_le ol hw.size;go_simp⟩) hHeld ?_
  try simp only [Act.put,List.setIfInBounds_toArray,List.set_cons_zero,List.set_cons_succ,List.getElem_toArray,List.getElem_cons_succ,List.getElem_cons_zero]
  refine wpAnyH_take (i:=8) (v:= .pointer (some ⟨lb,0,none⟩)) rfl (by kernel_rfl) (by kernel_rfl) (by kernel_rfl) (fun _ _ _ h=>h) (Or.inl ⟨by kernel_rfl,fun w hw=>by have s0:=(bcell3 hw _ _ hll).trans c0;have s1:=(bcell3 hw _ _ ol).trans ob;have s2:=Nat.lt_of_lt_of_le hll hw.size;have s3:=Nat.lt_of_lt_of_le ol hw.size;go_simp⟩) hHeld ?_
  try simp only [Act.put,List.setIfInBounds_toArray,List.set_cons_zero,List.set_cons_succ,List.getElem_toArray,List.getElem_cons_succ,List.getElem_cons_zero]
  refine wpAnyH_take (i:=9) (v:= .slice dO dn dc) rfl (by kernel_rfl) (by kernel_rfl) (by kernel_rfl) (fun _ _ _ h=>h) (Or.inl ⟨by kernel_rfl,fun w hw=>by have s0:=(bcell3 hw _ _ hll).trans c0;have s1:=(bcell3 hw _ _ ol).trans ob;have s2:=Nat.lt_of_lt_of_le hll hw.size;have s3:=Nat.lt_of_lt_of_le ol hw.size;go_simp⟩) hHeld ?_
  try simp only [Act.put,List.setIfInBounds_toArray,List.set_cons_zero,List.set_cons_succ,List.getElem_toArray,List.getElem_cons_succ,List.getElem_cons_zero]
  refine wpAnyH_take (i:=10) (v:= .int .i64 (dn:Int)) rfl (by kernel_rfl) (by kernel_rfl) (by kernel_rfl) (fun _ _ _ h=>h) (Or.inl ⟨by kernel_rfl,fun w hw=>by have s0:=(bcell3 hw _ _ hll).trans c0;have s1:=(bcell3 hw _ _ ol).trans ob;have s2:=Nat.lt_of_lt_of_le hll hw.size;have s3:=Nat.lt_of_lt_of_le ol hw.size;go_simp⟩) hHeld ?_
  try simp only [Act.put,List.setIfInBounds_toArray,List.set_cons_zero,List.set_cons_succ,List.getElem_toArray,List.getElem_cons_succ,List.getElem_cons_zero]
  refine wpAnyH_ready (rs:=[11,14]) (by kernel_rfl) (by simp) ?_
  refine AllReadyH.cons rfl (fun K hK=> ?ra) (AllReadyH.cons rfl (fun K hK=> ?rb) AllReadyH.nil)
  case' ra=>(go_simp;refine (unhide HPK _).mono ?_;rintro e w5 ⟨⟨j,hj,rfl⟩,hw5⟩;have h5:=hw5.symm;clear hw5;subst h5;obtain ⟨d,hd⟩: ∃d,d=ds[j]'(by have:=unhide HDN;omega):=⟨_,rfl⟩;have hsp:=dd_split ds (j:=j) (by have:=unhide HDN;omega);rw [←hd] at hsp;have hjl:(ds.take j).length=j:=(by rw [List.length_take];have:=unhide HDN;omega);obtain ⟨g,hg1,hg2,hg3,hg4⟩:=pair_at (l:=ds.take j) (d:=d) (r:=ds.drop (j+1)) (by rw [←hsp,←(unhide HI).pv];exact (unhide HI).law.dk);replace hg1:dO=_:=hg1;subst hg1;rw [hjl] at hg3 hg4;have HSP:=hide hsp;have HJL:=hide hjl;clear hsp hjl hd;have hji:(j:Int)<(dn:Int):=(by omega);refine hK.out _ _ hHeld (fun hHeld=> ?_);clear hK K;refine wpAnyH_take (i:=12) (v:= .pointer (some ⟨g,j * 2,none⟩)) rfl (by kernel_rfl) (by kernel_rfl) (by kernel_rfl) (fun _ _ _ h=>h) (Or.inl ⟨by kernel_rfl,fun w hw=>by have s0:=(bcell3 hw _ _ hll).trans c0;have s1:=(bcell3 hw _ _ ol).trans ob;have s2:=Nat.lt_of_lt_of_le hll hw.size;have s3:=Nat.lt_of_lt_of_le ol hw.size;have s4:=(bcell3 hw _ _ hg2).trans hg3;have s5:=(bcell3 hw _ _ hg2).trans hg4;have s6:=Nat.lt_of_lt_of_le hg2 hw.size;go_simp⟩) hHeld ?_;try simp only [Act.put,List.setIfInBounds_toArray,List.set_cons_zero,List.set_cons_succ,List.getElem_toArray,List.getElem_cons_succ,List.getElem_cons_zero];refine wpAnyH_take (i:=13) (v:= .agg #[.pointer (some ⟨d.db,0,none⟩),.pointer (some ⟨d.rd,0,none⟩)]) rfl (by kernel_rfl) (by kernel_rfl) (by kernel_rfl) (fun _ _ _ h=>h) (Or.inl ⟨by kernel_rfl,fun w hw=>by have s0:=(bcell3 hw _ _ hll).trans c0;have s1:=(bcell3 hw _ _ ol).trans ob;have s2:=Nat.lt_of_lt_of_le hll hw.size;have s3:=Nat.lt_of_lt_of_le ol hw.size;have s4:=(bcell3 hw _ _ hg2).trans hg3;have s5:=(bcell3 hw _ _ hg2).trans hg4;have s6:=Nat.lt_of_lt_of_le hg2 hw.size;go_simp⟩) hHeld ?_;try simp only [Act.put,List.setIfInBounds_toArray,List.set_cons_zero,List.set_cons_succ,List.getElem_toArray,List.getElem_cons_succ,List.getElem_cons_zero];refine wpAnyH_ready (rs:=[14]) (by kernel_rfl) (by simp) ?_;refine AllReadyH.cons rfl (fun K hK=> ?_) AllReadyH.nil;go_simp;refine hK.out _ _ (((Below.refl _ _).drew).alloc (Nat.le_refl _) _) (fun hHeld=> ?_);clear hK K)
  case' rb=>(go_simp;refine hK.out _ _ (((Below.refl _ _).drew).alloc (Nat.le_refl _) _) (fun hHeld=> ?_);clear hK K;refine wpAnyH_ready (rs:=[11]) (by kernel_rfl) (by simp) ?_;refine AllReadyH.cons rfl (fun K hK=> ?_) AllReadyH.nil;go_simp;refine (unhide HPK _).mono ?_;rintro e w5 ⟨⟨j,hj,rfl⟩,hw5⟩;have h5:=hw5.symm;clear hw5;subst h5;obtain ⟨d,hd⟩: ∃d,d=ds[j]'(by have:=unhide HDN;omega):=⟨_,rfl⟩;have hsp:=dd_split ds (j:=j) (by have:=unhide HDN;omega);rw [←hd] at hsp;have hjl:(ds.take j).length=j:=(by rw [List.length_take];have:=unhide HDN;omega);obtain ⟨g,hg1,hg2,hg3,hg4⟩:=pair_at (l:=ds.take j) (d:=d) (r:=ds.drop (j+1)) (by rw [←hsp,←(unhide HI).pv];exact (unhide HI).law.dk);replace hg1:dO=_:=hg1;subst hg1;rw [hjl] at hg3 hg4;have HSP:=hide hsp;have HJL:=hide hjl;clear hsp hjl hd;have hji:(j:Int)<(dn:Int):=(by omega);refine hK.out _ _ hHeld (fun hHeld=> ?_);clear hK K;refine wpAnyH_take (i:=12) (v:= .pointer (some ⟨g,j * 2,none⟩)) rfl (by kernel_rfl) (by kernel_rfl) (by kernel_rfl) (fun _ _ _ h=>h) (Or.inl ⟨by kernel_rfl,fun w hw=>by have s0:=(bcell3 hw _ _ hll).trans c0;have s1:=(bcell3 hw _ _ ol).trans ob;have s2:=Nat.lt_of_lt_of_le hll hw.size;have s3:=Nat.lt_of_lt_of_le ol hw.size;have s4:=(bcell3 hw _ _ hg2).trans hg3;have s5:=(bcell3 hw _ _ hg2).trans hg4;have s6:=Nat.lt_of_lt_of_le hg2 hw.size;go_simp⟩) hHeld ?_;try simp only [Act.put,List.setIfInBounds_toArray,List.set_cons_zero,List.set_cons_succ,List.getElem_toArray,List.getElem_cons_succ,List.getElem_cons_zero];refine wpAnyH_take (i:=13) (v:= .agg #[.pointer (some ⟨d.db,0,none⟩),.pointer (some ⟨d.rd,0,none⟩)]) rfl (by kernel_rfl) (by kernel_rfl) (by kernel_rfl) (fun _ _ _ h=>h) (Or.inl ⟨by kernel_rfl,fun w hw=>by have s0:=(bcell3 hw _ _ hll).trans c0;have s1:=(bcell3 hw _ _ ol).trans ob;have s2:=Nat.lt_of_lt_of_le hll hw.size;have s3:=Nat.lt_of_lt_of_le ol hw.size;have s4:=(bcell3 hw _ _ hg2).trans hg3;have s5:=(bcell3 hw _ _ hg2).trans hg4;have s6:=Nat.lt_of_lt_of_le hg2 hw.size;go_simp⟩) hHeld ?_;try simp only [Act.put,List.setIfInBounds_toArray,List.set_cons_zero,List.set_cons_succ,List.getElem_toArray,List.getElem_cons_succ,List.getElem_cons_zero])
  all_goals (
   refine wpAnyH_ready (rs:=[15]) (by kernel_rfl) (by simp) ?_
   refine AllReadyH.cons rfl (fun K hK=> ?_) AllReadyH.nil
   go_simp
   refine hK.out _ _ (by first|exact ((Below.refl _ _).alloc (Nat.le_refl _) _).drew|exact ((Below.refl _ _).drew).alloc (Nat.le_refl _) _) (fun hHeld=> ?_)
   clear hK K
   refine wpAnyH_done (by kernel_rfl) ?_ _
   have hpb:((W.alloc (.cells #[.pointer (some ⟨d.db,0,none⟩),.pointer (some ⟨d.rd,0,none⟩)] 112)).drew).heap[W.heap.size]? =some (.cells #[.pointer (some ⟨d.db,0,none⟩),.pointer (some ⟨d.rd,0,none⟩)] 112 (0,0)):=blk_alloc W _
   generalize (W.alloc (.cells #[.pointer (some ⟨d.db,0,none⟩),.pointer (some ⟨d.rd,0,none⟩)] 112)).drew=WZ at *
   have hob:=(hHeld.block _ ol).trans (unhide HBO)
   have pc:=fun o=>cell_of_blk hpb o
   have oc:=fun o=>cell_of_blk hob o
   have pl:=lt_of_blk hpb
   have olz:=lt_of_blk hob
   have hI:=(unhide HI).later hHeld
   obtain ⟨l,r,hlr⟩: ∃l r,ds=l++d::r:=⟨_,_,unhide HSP⟩
   rw [hlr] at hI
   have HIZ:=hide hI
   have hk6:kd=10∨kd=11∨kd=14∨kd=12∨kd=13∨kd=15:=by omega
   clear hHeld hpb hob hI hlr HI c0 hll ob ol HPK hg2 hg3 hg4 HSP HJL HBO k1 k2 k3 k4 k5 k6
   rcases hk6 with rfl|rfl|rfl|rfl|rfl|rfl
   ·have HST:=hide (goes_any B lb X w0 WZ N _ l r d bs ws (unhide HIZ) hN 10 oa (by omega) os ot hos l1 l2 l3 f1 f2 f3 m1 m2 m3)
    go_wp2_with fail
    refine (unhide HST).mono ?_
    rintro e w9 ⟨rfl,d',hI9⟩
    have HFIN:=hide (show LF B lb X w0 w9 (N+1) from ⟨_,_,bs,ws,hI9,unhide HWV,unhide HEV⟩)
    clear hI9
    go_wp2_with fail
    go_ret
    exact ⟨rfl,unhide HFIN⟩
   ·have HST:=hide (goes_any B lb X w0 WZ N _ l r d bs ws (unhide HIZ) hN 11 oa (by omega) os ot hos l1 l2 l3 f1 f2 f3 m1 m2 m3)
    go_wp2_with fail
    refine (unhide HST).mono ?_
    rintro e w9 ⟨rfl,d',hI9⟩
    have HFIN:=hide (show LF B lb X w0 w9 (N+1) from ⟨_,_,bs,ws,hI9,unhide HWV,unhide HEV⟩)
    clear hI9
    go_wp2_with fail
    go_ret
    exact ⟨rfl,unhide HFIN⟩
   ·have HST:=hide (goes_any B lb X w0 WZ N _ l r d bs ws (unhide HIZ) hN 14 oa (by omega) os ot hos l1 l2 l3 f1 f2 f3 m1 m2 m3)
    go_wp2_with fail
    refine (unhide HST).mono ?_
    rintro e w9 ⟨rfl,d',hI9⟩
    have HFIN:=hide (show LF B lb X w0 w9 (N+1) from ⟨_,_,bs,ws,hI9,unhide HWV,unhide HEV⟩)
    clear hI9
    go_wp2_with fail
    go_ret
    exact ⟨rfl,unhide HFIN⟩
   ·have HST:=hide (tells_any B lb X w0 WZ N _ _ d (List.mem_append_right _ (List.mem_cons_self ..)) bs ws (unhide HIZ) (unhide HWV) (unhide HEV) hN 12 oa (by omega) os ot hos l1 l2 l3 f1 f2 f3 m1 m2 m3)
    go_wp2_with fail
    refine (unhide HST).mono ?_
    rintro e w9 ⟨rfl,hI9⟩
    have HFIN:=hide hI9
    clear hI9
    go_wp2_with fail
    go_ret
    exact ⟨rfl,unhide HFIN⟩
   ·have HST:=hide (tells_any B lb X w0 WZ N _ _ d (List.mem_append_right _ (List.mem_cons_self ..)) bs ws (unhide HIZ) (unhide HWV) (unhide HEV) hN 13 oa (by omega) os ot hos l1 l2 l3 f1 f2 f3 m1 m2 m3)
    go_wp2_with fail
    refine (unhide HST).mono ?_
    rintro e w9 ⟨rfl,hI9⟩
    have HFIN:=hide hI9
    clear hI9
    go_wp2_with fail
    go_ret
    exact ⟨rfl,unhide HFIN⟩
   ·have HST:=hide (tells_any B lb X w0 WZ N _ _ d (List.mem_append_right _ (List.mem_cons_self ..)) bs ws (unhide HIZ) (unhide HWV) (unhide HEV) hN 15 oa (by omega) os ot hos l1 l2 l3 f1 f2 f3 m1 m2 m3)
    go_wp2_with fail
    refine (unhide HST).mono ?_
    rintro e w9 ⟨rfl,hI9⟩
    have HFIN:=hide hI9
    clear hI9
    go_wp2_with fail
    go_ret
    exact ⟨rfl,unhide HFIN⟩)
end Go.Proofs.YtidakhhekofkoaaGreatDoor
namespace Go.Proofs.YtidakhhekofkoaaGreatDoor
open Go.RowKit Go.Deep Go.Sort
theorem LI.bkAt {B lb:Nat} {X:List Th} {w0 w:World} {N:Nat} {a:Lw} {ds:List Dd} {bs:List Bk} {ws:List Wt} (h:LI B lb X w0 w N a ds bs ws) {i:Nat} {b:Bk} (hb:bs[i]? =some b):
  ∃g,a.tO=some ⟨g,0,none⟩∧g<w.heap.size∧w.cell? ⟨g,i * 5,none⟩=some (.string b.mr)∧w.cell? ⟨g,i * 5+1,none⟩=some b.l∧w.cell? ⟨g,i * 5+2,none⟩=some b.g1∧w.cell? ⟨g,i * 5+3,none⟩=some b.g2∧w.cell? ⟨g,i * 5+4,none⟩=some b.g3:=by
 have hi:i<a.tn:=by
  rw [h.tn]
  exact (List.getElem?_eq_some_iff.1 hb).1
 obtain ⟨_,⟨h1,h2⟩|⟨g,cap,cur,hv,_,hrow,hle,_,hcs,htake⟩⟩:=h.law.tx
 ·omega
 ·injection hv with hv1 hv2 hv3
  rw [h.bv] at htake
  have key: ∀m,m<5→w.cell? ⟨g,i * 5+m,none⟩=(bkC b)[m]? :=by
   intro m hm
   rw [cell_of_blk hrow,←Array.getElem?_toList,←bksC_at hb m hm,←htake,List.getElem?_take,if_pos (by omega)]
  exact ⟨g,hv1,lt_of_blk hrow,key 0 (by omega),key 1 (by omega),key 2 (by omega),key 3 (by omega),key 4 (by omega)⟩
set_option maxHeartbeats 400000 in
set_option maxRecDepth 100000 in
theorem looks_any (B lb:Nat) (X:List Th) (w0 w:World) (N:Nat) (hF:LF B lb X w0 w N) (hN:N≤10000000):
  Calls Tryz.prog 38 #[.pointer (some ⟨lb,0,none⟩)] w fun e w'=>e= .returned (.bool true)∧Below w.heap.size w w':=by
 obtain ⟨a,ds,bs,ws,hI, -, -⟩:=hF
 obtain ⟨dO,dn,dc,M,tO,tn,tc,wO,wn,wc,eO,en,ec,pv,bv,wv,ev⟩:=a
 have hlen:bs.length=tn:=hI.tn.symm
 have htn:tn≤10000000000000:=by have:=hI.nb;omega
 have HI:=hide hI
 clear hI
 go_enter Tryz.func38,Tryz.ntmps38
 go_wp2_with fail
 go_loopw [3] (fun v wr=> ∃i:Nat,i≤tn∧v= .int .i64 i∧Hid (Below w.heap.size w wr)) (fun v _=>tn - (intOf v).toNat)
 case atStart=>exact ⟨0,Nat.zero_le _,rfl,Below.refl _ _⟩
 case round=>
  obtain ⟨i,hi,rfl,HB⟩:=hrel
  have HIr:=hide ((unhide HI).later (unhide HB))
  have lc:=fun o=>cell_of_blk (unhide HIr).law.lw o
  have hll:=lt_of_blk (unhide HIr).law.lw
  by_cases hlt:i<tn
  ·have hin:(i:Int)<(tn:Int):=by omega
   have hbi:bs[i]? =some bs[i]:=List.getElem?_eq_getElem (by omega)
   obtain ⟨g,hto,hg,c0,c1,c2,c3,c4⟩:=(unhide HIr).bkAt hbi
   have HOK:=hide (((unhide HIr).book (List.getElem_mem (l:=bs) (n:=i) (by omega))).later ((Below.refl wr.heap.size wr).alloc (Nat.le_refl _) (.cells #[.string bs[i].mr,bs[i].l,bs[i].g1,bs[i].g2,bs[i].g3] 118)))
   have HB2:=hide ((unhide HB).alloc (unhide HB).size (.cells #[.string bs[i].mr,bs[i].l,bs[i].g1,bs[i].g2,bs[i].g3] 118))
   replace hto:tO=_:=hto
   subst hto
   clear hbi
   generalize bs[i]=b at *
   obtain ⟨bm,bl,bg1,bg2,bg3⟩:=b
   obtain ⟨o1,n1,k1,e1,_,_⟩:=id (unhide HOK).l
   obtain ⟨o2,n2,k2,e2,_,_⟩:=id (unhide HOK).g1
   obtain ⟨o3,n3,k3,e3,_,_⟩:=id (unhide HOK).g2
   obtain ⟨o4,n4,k4,e4,_,_⟩:=id (unhide HOK).g3
   replace e1:bl=_:=e1
   replace e2:bg1=_:=e2
   replace e3:bg2=_:=e3
   replace e4:bg3=_:=e4
   subst e1 e2 e3 e4
   replace c0:wr.cell? ⟨g,i * 5,none⟩=some (.string bm):=c0
   replace c1:wr.cell? ⟨g,i * 5+1,none⟩=some (.slice o1 n1 k1):=c1
   replace c2:wr.cell? ⟨g,i * 5+2,none⟩=some (.slice o2 n2 k2):=c2
   replace c3:wr.cell? ⟨g,i * 5+3,none⟩=some (.slice o3 n3 k3):=c3
   replace c4:wr.cell? ⟨g,i * 5+4,none⟩=some (.slice o4 n4 k4):=c4
   have M1:AllM (wr.alloc (.cells #[.string bm,.slice o1 n1 k1,.slice o2 n2 k2,.slice o3 n3 k3,.slice o4 n4 k4] 118)) (.slice o1 n1 k1) (.string bm) 9:=(unhide HOK).l
   have A1:=hide (allTexts_any (wr.alloc (.cells #[.string bm,.slice o1 n1 k1,.slice o2 n2 k2,.slice o3 n3 k3,.slice o4 n4 k4] 118)) (.slice o1 n1 k1) bm M1)
   clear M1
   have M2:AllM (wr.alloc (.cells #[.string bm,.slice o1 n1 k1,.slice o2 n2 k2,.slice o3 n3 k3,.slice o4 n4 k4] 118)) (.slice o2 n2 k2) (.string bm) 9:=(unhide HOK).g1
   have A2:=hide (allTexts_any (wr.alloc (.cells #[.string bm,.slice o1 n1 k1,.slice o2 n2 k2,.slice o3 n3 k3,.slice o4 n4 k4] 118)) (.slice o2 n2 k2) bm M2)
   clear M2
   have M3:AllM (wr.alloc (.cells #[.string bm,.slice o1 n1 k1,.slice o2 n2 k2,.slice o3 n3 k3,.slice o4 n4 k4] 118)) (.slice o3 n3 k3) (.string bm) 9:=(unhide HOK).g2
   have A3:=hide (allTexts_any (wr.alloc (.cells #[.string bm,.slice o1 n1 k1,.slice o2 n2 k2,.slice o3 n3 k3,.slice o4 n4 k4] 118)) (.slice o3 n3 k3) bm M3)
   clear M3
   have M4:AllM (wr.alloc (.cells #[.string bm,.slice o1 n1 k1,.slice o2 n2 k2,.slice o3 n3 k3,.slice o4 n4 k4] 118)) (.slice o4 n4 k4) (.string bm) 9:=(unhide HOK).g3
   have A4:=hide (allTexts_any (wr.alloc (.cells #[.string bm,.slice o1 n1 k1,.slice o2 n2 k2,.slice o3 n3 k3,.slice o4 n4 k4] 118)) (.slice o4 n4 k4) bm M4)
   clear M4
   have hbb:=blk_alloc wr (.cells #[.string bm,.slice o1 n1 k1,.slice o2 n2 k2,.slice o3 n3 k3,.slice o4 n4 k4] 118)
   have HBB:=hide hbb
   have HB3:Hid (Below w.heap.size w (wr.alloc (.cells #[.string bm,.slice o1 n1 k1,.slice o2 n2 k2,.slice o3 n3 k3,.slice o4 n4 k4] 118))):=HB2
   clear hbb HOK HB2
   go_wp2_with fail
   refine (unhide A1).mono ?_
   rintro e w5 ⟨rfl,hw5⟩
   have h5:=hw5.symm
   clear hw5
   subst h5
   generalize (wr.alloc (.cells #[.string bm,.slice o1 n1 k1,.slice o2 n2 k2,.slice o3 n3 k3,.slice o4 n4 k4] 118))=W at *
   have bc:=fun o=>cell_of_blk (unhide HBB) o
   have hbl:=lt_of_blk (unhide HBB)
   clear A1 lc c0 c1 c2 c3 c4
   go_wp2_with fail
   refine (unhide A2).mono ?_
   rintro e w5 ⟨rfl,hw5⟩
   have h5:=hw5.symm
   clear hw5
   subst h5
   go_wp2_with fail
   refine (unhide A3).mono ?_
   rintro e w5 ⟨rfl,hw5⟩
   have h5:=hw5.symm
   clear hw5
   subst h5
   go_wp2_with fail
   refine (unhide A4).mono ?_
   rintro e w5 ⟨rfl,hw5⟩
   have h5:=hw5.symm
   clear hw5
   subst h5
   go_wp2_with fail
   go_roundw
   case rel=>exact ⟨i+1,by omega,by go_num,HB3⟩
   case measure=>simp [intOf];omega
  ·have hin:¬ (i:Int)<(tn:Int):=by omega
   go_wp2_with fail
   go_loopw [9] (fun v w2=>v= .int .i64 0∧wr=w2) (fun _ _=>0)
   case atStart=>exact ⟨rfl,rfl⟩
   case round=>
    obtain ⟨rfl,hw⟩:=hrel
    subst hw
    go_wp2_with fail
    go_loopw [15] (fun v w2=>v= .int .i64 0∧wr=w2) (fun _ _=>0)
    case atStart=>exact ⟨rfl,rfl⟩
    case round=>
     obtain ⟨rfl,hw⟩:=hrel
     subst hw
     go_wp2_with fail
     go_ret
     exact ⟨rfl,unhide HB⟩
theorem LI.rest {B lb:Nat} {X:List Th} {w0 w:World} {N:Nat} {dO:Option Addr} {dn dc M:Nat} {tO:Option Addr} {tn tc:Nat} {wO:Option Addr} {wn wc:Nat} {eO:Option Addr} {en ec:Nat} {pv bv wv ev:List Value} {ds:List Dd} {bs:List Bk} (h:LI B lb X w0 w N ⟨dO,dn,dc,M,tO,tn,tc,wO,wn,wc,eO,en,ec,pv,bv,wv,ev⟩ ds bs []):
  LF B lb X w0 ((((w.setCell ⟨lb,5,none⟩ (.slice none 0 0)).setCell ⟨lb,6,none⟩ (.slice none 0 0)).setCell ⟨lb,7,none⟩ (.slice none 0 0)).setCell ⟨lb,8,none⟩ (.slice none 0 0)) N:=by
 have hg:w.grownBy ((((w.setCell ⟨lb,5,none⟩ (.slice none 0 0)).setCell ⟨lb,6,none⟩ (.slice none 0 0)).setCell ⟨lb,7,none⟩ (.slice none 0 0)).setCell ⟨lb,8,none⟩ (.slice none 0 0)) (some lb):=(((grown_set _ _ _ _).trans (grown_set _ _ _ _)).trans (grown_set _ _ _ _)).trans (grown_set _ _ _ _)
 have hP:=h.law
 refine ⟨⟨dO,dn,dc,M,tO,tn,tc,none,0,0,none,0,0,pv,bv,[],[]⟩,ds,bs,[],LI.turn h (FrD.grown hg (Or.inl rfl)) ⟨blk_set (blk_set (blk_set (blk_set hP.lw 5 _) 6 _) 7 _) 8 _,owns_keep hP.dk hg (Or.inr (fun e=>own_ty hP.dk e hP.lw (by decide))),owns_keep hP.tx hg (Or.inr (fun e=>own_ty hP.tx e hP.lw (by decide))),World.ownsRow_nil _ _ _ _,World.ownsRow_nil _ _ _ _,fun k hk=>by cases hk⟩ (fun k hk=> ?_) rfl rfl h.M,rfl,rfl⟩
 rcases hk with e|e|e|e|e
 ·exact Or.inl (Or.inl e)
 ·exact Or.inl (Or.inr (Or.inl e))
 ·exact Or.inl (Or.inr (Or.inr (Or.inl e)))
 ·cases e
 ·cases e
set_option maxHeartbeats 4000000 in
set_option maxRecDepth 100000 in
theorem settle_any (B lb:Nat) (X:List Th) (w0 w:World) (N:Nat) (hF:LF B lb X w0 w N) (hT:Lib.TabIs Tryz.prog w0 "internal/strconv.uint64pow10" .u64 Lib.pow10Tab) (hlbg:lb≠4) (hN:N≤10000000):
  Calls Tryz.prog 37 #[.pointer (some ⟨lb,0,none⟩)] w fun e w'=>e= .returned (.bool true)∧LF B lb X w0 w' N:=by
 obtain ⟨a,ds,bs,ws,h,hwv,hev⟩:=hF
 obtain ⟨hwn,hen⟩:=h.wlen hwv hev
 obtain ⟨dO,dn,dc,M,tO,tn,tc,wO,wn,wc,eO,en,ec,pv,bv,wv,ev⟩:=a
 replace hwn:wn=ws.length:=hwn
 replace hen:en=ws.length:=hen
 have hee:en=wn:=by omega
 subst hee
 replace hwv:wv=ws.map Wt.l:=hwv
 replace hev:ev=ws.map Wt.k:=hev
 have hn2:en≤20000000:=by have:=h.nb;omega
 have HI:=hide h
 have HWV:=hide hwv
 have HEV:=hide hev
 have HLN:=hide hwn
 have HT:=hide hT
 clear h hwv hev hwn hen hT
 go_enter Tryz.func37,Tryz.ntmps37
 go_wp2_with fail
 go_loopw [3,4] (fun o v wr=> ∃i:Nat,i≤en∧o= .bool true∧v= .int .i64 i∧Hid (Below w.heap.size w wr)) (fun _ v _=>en - (intOf v).toNat)
 case atStart=>exact ⟨0,Nat.zero_le _,rfl,rfl,Below.refl _ _⟩
 case round=>
  obtain ⟨i,hi,rfl,rfl,HB⟩:=hrel
  have HIr:=hide ((unhide HI).later (unhide HB))
  have c5:wr.cell? ⟨lb,5,none⟩=some (.slice wO en wc):=(cell_of_blk (unhide HIr).law.lw 5).trans rfl
  have c6:wr.cell? ⟨lb,6,none⟩=some (.slice eO en ec):=(cell_of_blk (unhide HIr).law.lw 6).trans rfl
  have hll:=lt_of_blk (unhide HIr).law.lw
  by_cases hlt:i<en
  ·have hin:(i:Int)<(en:Int):=by omega
   have hiw:i<ws.length:=by rw [←unhide HLN];exact hlt
   obtain ⟨g,hg1,hg2,hg3⟩:=owns1_at (unhide HIr).law.wt hlt
   obtain ⟨q,hq1,hq2,hq3⟩:=owns1_at (unhide HIr).law.et hlt
   replace hg1:wO=_:=hg1
   replace hq1:eO=_:=hq1
   subst hg1
   subst hq1
   have hx:=(unhide HIr).wait (List.getElem_mem hiw)
   replace hg3:wr.cell? ⟨g,i,none⟩=some (ws[i]).l:=hg3.trans (by show wv[i]? =_;rw [unhide HWV,List.getElem?_map,List.getElem?_eq_getElem hiw];rfl)
   replace hq3:wr.cell? ⟨q,i,none⟩=some (ws[i]).k:=hq3.trans (by show ev[i]? =_;rw [unhide HEV,List.getElem?_map,List.getElem?_eq_getElem hiw];rfl)
   generalize ws[i]=x at *
   obtain ⟨L,xo,xc,ko,kc⟩:=x
   obtain ⟨m,hm⟩: ∃m,m=L.length:=⟨_,rfl⟩
   replace hg3:wr.cell? ⟨g,i,none⟩=some (.slice xo m xc):=by rw [hm];exact hg3
   replace hq3:wr.cell? ⟨q,i,none⟩=some (.slice ko m kc):=by rw [hm];exact hq3
   have HSM:=hide (fun d os=>sameTexts_n (Go.Sort.grow (redrawn wr d) os) xo ko xc kc m B B L hm (by rw [hm];exact owns_later hx.l (below_regrown wr d os)) (by rw [hm];exact owns_later hx.k (below_regrown wr d os)) (by rw [hm];exact hx.few))
   have k5:=fun d os=>cell_regrown c5 d os
   have k6:=fun d os=>cell_regrown c6 d os
   have kg:=fun d os=>cell_regrown hg3 d os
   have kq:=fun d os=>cell_regrown hq3 d os
   have kl: ∀d os,lb<(Go.Sort.grow (redrawn wr d) os).heap.size:=fun d os=>Nat.lt_of_lt_of_le hll (below_regrown wr d os).size
   have gl: ∀d os,g<(Go.Sort.grow (redrawn wr d) os).heap.size:=fun d os=>Nat.lt_of_lt_of_le hg2 (below_regrown wr d os).size
   have ql: ∀d os,q<(Go.Sort.grow (redrawn wr d) os).heap.size:=fun d os=>Nat.lt_of_lt_of_le hq2 (below_regrown wr d os).size
   clear hx hm
   go_wp2_with fail
   refine wp_region_quiet_below (by kernel_rfl) (by kernel_rfl) ?_
   repeat (quiet_step (first|(go_at_call 61;exact Calls.regrown_of (unhide HSM _ _))))
   refine wpQuiet_nil ?_
   intro w1 hw'
   obtain ⟨⟨dq,osq⟩,hw''⟩:=hw'
   have HB1:Hid (Below w.heap.size w w1):=(unhide HB).trans ((by rw [hw''];exact below_regrown wr dq osq:Below wr.heap.size wr w1).mono (unhide HB).size)
   clear hw'' k5 k6 kg kq kl gl ql HSM
   go_wp2_with fail
   go_roundw
   case rel=>exact ⟨i+1,by omega,by simp,by go_num,HB1⟩
   case measure=>simp [intOf];omega
  ·have hin:¬ (i:Int)<(en:Int):=by omega
   have c7:wr.cell? ⟨lb,7,none⟩=some (.slice none 0 0):=(cell_of_blk (unhide HIr).law.lw 7).trans rfl
   clear hlt hi HB HI
   go_wp2_with fail
   generalize wr=wS at *
   go_loopw [3,6] (fun o v wr=>o= .bool true∧v= .int .i64 0∧wS=wr) (fun _ _ _=>0)
   case atStart=>exact ⟨rfl,rfl,rfl⟩
   case round=>
    obtain ⟨rfl,rfl,hw⟩:=hrel
    subst hw
    go_wp2_with fail
    go_loopw [8] (fun v wr=> ∃(i M tn tc:Nat) (tO:Option Addr) (bv:List Value) (bs:List Bk),i≤en∧v= .int .i64 i∧Hid (LI B lb X w0 wr N ⟨dO,dn,dc,M,tO,tn,tc,wO,en,wc,eO,en,ec,pv,bv,wv,ev⟩ ds bs (ws.drop i))) (fun v _=>en - (intOf v).toNat)
    case atStart=>exact ⟨0,M,tn,tc,tO,bv,bs,Nat.zero_le _,rfl,HIr⟩
    case round=>
     clear HIr c5 c6 c7 hll
     obtain ⟨i,M,tn,tc,tO,bv,bs,hi,rfl,HIr⟩:=hrel
     have c5:wr.cell? ⟨lb,5,none⟩=some (.slice wO en wc):=(cell_of_blk (unhide HIr).law.lw 5).trans rfl
     have hll:=lt_of_blk (unhide HIr).law.lw
     by_cases hlt:i<en
     ·have hin:(i:Int)<(en:Int):=by omega
      have hiw:i<ws.length:=by rw [←unhide HLN];exact hlt
      obtain ⟨g,hg1,hg2,hg3⟩:=owns1_at (unhide HIr).law.wt hlt
      replace hg1:wO=_:=hg1
      subst hg1
      replace hg3:wr.cell? ⟨g,i,none⟩=some (ws[i]).l:=hg3.trans (by show wv[i]? =_;rw [unhide HWV,List.getElem?_map,List.getElem?_eq_getElem hiw];rfl)
      have hdr:ws.drop i=ws[i]::ws.drop (i+1):=List.drop_eq_getElem_cons hiw
      rw [hdr] at HIr
      have hx:=(unhide HIr).wait (List.mem_cons_self ..)
      clear hdr
      generalize ws[i]=x at *
      obtain ⟨L,xo,xc,ko,kc⟩:=x
      obtain ⟨m,hm⟩: ∃m,m=L.length:=⟨_,rfl⟩
      replace hg3:wr.cell? ⟨g,i,none⟩=some (.slice xo m xc):=by rw [hm];exact hg3
      have h8:m≤8:=by rw [hm];exact hx.few
      have htn:tn=bs.length:=(unhide HIr).tn
      have hMt:M=tn:=(unhide HIr).M
      have hnb:=(unhide HIr).nb
      have HMK:=hide (markTexts_any wr lb (.slice dO dn dc) M tO tn tc (.slice none 0 0) (.slice none 0 0) (.slice (some ⟨g,0,none⟩) en wc) (.slice eO en ec) (.slice none 0 0) (.slice none 0 0) bv B B xo m xc (strsC L) (unhide HIr).law.lw (unhide HIr).law.tx (unhide HIr).hB (by rw [hm];exact hx.l) (unhide HIr).hB (by omega) (by omega) (by omega) ((unhide HIr).tab (unhide HT)) hlbg)
      have HM:=hide hm
      clear hx hm hMt htn hnb
      go_wp2_with fail
      refine (unhide HMK).mono ?_
      rintro e w2 hp
      have hpe:=hp.1
      subst hpe
      obtain ⟨tO',tc',b,hI2⟩:=LI.mark (unhide HIr) (show MkPost wr lb (.slice dO dn dc) M tO tn tc (.slice none 0 0) (.slice none 0 0) (.slice (some ⟨g,0,none⟩) en wc) (.slice eO en ec) (.slice none 0 0) (.slice none 0 0) bv B (.slice xo L.length xc) w2 _ from by rw [←unhide HM];exact hp)
      have HI2:=hide hI2
      clear hp hI2 HMK HIr c5
      go_wp2_with fail
      go_roundw
      case rel=>exact ⟨i+1,_,_,_,_,_,_,by omega,by go_num,HI2⟩
      case measure=>simp [intOf];omega
     ·have hin:¬ (i:Int)<(en:Int):=by omega
      have hdr:ws.drop i=[]:=List.drop_of_length_le (by have:=unhide HLN;omega)
      rw [hdr] at HIr
      have HFIN:=hide (unhide HIr).rest
      have c7:wr.cell? ⟨lb,7,none⟩=some (.slice none 0 0):=(cell_of_blk (unhide HIr).law.lw 7).trans rfl
      have bc:=fun o=>cell_of_blk (unhide HIr).law.lw o
      have bf:=fun o=>frozen_of_blk (unhide HIr).law.lw o
      clear hdr hlt hi
      go_wp2_with fail
      generalize wr=wT at *
      go_loopw [9] (fun v wr=>v= .int .i64 0∧wT=wr) (fun _ _=>0)
      case atStart=>exact ⟨rfl,rfl⟩
      case round=>
       obtain ⟨rfl,hw⟩:=hrel
       subst hw
       go_wp2_with fail
       go_ret
       exact ⟨rfl,unhide HFIN⟩
end Go.Proofs.YtidakhhekofkoaaGreatDoor
namespace Go.Proofs.YtidakhhekofkoaaGreatDoor
open Go.RowKit Go.Deep
theorem step_all (B lb:Nat) (X:List Th) (w0 w:World) (N:Nat) (hF:LF B lb X w0 w N) (hG:GV w0) (hN:N≤10000000) (kd oa:Int) (h8:8≤kd) (h15:kd≤15) (ho0: -9223372036854775808≤oa) (ho1:oa≤9223372036854775807) (os ot:ByteArray) (hos:os.size≤140737488355328) (l1:Option Addr) (l2 l3:Nat) (f1:Option Addr) (f2 f3:Nat) (m1:Option Addr) (m2 m3:Nat):
  Calls Tryz.prog 36 #[.pointer (some ⟨lb,0,none⟩),.agg #[.int .i64 kd,.int .i64 oa,.string os,.string ot,.slice l1 l2 l3,.slice f1 f2 f3,.slice m1 m2 m3]] w fun e w'=>StQ B lb X w0 N w' e:=by
 by_cases h:kd≤9
 ·exact step_open B lb X w0 w N hF hG hN kd oa (by omega) os ot l1 l2 l3 f1 f2 f3 m1 m2 m3
 ·exact step_desk B lb X w0 w N hF hN kd oa (by omega) h15 ho0 ho1 os ot hos l1 l2 l3 f1 f2 f3 m1 m2 m3
def Sc3 (w:World) (o:Option Addr) (n:Nat):Prop:= ∀i,i<n→ ∃b off,o=some ⟨b,off,none⟩∧b<w.heap.size∧ ∃(kd oa:Int) (os ot:ByteArray) (l1:Option Addr) (l2 l3:Nat) (f1:Option Addr) (f2 f3:Nat) (m1:Option Addr) (m2 m3:Nat),
  ((-9223372036854775808≤oa∧oa≤9223372036854775807)∧os.size≤140737488355328)∧w.cell? ⟨b,off+i * 7,none⟩=some (.int .i64 kd)∧w.cell? ⟨b,off+i * 7+1,none⟩=some (.int .i64 oa)∧w.cell? ⟨b,off+i * 7+2,none⟩=some (.string os)∧w.cell? ⟨b,off+i * 7+3,none⟩=some (.string ot)∧
  w.cell? ⟨b,off+i * 7+4,none⟩=some (.slice l1 l2 l3)∧w.cell? ⟨b,off+i * 7+5,none⟩=some (.slice f1 f2 f3)∧w.cell? ⟨b,off+i * 7+6,none⟩=some (.slice m1 m2 m3)
theorem opC_low (p q:Option Addr) (i:Nat) (h:i<10): ∃kd:Int,(opC p q)[i * 7]? =some (.int .i64 kd)∧kd<8:=by
 have:i=0∨i=1∨i=2∨i=3∨i=4∨i=5∨i=6∨i=7∨i=8∨i=9:=by omega
 rcases this with rfl|rfl|rfl|rfl|rfl|rfl|rfl|rfl|rfl|rfl
 all_goals exact ⟨_,rfl,by decide⟩
theorem opC_desk (p q:Option Addr) (i:Nat) (h2:10≤i) (h:i<18): ∃(kd:Int) (os ot:ByteArray),(opC p q)[i * 7]? =some (.int .i64 kd)∧(opC p q)[i * 7+1]? =some (.int .i64 0)∧(opC p q)[i * 7+2]? =some (.string os)∧(opC p q)[i * 7+3]? =some (.string ot)∧(opC p q)[i * 7+4]? =some (.slice none 0 0)∧(opC p q)[i * 7+5]? =some (.slice none 0 0)∧(opC p q)[i * 7+6]? =some (.slice none 0 0)∧(8≤kd∧kd≤15)∧os.size≤140737488355328:=by
 have:i=10∨i=11∨i=12∨i=13∨i=14∨i=15∨i=16∨i=17:=by omega
 rcases this with rfl|rfl|rfl|rfl|rfl|rfl|rfl|rfl
 all_goals exact ⟨_,_,_,rfl,rfl,rfl,rfl,rfl,rfl,rfl,by decide,of_decide_eq_true rfl⟩
theorem LF.kp {B lb:Nat} {X:List Th} {w0 w:World} {N:Nat} (h:LF B lb X w0 w N) {x:Th} (hx:x∈X):x.P w:=by
 obtain ⟨a,ds,bs,ws,h1,_⟩:=h
 exact h1.keep hx
theorem LF.bel {B lb:Nat} {X:List Th} {w0 w:World} {N:Nat} (h:LF B lb X w0 w N):Below w0.heap.size w0 w:=by
 obtain ⟨a,ds,bs,ws,h1,_⟩:=h
 exact h1.lo▸h1.bel
set_option maxHeartbeats 4000000 in
set_option maxRecDepth 100000 in
theorem plays_desks (w:World) (o:Option Addr) (n k:Nat) (hS:Sc3 w o n) (hG:GV w) (hTab:Lib.TabIs Tryz.prog w "internal/strconv.uint64pow10" .u64 Lib.pow10Tab) (hn:n≤1048576):
  Calls Tryz.prog 13 #[.slice o n k,.int .i64 8,.int .i64 15] w fun e w'=>e= .returned (.bool true)∧Below w.heap.size w w':=by
 have HS:=hide hS
 have HG:=hide hG
 have HTAB:=hide hTab
 clear hS hG hTab
 go_enter Tryz.func13,Tryz.ntmps13
 go_wp2_with (go_at_call 35;refine (opening_any _).mono ?_;rintro e w1 ⟨rfl,rfl⟩)
 have hLW:LWd ((((w.alloc (.cells #[.slice none 0 0,.int .i64 0,.slice none 0 0,.slice none 0 0,.slice none 0 0,.slice none 0 0,.slice none 0 0,.slice none 0 0,.slice none 0 0] 71)).alloc (.cells #[.string ⟨#[97]⟩,.string ⟨#[98]⟩] 9)).alloc (.cells #[.string ⟨#[99]⟩] 9)).alloc (.cells (opC (some ⟨w.heap.size+1,0,none⟩) (some ⟨w.heap.size+2,0,none⟩)) 74)) w.heap.size (.slice none 0 0) 0 (.slice none 0 0) (.slice none 0 0) (.slice none 0 0) (.slice none 0 0) (.slice none 0 0) (.slice none 0 0) (.slice none 0 0):=(Below.heap_alloc _ _ _ (by simp;omega)).trans ((Below.heap_alloc _ _ _ (by simp;omega)).trans ((Below.heap_alloc _ _ _ (by simp)).trans (blk_alloc _ _)))
 have hOP:((((w.alloc (.cells #[.slice none 0 0,.int .i64 0,.slice none 0 0,.slice none 0 0,.slice none 0 0,.slice none 0 0,.slice none 0 0,.slice none 0 0,.slice none 0 0] 71)).alloc (.cells #[.string ⟨#[97]⟩,.string ⟨#[98]⟩] 9)).alloc (.cells #[.string ⟨#[99]⟩] 9)).alloc (.cells (opC (some ⟨w.heap.size+1,0,none⟩) (some ⟨w.heap.size+2,0,none⟩)) 74)).heap[w.heap.size+3]? =some (.cells (opC (some ⟨w.heap.size+1,0,none⟩) (some ⟨w.heap.size+2,0,none⟩)) 74 (0,0)):=blk_alloc' _ _ _ (by simp)
 have hBE:Below w.heap.size w ((((w.alloc (.cells #[.slice none 0 0,.int .i64 0,.slice none 0 0,.slice none 0 0,.slice none 0 0,.slice none 0 0,.slice none 0 0,.slice none 0 0,.slice none 0 0] 71)).alloc (.cells #[.string ⟨#[97]⟩,.string ⟨#[98]⟩] 9)).alloc (.cells #[.string ⟨#[99]⟩] 9)).alloc (.cells (opC (some ⟨w.heap.size+1,0,none⟩) (some ⟨w.heap.size+2,0,none⟩)) 74)):=((((Below.refl _ _).alloc (Nat.le_refl _) _).alloc (by simp) _).alloc (by simp;omega) _).alloc (by simp;omega) _
 have HLW:=hide hLW
 have HOP:=hide hOP
 have HBE:=hide hBE
 clear hLW hOP hBE
 generalize ((((w.alloc (.cells #[.slice none 0 0,.int .i64 0,.slice none 0 0,.slice none 0 0,.slice none 0 0,.slice none 0 0,.slice none 0 0,.slice none 0 0,.slice none 0 0] 71)).alloc (.cells #[.string ⟨#[97]⟩,.string ⟨#[98]⟩] 9)).alloc (.cells #[.string ⟨#[99]⟩] 9)).alloc (.cells (opC (some ⟨w.heap.size+1,0,none⟩) (some ⟨w.heap.size+2,0,none⟩)) 74))=W2 at *
 have HLF0:Hid (LF w.heap.size w.heap.size [⟨fun k=>k=w.heap.size+3,fun w'=>w'.heap[w.heap.size+3]? =some (.cells (opC (some ⟨w.heap.size+1,0,none⟩) (some ⟨w.heap.size+2,0,none⟩)) 74 (0,0))⟩] w W2 0):=by
  have hL:Lw.P w.heap.size w.heap.size ⟨none,0,0,0,none,0,0,none,0,0,none,0,0,[],[],[],[]⟩ W2:=⟨unhide HLW,World.ownsRow_nil _ _ _ _,World.ownsRow_nil _ _ _ _,World.ownsRow_nil _ _ _ _,World.ownsRow_nil _ _ _ _,fun k hk=>by cases hk⟩
  refine ⟨⟨none,0,0,0,none,0,0,none,0,0,none,0,0,[],[],[],[]⟩,[],[],[],⟨⟨fun x hx=> ?_,List.pairwise_pair.2 fun k h1 h2=> ?_,fun x hx k hk=> ?_⟩,unhide HBE,rfl,rfl,rfl,rfl,Nat.le_refl _,Nat.le_refl _,fun d hd=>(List.not_mem_nil hd).elim⟩,rfl,rfl⟩
  ·rcases List.mem_cons.1 hx with rfl|hx
   ·exact Lw.ok hL
   ·rw [List.mem_singleton.1 hx]
    exact ⟨unhide HOP,fun k hk=>by have:k=w.heap.size+3:=hk;rw [this];exact lt_of_blk (unhide HOP),fun w' hs hk=>(hk _ rfl).trans (unhide HOP)⟩
  ·have e2:k=w.heap.size+3:=h2
   rcases h1 with e|e|e|e|e
   ·omega
   ·cases e
   ·cases e
   ·cases e
   ·cases e
  ·rcases List.mem_cons.1 hx with rfl|hx
   ·rcases hk with e|e|e|e|e
    ·omega
    ·cases e
    ·cases e
    ·cases e
    ·cases e
   ·rw [List.mem_singleton.1 hx] at hk
    have:k=w.heap.size+3:=hk
    omega
 have hlbg:w.heap.size≠4:=by have:=tab_lt (unhide HTAB);omega
 clear HLW HOP
 go_loopw [9] (fun v wr=> ∃i N:Nat,i≤18∧N≤i∧v= .int .i64 i∧Hid (LF w.heap.size w.heap.size [⟨fun k=>k=w.heap.size+3,fun w'=>w'.heap[w.heap.size+3]? =some (.cells (opC (some ⟨w.heap.size+1,0,none⟩) (some ⟨w.heap.size+2,0,none⟩)) 74 (0,0))⟩] w wr N)) (fun v _=>18 - (intOf v).toNat)
 case atStart=>exact ⟨0,0,Nat.zero_le _,Nat.le_refl _,rfl,HLF0⟩
 case round=>
  clear HLF0
  obtain ⟨i,N,hi,hNi,rfl,HLF⟩:=hrel
  have hop:wr.heap[w.heap.size+3]? =some (.cells (opC (some ⟨w.heap.size+1,0,none⟩) (some ⟨w.heap.size+2,0,none⟩)) 74 (0,0)):=(unhide HLF).kp (List.mem_singleton.2 rfl)
  have hzr:w.heap.size+3<wr.heap.size:=lt_of_blk hop
  by_cases hlt:i<18
  ·have hii:(i:Int)<18:=by omega
   by_cases h10:i<10
   ·obtain ⟨kd,hk1,hk2⟩:=opC_low (some ⟨w.heap.size+1,0,none⟩) (some ⟨w.heap.size+2,0,none⟩) i h10
    have c0:wr.cell? ⟨w.heap.size+3,i * 7,none⟩=some (.int .i64 kd):=(cell_of_blk hop (i * 7)).trans hk1
    have hk3:¬ (8:Int)≤kd:=by omega
    clear hop hk1
    go_wp2_with fail
    go_roundw
    case rel=>exact ⟨i+1,N,by omega,by omega,by go_num,HLF⟩
    case measure=>simp [intOf];omega
   ·obtain ⟨kd,os,ot,b0,b1,b2,b3,b4,b5,b6,⟨hk8,hk15⟩,hos⟩:=opC_desk (some ⟨w.heap.size+1,0,none⟩) (some ⟨w.heap.size+2,0,none⟩) i (by omega) hlt
    have c0:=(cell_of_blk hop (i * 7)).trans b0
    have c1:=(cell_of_blk hop (i * 7+1)).trans b1
    have c2:=(cell_of_blk hop (i * 7+2)).trans b2
    have c3:=(cell_of_blk hop (i * 7+3)).trans b3
    have c4:=(cell_of_blk hop (i * 7+4)).trans b4
    have c5:=(cell_of_blk hop (i * 7+5)).trans b5
    have c6:=(cell_of_blk hop (i * 7+6)).trans b6
    have HST:=hide (step_all _ _ _ _ wr N (unhide HLF) (unhide HG) (by omega) kd 0 hk8 hk15 (by decide) (by decide) os ot hos none 0 0 none 0 0 none 0 0)
    clear hop b0 b1 b2 b3 b4 b5 b6
    go_wp2_with fail
    refine (unhide HST).mono ?_
    rintro e w3 ⟨rfl,h3⟩
    have H3:=hide h3
    clear h3 HST
    go_wp2_with fail
    go_roundw
    case rel=>exact ⟨i+1,N+1,by omega,by omega,by go_num,H3⟩
    case measure=>simp [intOf];omega
  ·have hie:¬ ((i:Int)<18):=by omega
   have hN18:N≤18:=by omega
   clear hop hlt hi hzr hNi
   go_wp2_with fail
   go_loopw [11] (fun v wq=> ∃i N:Nat,i≤n∧N≤18+i∧v= .int .i64 i∧Hid (LF w.heap.size w.heap.size [⟨fun k=>k=w.heap.size+3,fun w'=>w'.heap[w.heap.size+3]? =some (.cells (opC (some ⟨w.heap.size+1,0,none⟩) (some ⟨w.heap.size+2,0,none⟩)) 74 (0,0))⟩] w wq N)) (fun v _=>n - (intOf v).toNat)
   case atStart=>exact ⟨0,N,Nat.zero_le _,by omega,rfl,HLF⟩
   case round=>
    clear HLF hN18
    obtain ⟨i,N,hi,hti,rfl,HLF⟩:=hrel
    have hbel:=hide (unhide HLF).bel
    have him:(i:Int)<1152921504606846976:=by omega
    by_cases hlt:i<n
    ·obtain ⟨b,off,hob,hlb,kd,oa,os,ot,l1,l2,l3,f1,f2,f3,m1,m2,m3,⟨⟨ho0,ho1⟩,hos⟩,d0,d1,d2,d3,d4,d5,d6⟩:=(unhide HS) i hlt
     subst hob
     have c0:=(bcell3 (unhide hbel) _ _ hlb).trans d0
     have c1:=(bcell3 (unhide hbel) _ _ hlb).trans d1
     have c2:=(bcell3 (unhide hbel) _ _ hlb).trans d2
     have c3:=(bcell3 (unhide hbel) _ _ hlb).trans d3
     have c4:=(bcell3 (unhide hbel) _ _ hlb).trans d4
     have c5:=(bcell3 (unhide hbel) _ _ hlb).trans d5
     have c6:=(bcell3 (unhide hbel) _ _ hlb).trans d6
     have hin2:(i:Int)<(n:Int):=by omega
     have hbr:b<wr.heap.size:=Nat.lt_of_lt_of_le hlb (unhide hbel).size
     clear d0 d1 d2 d3 d4 d5 d6
     have HTA:=hide ((unhide HLF).later ((Below.refl wr.heap.size wr).alloc (Nat.le_refl _) (.cells #[.int .i64 kd,.int .i64 oa,.string os,.string ot,.slice l1 l2 l3,.slice f1 f2 f3,.slice m1 m2 m3] 74)))
     by_cases hk:8≤kd∧kd≤15
     ·obtain ⟨hk8,hk15⟩:=hk
      have hka:¬ kd<8:=by omega
      have hkb:¬ 15<kd:=by omega
      have HST:=hide (step_all _ _ _ _ _ N (unhide HTA) (unhide HG) (by omega) kd oa hk8 hk15 ho0 ho1 os ot hos l1 l2 l3 f1 f2 f3 m1 m2 m3)
      go_wp2_with fail
      refine (unhide HST).mono ?_
      rintro e w3 ⟨rfl,h3⟩
      have H3:=hide h3
      clear h3 HST HTA HLF c0 c1 c2 c3 c4 c5 c6
      have h3:(i:Int).tmod 3=0∨(i:Int).tmod 3=1∨(i:Int).tmod 3=2:=by rw [Int.tmod_eq_emod_of_nonneg (by omega)];omega
      rcases h3 with hm|hm|hm
      rotate_left 2
      ·go_wp2_with fail
       refine (settle_any _ _ _ _ _ _ (unhide H3) (unhide HTAB) hlbg (by omega)).mono ?_
       rintro e w4 ⟨rfl,h4⟩
       have H4:=hide h4
       clear h4
       go_wp2_with fail
       refine (looks_any _ _ _ _ _ _ (unhide H4) (by omega)).mono ?_
       rintro e w5 ⟨rfl,hb5⟩
       have H5:=hide ((unhide H4).later hb5)
       clear hb5
       go_wp2_with fail
       go_roundw
       case rel=>exact ⟨i+1,N+1,by omega,by omega,by go_num,H5⟩
       case measure=>simp [intOf];omega
      all_goals (
       go_wp2_with fail
       refine (looks_any _ _ _ _ _ _ (unhide H3) (by omega)).mono ?_
       rintro e w5 ⟨rfl,hb5⟩
       have H5:=hide ((unhide H3).later hb5)
       clear hb5
       go_wp2_with fail
       go_roundw
       case rel=>exact ⟨i+1,N+1,by omega,by omega,by go_num,H5⟩
       case measure=>simp [intOf];omega)
     ·by_cases hk1:kd<8
      ·go_wp2_with fail
       go_roundw
       case rel=>exact ⟨i+1,N,by omega,by omega,by go_num,HTA⟩
       case measure=>simp [intOf];omega
      ·have hk2:(15:Int)<kd:=by omega
       go_wp2_with fail
       go_roundw
       case rel=>exact ⟨i+1,N,by omega,by omega,by go_num,HTA⟩
       case measure=>simp [intOf];omega
    ·have hin2:¬ ((i:Int)<(n:Int)):=by omega
     clear hlt
     go_wp2_with fail
     refine (settle_any _ _ _ _ _ _ (unhide HLF) (unhide HTAB) hlbg (by omega)).mono ?_
     rintro e w4 ⟨rfl,h4⟩
     have H4:=hide h4
     clear h4
     go_wp2_with fail
     refine (looks_any _ _ _ _ _ _ (unhide H4) (by omega)).mono ?_
     rintro e w5 ⟨rfl,hb5⟩
     have H5:=hide ((unhide H4).later hb5)
     clear hb5
     go_wp2_with fail
     go_ret
     exact ⟨rfl,(unhide H5).bel⟩
theorem Desks_any (w:World) (o:Option Addr) (n k:Nat) (hS:Sc3 w o n) (hG:GV w) (hTab:Lib.TabIs Tryz.prog w "internal/strconv.uint64pow10" .u64 Lib.pow10Tab) (hn:n≤1048576):
  Calls Tryz.prog 10 #[.slice o n k] w fun e w'=>e= .returned (.bool true)∧Below w.heap.size w w':=by
 have HP:=hide (plays_desks w o n k hS hG hTab hn)
 clear hS hG hTab hn
 go_enter Tryz.func10,Tryz.ntmps10
 go_wp2_with fail
 refine (unhide HP).mono ?_
 rintro e w1 ⟨rfl,hb⟩
 have HB:=hide hb
 clear hb
 go_wp2_with fail
 go_ret
 exact ⟨rfl,unhide HB⟩
end Go.Proofs.YtidakhhekofkoaaGreatDoor
