/- Walk of loom: Play, for one object of any machine. -/
import Derived.Test.YtglpalomhhhmhaaZB
namespace Go.Proofs.Ytglpalomhhhmhaa
open Go.RowKit
def zeroVs : List Value := [.slice none 0 0, .slice none 0 0, .int .i64 0, .int .i64 0, .int .i64 0, .int .i64 0, .int .i64 0, .int .i64 0, .int .i64 0]
def zeroRep : Value := .agg zeroVs.toArray

set_option maxRecDepth 100000 in
set_option maxHeartbeats 2000000 in
theorem play_bad1 (n : Int) (ao : Option Addr) (b o cap : Nat) (cs : List CallV) (ao3 : Option Addr) (np cap3 : Nat) (ob co : Nat) (w : World) (ha : 0 < cs.length → ao = some ⟨b, o, none⟩) (hb : 0 < cs.length → b < w.heap.size) (hc : CallsAt w b o cs) (hnp : np ≤ 9223372036854775807) (h : checkL n (thr cs) np ≠ 0) :
    Calls Try.prog 13 #[.int .i64 n, .slice ao cs.length cap, .slice ao3 np cap3, .slice (some ⟨ob, 0, none⟩) 1 co] w fun e w' => e = .returned (.tuple #[zeroRep, .int .i64 (checkL n (thr cs) np : Nat)]) ∧ Below w.heap.size w w' := by
  have hne : ((checkL n (thr cs) np : Nat) : Int) ≠ 0 := by omega
  have HA := Lib.hid ha
  have HB := Lib.hid hb
  have HC := Lib.hid hc
  clear h ha hb hc
  go_enter Try.func13, Try.ntmps13
  go_wp2_with fail
  refine (check_any n ao b o cap cs ao3 np cap3 _ HA.out (fun h => by have := HB.out h; simp; omega) (HC.out.stays ((Below.refl w.heap.size w).alloc (Nat.le_refl _) _) HB.out) hnp).mono ?_
  rintro e w1 ⟨rfl, hb1⟩
  have hz : RowBlk 31 w1 w.heap.size zeroVs := (RowBlk.new w zeroVs 31).same (hb1.block _ (by simp))
  have HB1 : Hid (Below w.heap.size w w1) := Lib.hid ((((Below.refl w.heap.size w).alloc (Nat.le_refl _) _)).trans (hb1.mono (by simp)))
  have r0 := hz.cell (i := 0) rfl
  have r1 := hz.cell (i := 1) rfl
  have r2 := hz.cell (i := 2) rfl
  have r3 := hz.cell (i := 3) rfl
  have r4 := hz.cell (i := 4) rfl
  have r5 := hz.cell (i := 5) rfl
  have r6 := hz.cell (i := 6) rfl
  have r7 := hz.cell (i := 7) rfl
  have r8 := hz.cell (i := 8) rfl
  have fr : ∀ k, w1.frozen? ⟨w.heap.size, k, none⟩ = false := fun k => hz.free
  clear hb1 hz
  go_wp2_with fail
  exact bodyPost_ret (v := .tuple #[zeroRep, .int .i64 (checkL n (thr cs) np : Nat)]) (by simp [results, Try.results13, go_sem, r0, r1, r2, r3, r4, r5, r6, r7, r8, zeroRep, zeroVs]) rfl ⟨rfl, (((((((((HB1.out.setCell (Nat.le_refl _) _).setCell (Nat.le_refl _) _).setCell (Nat.le_refl _) _).setCell (Nat.le_refl _) _).setCell (Nat.le_refl _) _).setCell (Nat.le_refl _) _).setCell (Nat.le_refl _) _).setCell (Nat.le_refl _) _).setCell (Nat.le_refl _) _)⟩

theorem check_zero {n : Int} {ts : List Int} {m : Nat} (h : checkL n ts m = 0) : wrongL n ts = 0 ∧ m ≤ 65536 := by
  unfold checkL at h
  split at h
  · next h1 => exact absurd h h1
  · split at h
    · cases h
    · next h2 => exact ⟨h, by omega⟩
theorem wrong_len {n : Int} {ts : List Int} (h : wrongL n ts = 0) : ts.length ≤ 1000 := by
  unfold wrongL at h
  split at h
  · cases h
  · split at h
    · cases h
    · omega

set_option maxRecDepth 100000 in
set_option maxHeartbeats 2000000 in
theorem play_bad2 (tid : TypeId) (u : Value) (n sz er : Int) (ao : Option Addr) (b o cap : Nat) (cs : List CallV) (ao3 : Option Addr) (np cap3 : Nat) (ob co : Nat) (w : World) (ha : 0 < cs.length → ao = some ⟨b, o, none⟩) (hb : 0 < cs.length → b < w.heap.size) (hc : CallsAt w b o cs) (hnp : np ≤ 9223372036854775807) (h : checkL n (thr cs) np = 0)
    (ho : w.cell? ⟨ob, 0, none⟩ = some (.iface tid u)) (hS : SizeC tid u n sz er) (her : er ≠ 0) :
    Calls Try.prog 13 #[.int .i64 n, .slice ao cs.length cap, .slice ao3 np cap3, .slice (some ⟨ob, 0, none⟩) 1 co] w fun e w' => e = .returned (.tuple #[zeroRep, .int .i64 er]) ∧ Below w.heap.size w w' := by
  have hob := World.block_lt_of_cell? w ⟨ob, 0, none⟩ ho
  have HA := Lib.hid ha
  have HB := Lib.hid hb
  have HC := Lib.hid hc
  have HW := Lib.hid (check_zero h).1
  have HO := Lib.hid ho
  clear ha hb hc ho
  have hch := check_any n ao b o cap cs ao3 np cap3 (w.alloc (.cells zeroVs.toArray 31)) HA.out (fun h => by have := HB.out h; simp; omega) (HC.out.stays ((Below.refl w.heap.size w).alloc (Nat.le_refl _) _) HB.out) hnp
  rw [h] at hch
  go_enter Try.func13, Try.ntmps13
  go_wp2_with fail
  refine hch.mono ?_
  rintro e w1 ⟨rfl, hb1⟩
  have hz : RowBlk 31 w1 w.heap.size zeroVs := (RowBlk.new w zeroVs 31).same (hb1.block _ (by simp))
  have HB1 : Hid (Below w.heap.size w w1) := Lib.hid ((((Below.refl w.heap.size w).alloc (Nat.le_refl _) _)).trans (hb1.mono (by simp)))
  have z1 := HB1.out.size
  have z1' : w.heap.size < w1.heap.size := hz.lt
  have HZ := Lib.hid hz
  clear hb1 hz h hch
  go_wp2_with fail
  refine (lnew_size tid u n sz er ao b o cap cs ob co w1 HA.out (fun h => by have := HB.out h; omega) (HC.out.stays HB1.out HB.out) HW.out ((HB1.out.cell (p := ⟨ob, 0, none⟩) hob).trans HO.out) hS her).mono ?_
  rintro e w2 ⟨rfl, hb2⟩
  have hz := HZ.out.same (hb2.block _ z1')
  have HB2 : Hid (Below w.heap.size w w2) := Lib.hid (HB1.out.trans (hb2.mono z1))
  have r0 := hz.cell (i := 0) rfl
  have r1 := hz.cell (i := 1) rfl
  have r2 := hz.cell (i := 2) rfl
  have r3 := hz.cell (i := 3) rfl
  have r4 := hz.cell (i := 4) rfl
  have r5 := hz.cell (i := 5) rfl
  have r6 := hz.cell (i := 6) rfl
  have r7 := hz.cell (i := 7) rfl
  have r8 := hz.cell (i := 8) rfl
  have fr : ∀ k, w2.frozen? ⟨w.heap.size, k, none⟩ = false := fun k => hz.free
  clear hb2 hz
  go_wp2_with fail
  exact bodyPost_ret (v := .tuple #[zeroRep, .int .i64 er]) (by simp [results, Try.results13, go_sem, r0, r1, r2, r3, r4, r5, r6, r7, r8, zeroRep, zeroVs]) rfl ⟨rfl, (((((((((HB2.out.setCell (Nat.le_refl _) _).setCell (Nat.le_refl _) _).setCell (Nat.le_refl _) _).setCell (Nat.le_refl _) _).setCell (Nat.le_refl _) _).setCell (Nat.le_refl _) _).setCell (Nat.le_refl _) _).setCell (Nat.le_refl _) _).setCell (Nat.le_refl _) _)⟩

section
variable {M : Mach}
theorem pickG_any {K : MachRel M} {cs : List CallV} {I : St M → Prop} (hK : MachOk K cs I) (a : LA) (j : Nat) (col : Nat → Nat) (w : World) (st : St M) (p : Int) (h : LoomG K cs a j col w st) (hw : Wf cs st) (hI : I st) (hcn : CnOk st) (hp : -9223372036854775808 ≤ p ∧ p ≤ 9223372036854775807) (hj : j < 65536) :
    Calls Try.prog 19 #[.pointer (some ⟨a.L, 0, none⟩), .int .i64 p] w (PickPost K cs a (j + 1) (pickM cs st p) w) := by
  cases hn : nowOf (thr cs) st.fin p with
  | none => exact pickG_idle K a j col w st p h hp hj hn
  | some i => exact pickG_turn hK a j col w st p h hw hI hcn hj hn
theorem endM_wf (cs : List CallV) (ws : List Nat) (s : M.S) (picks : List Int) : Wf cs (endM cs ws s picks) := foldM (R := fun st => Wf cs st) (fun _ p h => h.pick p) picks _ (Wf.first cs ws s)
theorem endM_cn (cs : List CallV) (ws : List Nat) (s : M.S) (picks : List Int) : CnOk (endM (M := M) cs ws s picks) := (foldM (R := fun st => Wf cs st ∧ CnOk st) (fun _ p h => ⟨h.1.pick p, h.2.pick h.1 p⟩) picks _ ⟨Wf.first cs ws s, Nat.le_refl _, rfl⟩).2
theorem endM_I {K : MachRel M} {cs : List CallV} {I : St M → Prop} (hK : MachOk K cs I) (ws : List Nat) (s : M.S) (h0 : I (stM cs ws s)) (picks : List Int) : I (endM cs ws s picks) :=
  (foldM (R := fun st => Wf cs st ∧ I st) (fun _ p h => ⟨h.1.pick p, hK.pick h.2 h.1 p⟩) picks _ ⟨Wf.first cs ws s, h0⟩).2
theorem stepQ_len (s : M.S) (q : M.Q ⊕ Nat) (ws : List Nat) (cn : Cn) (t : Nat) : (stepQ s q ws cn t).ws.length = ws.length := by
  unfold stepQ
  cases q with
  | inl q => exact Acc.run_len _ _ _
  | inr e => rfl
theorem pickM_len (cs : List CallV) (st : St M) (p : Int) : (pickM cs st p).ws.length = st.ws.length := by
  cases hn : nowOf (thr cs) st.fin p with
  | none => rw [pickM_idle hn]
  | some i =>
    cases hx : cs[i]? with
    | none => unfold pickM; rw [hn]; simp only [hx]
    | some x =>
      rw [pickM_turn hn hx]
      have h1 : ∀ s2 : St M, (s2.go i p).ws.length = s2.ws.length := fun s2 => by
        unfold St.go
        split
        · rfl
        · split
          · rfl
          · unfold St.step
            split <;> exact stepQ_len _ _ _ _ _
      rw [h1]
      unfold St.turn
      split <;> rfl
theorem endM_len (cs : List CallV) (ws : List Nat) (s : M.S) (picks : List Int) : (endM cs ws s picks).ws.length = ws.length :=
  foldM (R := fun st => st.ws.length = ws.length) (fun st p h => (pickM_len cs st p).trans h) picks _ rfl

def PlayOk (cs : List CallV) (ws : List Nat) (s : M.S) (picks : List Int) (w : World) (e : Ending) (w' : World) : Prop :=
  ∃ v, e = .returned (.tuple #[v, .int .i64 0]) ∧ RepG w.heap.size w' v (repOf (endM cs ws s picks)) ∧ Below w.heap.size w w'
theorem playOk_mk {cs : List CallV} {ws : List Nat} {s : M.S} {picks : List Int} {w w' : World} {ev : Value} {gw : Nat} {r : RepR} (h : repOf (endM cs ws s picks) = r) (h1 : EvsG w.heap.size w' ev r.evs) (h2 : RowBlk 37 w' gw (u64s r.ws)) (h3 : w.heap.size ≤ gw) (h4 : Below w.heap.size w w') :
    PlayOk cs ws s picks w (.returned (.tuple #[.agg (repVs ev gw r).toArray, .int .i64 0])) w' :=
  ⟨_, rfl, by rw [h]; exact ⟨ev, gw, rfl, h1, h2, h3⟩, h4⟩

set_option maxRecDepth 100000 in
set_option maxHeartbeats 2000000 in
theorem play_ok (I : St M → Prop) (s0 : M.S) (tid : TypeId) (u : Value) (n : Int) (size : Nat) (ao : Option Addr) (b o cap : Nat) (cs : List CallV) (ao3 : Option Addr) (b3 o3 cap3 : Nat) (picks : List Int) (ob co : Nat) (w : World) (ha : 0 < cs.length → ao = some ⟨b, o, none⟩) (hb : 0 < cs.length → b < w.heap.size) (hc : CallsAt w b o cs) (hcap : ao = none → cap = 0)
    (ha3 : 0 < picks.length → ao3 = some ⟨b3, o3, none⟩) (hb3 : 0 < picks.length → b3 < w.heap.size) (hc3 : ICells w b3 o3 picks) (h : checkL n (thr cs) picks.length = 0)
    (ho : w.cell? ⟨ob, 0, none⟩ = some (.iface tid u)) (hS : SizeC tid u n size 0) (hnf : NotFilled tid u) (hP : PlaceC cs I s0 tid u n) (hs1 : 1 ≤ size) (hs2 : size ≤ 65536) (hI0 : I (stM cs (List.replicate size 0) s0)) :
    Calls Try.prog 13 #[.int .i64 n, .slice ao cs.length cap, .slice ao3 picks.length cap3, .slice (some ⟨ob, 0, none⟩) 1 co] w (PlayOk cs (List.replicate size 0) s0 picks w) := by
  have hob := World.block_lt_of_cell? w ⟨ob, 0, none⟩ ho
  have HA := Lib.hid ha
  have HB := Lib.hid hb
  have HC := Lib.hid hc
  have HA3 := Lib.hid ha3
  have HB3 := Lib.hid hb3
  have HC3 := Lib.hid hc3
  have HCP := Lib.hid hcap
  have HW := Lib.hid (check_zero h).1
  have hpl := (check_zero h).2
  have hcl := wrong_len (check_zero h).1
  rw [thr_len] at hcl
  have HO := Lib.hid ho
  have HI0 := Lib.hid hI0
  clear ha hb hc ho ha3 hb3 hc3 hcap hI0
  have hch := check_any n ao b o cap cs ao3 picks.length cap3 (w.alloc (.cells zeroVs.toArray 31)) HA.out (fun h => by have := HB.out h; simp; omega) (HC.out.stays ((Below.refl w.heap.size w).alloc (Nat.le_refl _) _) HB.out) (by omega)
  rw [h] at hch
  go_enter Try.func13, Try.ntmps13
  go_wp2_with fail
  refine hch.mono ?_
  rintro e w1 ⟨rfl, hb1⟩
  have hz : RowBlk 31 w1 w.heap.size zeroVs := (RowBlk.new w zeroVs 31).same (hb1.block _ (by simp))
  have HB1 : Hid (Below w.heap.size w w1) := Lib.hid ((((Below.refl w.heap.size w).alloc (Nat.le_refl _) _)).trans (hb1.mono (by simp)))
  have z1 := HB1.out.size
  have z1' : w.heap.size < w1.heap.size := hz.lt
  have HZ := Lib.hid hz
  clear hb1 hz h hch
  go_wp2_with fail
  refine (lnew_ok I s0 tid u n size ao b o cap cs ob co w1 HA.out (fun h => by have := HB.out h; omega) (HC.out.stays HB1.out HB.out) HCP.out HW.out hcl ((HB1.out.cell (p := ⟨ob, 0, none⟩) hob).trans HO.out) hS hnf hP hs1 hs2).mono ?_
  rintro e w2 ⟨K, a, col, ha0, rfl, hmok, hL, hb2⟩
  have HMOK := Lib.hid hmok
  clear hmok
  have HL : Hid (∃ col, LoomG K cs a 0 col w2 (endM cs (List.replicate size 0) s0 [])) := Lib.hid ⟨col, hL⟩
  have HB2 := Lib.hid hb2
  clear hL hb2
  go_wp2_with fail
  go_loopw [36] (fun k wr => ∃ j : Nat, j ≤ picks.length ∧ k = .int .i64 j ∧ Hid (∃ col, LoomG K cs a j col wr (endM cs (List.replicate size 0) s0 (picks.take j))) ∧ Hid (Below w1.heap.size w1 wr)) (fun k _ => picks.length - (intOf k).toNat)
  case atStart => exact ⟨0, Nat.zero_le _, rfl, HL, HB2⟩
  case round =>
    obtain ⟨j, hj, rfl, hLj, hBj⟩ := hrel
    by_cases hlt : j < picks.length
    · obtain rfl := HA3.out (by omega)
      obtain ⟨p, hp⟩ : ∃ x, picks[j]? = some x := ⟨picks[j], List.getElem?_eq_getElem (by omega)⟩
      obtain ⟨c3, hpb⟩ := (HC3.out.stays (HB1.out.trans (hBj.out.mono z1)) HB3.out) j _ hp
      have HS := Lib.hid (endM_snoc (cs := cs) (ws := List.replicate size 0) (s := s0) hp)
      clear hp
      go_wp2_with fail
      obtain ⟨colj, hLj'⟩ := hLj.out
      refine (pickG_any HMOK.out a j colj _ _ p hLj' (endM_wf _ _ _ _) (endM_I HMOK.out _ _ HI0.out _) (endM_cn _ _ _ _) hpb (by omega)).mono ?_
      rintro e w3 ⟨⟨vp, rfl⟩, hL3, hb3⟩
      rw [← HS.out] at hL3
      rw [ha0] at hb3
      have HL3 := Lib.hid hL3
      have HB3' := Lib.hid (hBj.out.trans hb3)
      clear hL3 hb3
      go_wp2_with fail
      go_roundw
      case rel => exact ⟨j + 1, by omega, by go_num, HL3, HB3'⟩
      case measure => simp [intOf]; omega
    · have hjn : j = picks.length := by omega
      subst hjn
      rw [List.take_length] at hLj
      go_wp2_with fail
      have z3 := hBj.out.size
      have HZ3 := Lib.hid (HZ.out.same (hBj.out.block _ z1'))
      have HB3'' := Lib.hid (HB1.out.trans (hBj.out.mono z1))
      obtain ⟨colj, hLj'⟩ := hLj.out
      refine (reportG HMOK.out a picks.length colj wr _ hLj' (by rw [endM_len, List.length_replicate]; exact hs2)).mono ?_
      rintro e w4 ⟨v, rfl, hR, hb4⟩
      have hz := HZ3.out.same (hb4.block _ HZ3.out.lt)
      have HB4 : Hid (Below w.heap.size w w4) := Lib.hid (HB3''.out.trans (hb4.mono HB3''.out.size))
      obtain ⟨ev, gw, rfl, hev, hrw, hgw⟩ := hR
      obtain ⟨REP, hREP⟩ : ∃ r, repOf (endM cs (List.replicate size 0) s0 picks) = r := ⟨_, rfl⟩
      rw [hREP] at hev hrw ⊢
      have HREP := Lib.hid hREP
      clear hREP
      obtain ⟨ekk, hoo, hmm, hkk⟩ := hev
      obtain ⟨aoE, gE, capE, hu3, _⟩ := owns_open hoo
      have HEV : Hid (EvsG wr.heap.size w4 (.slice aoE REP.evs.length capE) REP.evs) := Lib.hid (by rw [← hu3]; exact ⟨ekk, hoo, hmm, hkk⟩)
      subst hu3
      have r0 := hz.cell (i := 0) rfl
      have r1 := hz.cell (i := 1) rfl
      have r2 := hz.cell (i := 2) rfl
      have r3 := hz.cell (i := 3) rfl
      have r4 := hz.cell (i := 4) rfl
      have r5 := hz.cell (i := 5) rfl
      have r6 := hz.cell (i := 6) rfl
      have r7 := hz.cell (i := 7) rfl
      have r8 := hz.cell (i := 8) rfl
      have fr : ∀ k, w4.frozen? ⟨w.heap.size, k, none⟩ = false := fun k => hz.free
      have HZ4 := Lib.hid hz
      have HRW := Lib.hid hrw
      clear hb4 hz hoo hmm hkk hrw
      unfold repVs
      go_wp2_with fail
      have hgb0 : gw ≠ w.heap.size := by omega
      have H7 : Hid (RowBlk 31 (((((((((w4.setCell ⟨w.heap.size, 0, none⟩ (.slice aoE REP.evs.length capE)).setCell ⟨w.heap.size, 1, none⟩ (.slice (some ⟨gw, 0, none⟩) REP.ws.length REP.ws.length)).setCell ⟨w.heap.size, 2, none⟩ (.int .i64 (REP.cn.r : Int))).setCell ⟨w.heap.size, 3, none⟩ (.int .i64 (REP.cn.w : Int))).setCell ⟨w.heap.size, 4, none⟩ (.int .i64 (REP.cn.s : Int))).setCell ⟨w.heap.size, 5, none⟩ (.int .i64 (REP.cn.a : Int))).setCell ⟨w.heap.size, 6, none⟩ (.int .i64 (REP.cn.f : Int))).setCell ⟨w.heap.size, 7, none⟩ (.int .i64 (REP.ticks : Int))).setCell ⟨w.heap.size, 8, none⟩ (.int .i64 (REP.idle : Int))) w.heap.size (repVs (.slice aoE REP.evs.length capE) gw REP) ∧ EvsG w.heap.size (((((((((w4.setCell ⟨w.heap.size, 0, none⟩ (.slice aoE REP.evs.length capE)).setCell ⟨w.heap.size, 1, none⟩ (.slice (some ⟨gw, 0, none⟩) REP.ws.length REP.ws.length)).setCell ⟨w.heap.size, 2, none⟩ (.int .i64 (REP.cn.r : Int))).setCell ⟨w.heap.size, 3, none⟩ (.int .i64 (REP.cn.w : Int))).setCell ⟨w.heap.size, 4, none⟩ (.int .i64 (REP.cn.s : Int))).setCell ⟨w.heap.size, 5, none⟩ (.int .i64 (REP.cn.a : Int))).setCell ⟨w.heap.size, 6, none⟩ (.int .i64 (REP.cn.f : Int))).setCell ⟨w.heap.size, 7, none⟩ (.int .i64 (REP.ticks : Int))).setCell ⟨w.heap.size, 8, none⟩ (.int .i64 (REP.idle : Int))) (.slice aoE REP.evs.length capE) REP.evs ∧ RowBlk 37 (((((((((w4.setCell ⟨w.heap.size, 0, none⟩ (.slice aoE REP.evs.length capE)).setCell ⟨w.heap.size, 1, none⟩ (.slice (some ⟨gw, 0, none⟩) REP.ws.length REP.ws.length)).setCell ⟨w.heap.size, 2, none⟩ (.int .i64 (REP.cn.r : Int))).setCell ⟨w.heap.size, 3, none⟩ (.int .i64 (REP.cn.w : Int))).setCell ⟨w.heap.size, 4, none⟩ (.int .i64 (REP.cn.s : Int))).setCell ⟨w.heap.size, 5, none⟩ (.int .i64 (REP.cn.a : Int))).setCell ⟨w.heap.size, 6, none⟩ (.int .i64 (REP.cn.f : Int))).setCell ⟨w.heap.size, 7, none⟩ (.int .i64 (REP.ticks : Int))).setCell ⟨w.heap.size, 8, none⟩ (.int .i64 (REP.idle : Int))) gw (u64s REP.ws) ∧ Below w.heap.size w (((((((((w4.setCell ⟨w.heap.size, 0, none⟩ (.slice aoE REP.evs.length capE)).setCell ⟨w.heap.size, 1, none⟩ (.slice (some ⟨gw, 0, none⟩) REP.ws.length REP.ws.length)).setCell ⟨w.heap.size, 2, none⟩ (.int .i64 (REP.cn.r : Int))).setCell ⟨w.heap.size, 3, none⟩ (.int .i64 (REP.cn.w : Int))).setCell ⟨w.heap.size, 4, none⟩ (.int .i64 (REP.cn.s : Int))).setCell ⟨w.heap.size, 5, none⟩ (.int .i64 (REP.cn.a : Int))).setCell ⟨w.heap.size, 6, none⟩ (.int .i64 (REP.cn.f : Int))).setCell ⟨w.heap.size, 7, none⟩ (.int .i64 (REP.ticks : Int))).setCell ⟨w.heap.size, 8, none⟩ (.int .i64 (REP.idle : Int)))) := Lib.hid
        ⟨by
          have e : repVs (.slice aoE REP.evs.length capE) gw REP = _ := (set9 (show zeroVs.length = 9 from rfl) (.slice aoE REP.evs.length capE) (.slice (some ⟨gw, 0, none⟩) REP.ws.length REP.ws.length) (.int .i64 (REP.cn.r : Int)) (.int .i64 (REP.cn.w : Int)) (.int .i64 (REP.cn.s : Int)) (.int .i64 (REP.cn.a : Int)) (.int .i64 (REP.cn.f : Int)) (.int .i64 (REP.ticks : Int)) (.int .i64 (REP.idle : Int))).symm
          rw [e]
          exact (((((((((HZ4.out.put 0 _).put 1 _).put 2 _).put 3 _).put 4 _).put 5 _).put 6 _).put 7 _).put 8 _),
         (HEV.out.mono (by omega)).other HZ4.out (by decide) (by decide) (by decide) (fun k _ hk => by rw [heap_far hk, heap_far hk, heap_far hk, heap_far hk, heap_far hk, heap_far hk, heap_far hk, heap_far hk, heap_far hk]),
         (((((((((HRW.out.other hgb0 _).other hgb0 _).other hgb0 _).other hgb0 _).other hgb0 _).other hgb0 _).other hgb0 _).other hgb0 _).other hgb0 _),
         (((((((((HB4.out.setCell (Nat.le_refl _) _).setCell (Nat.le_refl _) _).setCell (Nat.le_refl _) _).setCell (Nat.le_refl _) _).setCell (Nat.le_refl _) _).setCell (Nat.le_refl _) _).setCell (Nat.le_refl _) _).setCell (Nat.le_refl _) _).setCell (Nat.le_refl _) _)⟩
      generalize ((((((((w4.setCell ⟨w.heap.size, 0, none⟩ (.slice aoE REP.evs.length capE)).setCell ⟨w.heap.size, 1, none⟩ (.slice (some ⟨gw, 0, none⟩) REP.ws.length REP.ws.length)).setCell ⟨w.heap.size, 2, none⟩ (.int .i64 (REP.cn.r : Int))).setCell ⟨w.heap.size, 3, none⟩ (.int .i64 (REP.cn.w : Int))).setCell ⟨w.heap.size, 4, none⟩ (.int .i64 (REP.cn.s : Int))).setCell ⟨w.heap.size, 5, none⟩ (.int .i64 (REP.cn.a : Int))).setCell ⟨w.heap.size, 6, none⟩ (.int .i64 (REP.cn.f : Int))).setCell ⟨w.heap.size, 7, none⟩ (.int .i64 (REP.ticks : Int))).setCell ⟨w.heap.size, 8, none⟩ (.int .i64 (REP.idle : Int)) = W7 at H7 ⊢
      have q0 := H7.out.1.cell (i := 0) rfl
      have q1 := H7.out.1.cell (i := 1) rfl
      have q2 := H7.out.1.cell (i := 2) rfl
      have q3 := H7.out.1.cell (i := 3) rfl
      have q4 := H7.out.1.cell (i := 4) rfl
      have q5 := H7.out.1.cell (i := 5) rfl
      have q6 := H7.out.1.cell (i := 6) rfl
      have q7 := H7.out.1.cell (i := 7) rfl
      have q8 := H7.out.1.cell (i := 8) rfl
      exact bodyPost_ret (v := .tuple #[.agg (repVs (.slice aoE REP.evs.length capE) gw REP).toArray, .int .i64 0]) (by simp [results, Try.results13, go_sem, q0, q1, q2, q3, q4, q5, q6, q7, q8, repVs]) rfl (playOk_mk HREP.out H7.out.2.1 H7.out.2.2.1 (by omega) H7.out.2.2.2)

def playErr (n : Int) (cs : List CallV) (np er : Nat) : Nat := if checkL n (thr cs) np ≠ 0 then checkL n (thr cs) np else er
/-- what a play gives -/
def PlayG (M : Mach) (n : Int) (er : Nat) (cs : List CallV) (ws : List Nat) (s : M.S) (picks : List Int) (w : World) (e : Ending) (w' : World) : Prop :=
  ∃ a1 n1 c1 a2 n2 c2, ∃ i0 i1 i2 i3 i4 i5 i6 : Int, ∃ v, e = .returned (.tuple #[v, .int .i64 (playErr n cs picks.length er : Nat)]) ∧
    v = .agg #[.slice a1 n1 c1, .slice a2 n2 c2, .int .i64 i0, .int .i64 i1, .int .i64 i2, .int .i64 i3, .int .i64 i4, .int .i64 i5, .int .i64 i6] ∧
    (playErr n cs picks.length er ≠ 0 → v = zeroRep) ∧ (playErr n cs picks.length er = 0 → RepG w.heap.size w' v (repOf (endM (M := M) cs ws s picks))) ∧ Below w.heap.size w w'
theorem RepG.other {B : Nat} {w w' : World} {v : Value} {st : RepR} (h : RepG B w v st) {g : Nat} {vs : List Value} (hr : RowBlk 31 w g vs) (hb : ∀ k, k < w.heap.size → k ≠ g → w'.heap[k]? = w.heap[k]?) : RepG B w' v st := by
  obtain ⟨ev, gw, h1, h2, h3, h4⟩ := h
  exact ⟨ev, gw, h1, h2.other hr (by decide) (by decide) (by decide) hb, h3.same (hb _ h3.lt (row_ne h3 hr (by decide))), h4⟩
theorem RepG.mono {B B' : Nat} {w : World} {v : Value} {st : RepR} (h : RepG B w v st) (hB : B' ≤ B) : RepG B' w v st := by
  obtain ⟨ev, gw, h1, h2, h3, h4⟩ := h
  exact ⟨ev, gw, h1, h2.mono hB, h3, Nat.le_trans hB h4⟩

theorem play_any (I : St M → Prop) (s0 : M.S) (tid : TypeId) (u : Value) (n : Int) (size er : Nat) (ao : Option Addr) (b o cap : Nat) (cs : List CallV) (ao3 : Option Addr) (b3 o3 cap3 : Nat) (picks : List Int) (ob co : Nat) (w : World) (ha : 0 < cs.length → ao = some ⟨b, o, none⟩) (hb : 0 < cs.length → b < w.heap.size) (hc : CallsAt w b o cs) (hcap : ao = none → cap = 0)
    (ha3 : 0 < picks.length → ao3 = some ⟨b3, o3, none⟩) (hb3 : 0 < picks.length → b3 < w.heap.size) (hc3 : ICells w b3 o3 picks) (hnp : picks.length ≤ 9223372036854775807)
    (ho : w.cell? ⟨ob, 0, none⟩ = some (.iface tid u)) (hS : checkL n (thr cs) picks.length = 0 → SizeC tid u n size er) (hP : checkL n (thr cs) picks.length = 0 → er = 0 → NotFilled tid u ∧ PlaceC cs I s0 tid u n ∧ 1 ≤ size ∧ size ≤ 65536 ∧ I (stM cs (List.replicate size 0) s0)) :
    Calls Try.prog 13 #[.int .i64 n, .slice ao cs.length cap, .slice ao3 picks.length cap3, .slice (some ⟨ob, 0, none⟩) 1 co] w (PlayG M n er cs (List.replicate size 0) s0 picks w) := by
  by_cases h1 : checkL n (thr cs) picks.length = 0
  · by_cases h2 : er = 0
    · have e : playErr n cs picks.length er = 0 := by unfold playErr; rw [if_neg (by simpa using h1), h2]
      obtain ⟨p1, p2, p3, p4, p5⟩ := hP h1 h2
      have hS' := hS h1
      rw [h2] at hS'
      refine (play_ok I s0 tid u n size ao b o cap cs ao3 b3 o3 cap3 picks ob co w ha hb hc hcap ha3 hb3 hc3 h1 ho hS' p1 p2 p3 p4 p5).mono ?_
      rintro e' w' ⟨v, rfl, hR, hb'⟩
      obtain ⟨ev, gw, rfl, hev, hrw, hgw⟩ := hR
      obtain ⟨ekk, hoo, hmm, hkk⟩ := hev
      obtain ⟨aoE, gE, capE, rfl, _⟩ := owns_open hoo
      exact ⟨_, _, _, _, _, _, _, _, _, _, _, _, _, _, by rw [e]; rfl, rfl, fun h => absurd e h, fun _ => ⟨_, gw, rfl, ⟨ekk, hoo, hmm, hkk⟩, hrw, hgw⟩, hb'⟩
    · have e : playErr n cs picks.length er = er := by unfold playErr; rw [if_neg (by simpa using h1)]
      refine (play_bad2 tid u n size er ao b o cap cs ao3 picks.length cap3 ob co w ha hb hc hnp h1 ho (hS h1) (by omega)).mono ?_
      rintro e' w' ⟨rfl, hb'⟩
      exact ⟨_, _, _, _, _, _, _, _, _, _, _, _, _, zeroRep, by rw [e], rfl, fun _ => rfl, fun h => absurd (e.symm.trans h) h2, hb'⟩
  · have e : playErr n cs picks.length er = checkL n (thr cs) picks.length := by unfold playErr; rw [if_pos h1]
    refine (play_bad1 n ao b o cap cs ao3 picks.length cap3 ob co w ha hb hc hnp h1).mono ?_
    rintro e' w' ⟨rfl, hb'⟩
    exact ⟨_, _, _, _, _, _, _, _, _, _, _, _, _, zeroRep, by rw [e], rfl, fun _ => rfl, fun h => absurd (e.symm.trans h) h1, hb'⟩
end
end Go.Proofs.Ytglpalomhhhmhaa
