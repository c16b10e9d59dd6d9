/- Walks of loom: check, Play, NewCells, Cells. -/
import Derived.Test.YtjlopeijdmnacaaYB
namespace Go.Proofs.Ytjlopeijdmnacaa
open Go.RowKit

def checkL (n : Int) (ts : List Int) (m : Nat) : Nat := if wrongL n [] ≠ 0 then wrongL n [] else if 65536 < m then 3 else wrongL n ts

set_option maxRecDepth 100000 in
set_option maxHeartbeats 2000000 in
theorem check_any (n : Int) (ao : Option Addr) (b o cap : Nat) (cs : List CallV) (ao3 : Option Addr) (np cap3 : Nat) (w : World) (ha : 0 < cs.length → ao = some ⟨b, o, none⟩) (hb : 0 < cs.length → b < w.heap.size) (hc : CallsAt w b o cs) (hnp : np ≤ 9223372036854775807) :
    Calls Try.prog 40 #[.int .i64 n, .slice ao cs.length cap, .slice ao3 np cap3] w fun e w' => e = .returned (.int .i64 (checkL n (thr cs) np : Nat)) ∧ Below w.heap.size w w' := by
  have h0 := new_any n none 0 0 0 [] w (fun h => absurd h (by simp)) (fun h => absurd h (by simp)) (fun i x h => by simp at h)
  simp only [List.length_nil] at h0
  by_cases hw : wrongL n [] = 0
  · by_cases hl : 65536 < np
    · have hC : checkL n (thr cs) np = 3 := by unfold checkL; rw [if_neg (by simpa using hw), if_pos hl]
      rw [hC]
      have HH := Lib.hid hw
      clear hw hC
      go_enter Try.func40, Try.ntmps40
      go_wp2_with fail
      refine h0.mono ?_
      rintro e w1 ⟨_, h1, hb1⟩
      obtain ⟨lb, mb, f, rfl, _⟩ := h1 HH.out
      clear h1
      go_wp2_with fail
      go_ret
      exact ⟨rfl, hb1⟩
    · have hC : checkL n (thr cs) np = wrongL n (thr cs) := by unfold checkL; rw [if_neg (by simpa using hw), if_neg hl]
      rw [hC]
      have HH := Lib.hid hw
      clear hw hC
      go_enter Try.func40, Try.ntmps40
      go_wp2_with fail
      refine h0.mono ?_
      rintro e w1 ⟨_, h1, hb1⟩
      obtain ⟨lb, mb, f, rfl, _⟩ := h1 HH.out
      have HB1 := Lib.hid hb1
      have z1 := hb1.size
      clear h1 hb1
      go_wp2_with fail
      refine (new_any n ao b o cap cs w1 ha (fun h => by have := hb h; omega) (hc.stays HB1.out hb)).mono ?_
      rintro e w2 ⟨h1, h2, hb2⟩
      have HB2 := Lib.hid (HB1.out.trans (hb2.mono z1))
      clear hb2
      by_cases hr : wrongL n (thr cs) = 0
      · obtain ⟨lb, mb, f, rfl, _⟩ := h2 hr
        have HR := Lib.hid hr
        clear h1 h2 hr
        go_wp2_with fail
        go_ret
        exact ⟨by rw [HR.out]; rfl, HB2.out⟩
      · obtain rfl := h1 hr
        clear h1 h2 hr
        go_wp2_with fail
        go_ret
        exact ⟨rfl, HB2.out⟩
  · have hC : checkL n (thr cs) np = wrongL n [] := by unfold checkL; rw [if_pos hw]
    rw [hC]
    have HH := Lib.hid hw
    have hne : ((wrongL n [] : Nat) : Int) ≠ 0 := by omega
    clear hw hC
    go_enter Try.func40, Try.ntmps40
    go_wp2_with fail
    refine h0.mono ?_
    rintro e w1 ⟨h1, _, hb1⟩
    obtain rfl := h1 HH.out
    clear h1
    rw [show thr [] = ([] : List Int) from rfl]
    go_wp2_with fail
    go_ret
    exact ⟨rfl, hb1⟩

set_option maxHeartbeats 400000 in
theorem newCells_one (size : Int) (w : World) : Calls Try.prog 31 #[.int .i64 size] w fun e w' => e = .returned (cellsV size) ∧ w = w' := by
  go_enter Try.func31, Try.ntmps31
  go_wp2
  go_ret
  exact ⟨rfl, rfl⟩

def zeroVs : List Value := [.slice none 0 0, .slice none 0 0, .int .i64 0, .int .i64 0, .int .i64 0, .int .i64 0, .int .i64 0, .int .i64 0, .int .i64 0]
def zeroRep : Value := .agg zeroVs.toArray

set_option maxRecDepth 100000 in
set_option maxHeartbeats 2000000 in
theorem play_bad1 (n : Int) (ao : Option Addr) (b o cap : Nat) (cs : List CallV) (ao3 : Option Addr) (np cap3 : Nat) (ob co : Nat) (w : World) (ha : 0 < cs.length → ao = some ⟨b, o, none⟩) (hb : 0 < cs.length → b < w.heap.size) (hc : CallsAt w b o cs) (hnp : np ≤ 9223372036854775807) (h : checkL n (thr cs) np ≠ 0) :
    Calls Try.prog 30 #[.int .i64 n, .slice ao cs.length cap, .slice ao3 np cap3, .slice (some ⟨ob, 0, none⟩) 1 co] w fun e w' => e = .returned (.tuple #[zeroRep, .int .i64 (checkL n (thr cs) np : Nat)]) ∧ Below w.heap.size w w' := by
  have hne : ((checkL n (thr cs) np : Nat) : Int) ≠ 0 := by omega
  have HA := Lib.hid ha
  have HB := Lib.hid hb
  have HC := Lib.hid hc
  clear h ha hb hc
  go_enter Try.func30, Try.ntmps30
  go_wp2_with fail
  refine (check_any n ao b o cap cs ao3 np cap3 _ HA.out (fun h => by have := HB.out h; simp; omega) (HC.out.stays ((Below.refl w.heap.size w).alloc (Nat.le_refl _) _) HB.out) hnp).mono ?_
  rintro e w1 ⟨rfl, hb1⟩
  have hz : RowBlk 53 w1 w.heap.size zeroVs := (RowBlk.new w zeroVs 53).same (hb1.block _ (by simp))
  have HB1 : Hid (Below w.heap.size w w1) := Lib.hid ((((Below.refl w.heap.size w).alloc (Nat.le_refl _) _)).trans (hb1.mono (by simp)))
  have r0 := hz.cell (i := 0) rfl
  have r1 := hz.cell (i := 1) rfl
  have r2 := hz.cell (i := 2) rfl
  have r3 := hz.cell (i := 3) rfl
  have r4 := hz.cell (i := 4) rfl
  have r5 := hz.cell (i := 5) rfl
  have r6 := hz.cell (i := 6) rfl
  have r7 := hz.cell (i := 7) rfl
  have r8 := hz.cell (i := 8) rfl
  have fr : ∀ k, w1.frozen? ⟨w.heap.size, k, none⟩ = false := fun k => hz.free
  clear hb1 hz
  go_wp2_with fail
  exact bodyPost_ret (v := .tuple #[zeroRep, .int .i64 (checkL n (thr cs) np : Nat)]) (by simp [results, Try.results30, go_sem, r0, r1, r2, r3, r4, r5, r6, r7, r8, zeroRep, zeroVs]) rfl ⟨rfl, (((((((((HB1.out.setCell (Nat.le_refl _) _).setCell (Nat.le_refl _) _).setCell (Nat.le_refl _) _).setCell (Nat.le_refl _) _).setCell (Nat.le_refl _) _).setCell (Nat.le_refl _) _).setCell (Nat.le_refl _) _).setCell (Nat.le_refl _) _).setCell (Nat.le_refl _) _)⟩

theorem check_zero {n : Int} {ts : List Int} {m : Nat} (h : checkL n ts m = 0) : wrongL n ts = 0 ∧ m ≤ 65536 := by
  unfold checkL at h
  split at h
  · next h1 => exact absurd h h1
  · split at h
    · cases h
    · next h2 => exact ⟨h, by omega⟩
theorem wrong_len {n : Int} {ts : List Int} (h : wrongL n ts = 0) : ts.length ≤ 1000 := by
  unfold wrongL at h
  split at h
  · cases h
  · split at h
    · cases h
    · omega

set_option maxRecDepth 100000 in
set_option maxHeartbeats 2000000 in
theorem play_bad2 (n size : Int) (ao : Option Addr) (b o cap : Nat) (cs : List CallV) (ao3 : Option Addr) (np cap3 : Nat) (ob co : Nat) (w : World) (ha : 0 < cs.length → ao = some ⟨b, o, none⟩) (hb : 0 < cs.length → b < w.heap.size) (hc : CallsAt w b o cs) (hnp : np ≤ 9223372036854775807) (h : checkL n (thr cs) np = 0)
    (ho : w.cell? ⟨ob, 0, none⟩ = some (cellsV size)) (hs : size < 1 ∨ 64 < size) :
    Calls Try.prog 30 #[.int .i64 n, .slice ao cs.length cap, .slice ao3 np cap3, .slice (some ⟨ob, 0, none⟩) 1 co] w fun e w' => e = .returned (.tuple #[zeroRep, .int .i64 10]) ∧ Below w.heap.size w w' := by
  have hob := World.block_lt_of_cell? w ⟨ob, 0, none⟩ ho
  have HA := Lib.hid ha
  have HB := Lib.hid hb
  have HC := Lib.hid hc
  have HW := Lib.hid (check_zero h).1
  have HO := Lib.hid ho
  clear ha hb hc ho
  have hch := check_any n ao b o cap cs ao3 np cap3 (w.alloc (.cells zeroVs.toArray 53)) HA.out (fun h => by have := HB.out h; simp; omega) (HC.out.stays ((Below.refl w.heap.size w).alloc (Nat.le_refl _) _) HB.out) hnp
  rw [h] at hch
  go_enter Try.func30, Try.ntmps30
  go_wp2_with fail
  refine hch.mono ?_
  rintro e w1 ⟨rfl, hb1⟩
  have hz : RowBlk 53 w1 w.heap.size zeroVs := (RowBlk.new w zeroVs 53).same (hb1.block _ (by simp))
  have HB1 : Hid (Below w.heap.size w w1) := Lib.hid ((((Below.refl w.heap.size w).alloc (Nat.le_refl _) _)).trans (hb1.mono (by simp)))
  have z1 := HB1.out.size
  have z1' : w.heap.size < w1.heap.size := hz.lt
  have HZ := Lib.hid hz
  clear hb1 hz h hch
  go_wp2_with fail
  refine (lnew_size n size ao b o cap cs ob co w1 HA.out (fun h => by have := HB.out h; omega) (HC.out.stays HB1.out HB.out) HW.out ((HB1.out.cell (p := ⟨ob, 0, none⟩) hob).trans HO.out) hs).mono ?_
  rintro e w2 ⟨rfl, hb2⟩
  have hz := HZ.out.same (hb2.block _ z1')
  have HB2 : Hid (Below w.heap.size w w2) := Lib.hid (HB1.out.trans (hb2.mono z1))
  have r0 := hz.cell (i := 0) rfl
  have r1 := hz.cell (i := 1) rfl
  have r2 := hz.cell (i := 2) rfl
  have r3 := hz.cell (i := 3) rfl
  have r4 := hz.cell (i := 4) rfl
  have r5 := hz.cell (i := 5) rfl
  have r6 := hz.cell (i := 6) rfl
  have r7 := hz.cell (i := 7) rfl
  have r8 := hz.cell (i := 8) rfl
  have fr : ∀ k, w2.frozen? ⟨w.heap.size, k, none⟩ = false := fun k => hz.free
  clear hb2 hz
  go_wp2_with fail
  exact bodyPost_ret (v := .tuple #[zeroRep, .int .i64 10]) (by simp [results, Try.results30, go_sem, r0, r1, r2, r3, r4, r5, r6, r7, r8, zeroRep, zeroVs]) rfl ⟨rfl, (((((((((HB2.out.setCell (Nat.le_refl _) _).setCell (Nat.le_refl _) _).setCell (Nat.le_refl _) _).setCell (Nat.le_refl _) _).setCell (Nat.le_refl _) _).setCell (Nat.le_refl _) _).setCell (Nat.le_refl _) _).setCell (Nat.le_refl _) _).setCell (Nat.le_refl _) _)⟩

theorem pick_pos {cs : List CallV} {size : Nat} {st : PlaySt} {p : Int} (h : ∀ x ∈ st.evs, 0 < x.t) : ∀ x ∈ (pickStep cs size st p).evs, 0 < x.t := by
  unfold pickStep
  split
  · exact h
  · split
    · exact h
    · intro y hy
      rcases List.mem_append.1 hy with h1 | h1
      · exact h y h1
      · rw [List.mem_singleton] at h1; subst h1; exact Nat.succ_pos _
theorem picks_pos {cs : List CallV} {size : Nat} : ∀ (picks : List Int) (st : PlaySt), (∀ x ∈ st.evs, 0 < x.t) → ∀ x ∈ (picks.foldl (pickStep cs size) st).evs, 0 < x.t
  | [], _, h => h
  | p :: r, st, h => picks_pos r (pickStep cs size st p) (pick_pos h)
def stEnd (cs : List CallV) (size : Nat) (picks : List Int) : PlaySt := picks.foldl (pickStep cs size) (st0 cs size)
theorem stEnd_snoc {cs : List CallV} {size : Nat} {picks : List Int} {j : Nat} {p : Int} (h : picks[j]? = some p) : stEnd cs size (picks.take (j + 1)) = pickStep cs size (stEnd cs size (picks.take j)) p := by
  unfold stEnd
  rw [take_snoc h, List.foldl_append]
  rfl
theorem stEnd_pos {cs : List CallV} {size : Nat} {picks : List Int} : ∀ x ∈ (stEnd cs size picks).evs, 0 < x.t := picks_pos _ _ (fun x h => by simp [st0] at h)
theorem pick_any (cs : List CallV) (size j B0 L top lb mb bm bw mc gc go capo capC : Nat) (aoC : Option Addr) (w : World) (st : PlaySt) (p : Int) (h : LoomIs cs size j B0 L top lb mb bm bw mc gc go capo capC aoC w st) (hp : -9223372036854775808 ≤ p ∧ p ≤ 9223372036854775807) (hj : j < 65536) :
    Calls Try.prog 42 #[.pointer (some ⟨L, 0, none⟩), .int .i64 p] w fun e w' => e = .returned (.tuple #[]) ∧ LoomIs cs size (j + 1) B0 L top lb mb bm bw mc gc go capo capC aoC w' (pickStep cs size st p) ∧ Below B0 w w' := by
  cases hn : nowOf (thr cs) st.fin p with
  | none => exact pick_idle cs size j B0 L top lb mb bm bw mc gc go capo capC aoC w st p h hp hj hn
  | some i => exact pick_turn cs size j B0 L top lb mb bm bw mc gc go capo capC aoC w st p h hj hn

theorem EvsIs.mono {B B' : Nat} {w : World} {v : Value} {evs : List EvG} (h : EvsIs B w v evs) (hB : B' ≤ B) : EvsIs B' w v evs := by
  obtain ⟨ek, h1, h2, h3⟩ := h
  exact ⟨ek, owns_mono h1 hB, h2, fun y hy => ⟨(h3 y hy).1, Nat.le_trans hB (h3 y hy).2⟩⟩
def PlayOk (cs : List CallV) (size : Nat) (picks : List Int) (w : World) (e : Ending) (w' : World) : Prop :=
  ∃ v, e = .returned (.tuple #[v, .int .i64 0]) ∧ RepIs w.heap.size w' v (stEnd cs size picks) ∧ Below w.heap.size w w'

set_option maxRecDepth 100000 in
set_option maxHeartbeats 4000000 in
theorem play_ok (n : Int) (size : Nat) (ao : Option Addr) (b o cap : Nat) (cs : List CallV) (ao3 : Option Addr) (b3 o3 cap3 : Nat) (picks : List Int) (ob co : Nat) (w : World) (ha : 0 < cs.length → ao = some ⟨b, o, none⟩) (hb : 0 < cs.length → b < w.heap.size) (hc : CallsAt w b o cs) (hcap : ao = none → cap = 0)
    (ha3 : 0 < picks.length → ao3 = some ⟨b3, o3, none⟩) (hb3 : 0 < picks.length → b3 < w.heap.size) (hc3 : ICells w b3 o3 picks) (h : checkL n (thr cs) picks.length = 0)
    (ho : w.cell? ⟨ob, 0, none⟩ = some (cellsV size)) (hs1 : 1 ≤ size) (hs2 : size ≤ 64) :
    Calls Try.prog 30 #[.int .i64 n, .slice ao cs.length cap, .slice ao3 picks.length cap3, .slice (some ⟨ob, 0, none⟩) 1 co] w (PlayOk cs size picks w) := by
  have hob := World.block_lt_of_cell? w ⟨ob, 0, none⟩ ho
  have HA := Lib.hid ha
  have HB := Lib.hid hb
  have HC := Lib.hid hc
  have HA3 := Lib.hid ha3
  have HB3 := Lib.hid hb3
  have HC3 := Lib.hid hc3
  have HCP := Lib.hid hcap
  have HW := Lib.hid (check_zero h).1
  have hpl := (check_zero h).2
  have hcl := wrong_len (check_zero h).1
  rw [thr_len] at hcl
  have HO := Lib.hid ho
  clear ha hb hc ho ha3 hb3 hc3 hcap
  have hch := check_any n ao b o cap cs ao3 picks.length cap3 (w.alloc (.cells zeroVs.toArray 53)) HA.out (fun h => by have := HB.out h; simp; omega) (HC.out.stays ((Below.refl w.heap.size w).alloc (Nat.le_refl _) _) HB.out) (by omega)
  rw [h] at hch
  go_enter Try.func30, Try.ntmps30
  go_wp2_with fail
  refine hch.mono ?_
  rintro e w1 ⟨rfl, hb1⟩
  have hz : RowBlk 53 w1 w.heap.size zeroVs := (RowBlk.new w zeroVs 53).same (hb1.block _ (by simp))
  have HB1 : Hid (Below w.heap.size w w1) := Lib.hid ((((Below.refl w.heap.size w).alloc (Nat.le_refl _) _)).trans (hb1.mono (by simp)))
  have z1 := HB1.out.size
  have z1' : w.heap.size < w1.heap.size := hz.lt
  have HZ := Lib.hid hz
  clear hb1 hz h hch
  go_wp2_with fail
  refine (lnew_ok n size ao b o cap cs ob co w1 HA.out (fun h => by have := HB.out h; omega) (HC.out.stays HB1.out HB.out) HCP.out HW.out hcl ((HB1.out.cell (p := ⟨ob, 0, none⟩) hob).trans HO.out) hs1 hs2).mono ?_
  rintro e w2 ⟨L, top, lb, mb, bm, bw, mc, gc, go, capo, capC, aoC, rfl, hL, hb2⟩
  have HL := Lib.hid hL
  have HB2 := Lib.hid hb2
  clear hL hb2
  go_wp2_with fail
  go_loopw [36] (fun k wr => ∃ j : Nat, j ≤ picks.length ∧ k = .int .i64 j ∧ Hid (LoomIs cs size j w1.heap.size L top lb mb bm bw mc gc go capo capC aoC wr (stEnd cs size (picks.take j))) ∧ Hid (Below w1.heap.size w1 wr)) (fun k _ => picks.length - (intOf k).toNat)
  case atStart => exact ⟨0, Nat.zero_le _, rfl, HL, HB2⟩
  case round =>
    obtain ⟨j, hj, rfl, hLj, hBj⟩ := hrel
    by_cases hlt : j < picks.length
    · obtain rfl := HA3.out (by omega)
      obtain ⟨p, hp⟩ : ∃ x, picks[j]? = some x := ⟨picks[j], List.getElem?_eq_getElem (by omega)⟩
      obtain ⟨c3, hpb⟩ := (HC3.out.stays (HB1.out.trans (hBj.out.mono z1)) HB3.out) j _ hp
      have HS := Lib.hid (stEnd_snoc (cs := cs) (size := size) hp)
      clear hp
      go_wp2_with fail
      refine (pick_any cs size j w1.heap.size L top lb mb bm bw mc gc go capo capC aoC _ _ p hLj.out hpb (by omega)).mono ?_
      rintro e w3 ⟨rfl, hL3, hb3⟩
      rw [← HS.out] at hL3
      have HL3 := Lib.hid hL3
      have HB3' := Lib.hid (hBj.out.trans hb3)
      clear hL3 hb3
      go_wp2_with fail
      go_roundw
      case rel => exact ⟨j + 1, by omega, by go_num, HL3, HB3'⟩
      case measure => simp [intOf]; omega
    · have hjn : j = picks.length := by omega
      subst hjn
      rw [List.take_length] at hLj
      go_wp2_with fail
      have z3 := hBj.out.size
      have HZ3 := Lib.hid (HZ.out.same (hBj.out.block _ z1'))
      have HB3'' := Lib.hid (HB1.out.trans (hBj.out.mono z1))
      refine (report_any cs size picks.length w1.heap.size L top lb mb bm bw mc gc go capo capC aoC wr _ hLj.out stEnd_pos (by have := hLj.out.lws; omega)).mono ?_
      rintro e w4 ⟨v, rfl, hR, hb4⟩
      have hz := HZ3.out.same (hb4.block _ HZ3.out.lt)
      have HB4 : Hid (Below w.heap.size w w4) := Lib.hid (HB3''.out.trans (hb4.mono HB3''.out.size))
      obtain ⟨ev, gw, rfl, hev, hrw, hgw⟩ := hR
      obtain ⟨ekk, hoo, hmm, hkk⟩ := hev
      obtain ⟨aoE, gE, capE, hu3, _⟩ := owns_open hoo
      have HEV : Hid (EvsIs wr.heap.size w4 (.slice aoE (stEnd cs size picks).evs.length capE) (stEnd cs size picks).evs) := Lib.hid (by rw [← hu3]; exact ⟨ekk, hoo, hmm, hkk⟩)
      subst hu3
      have r0 := hz.cell (i := 0) rfl
      have r1 := hz.cell (i := 1) rfl
      have r2 := hz.cell (i := 2) rfl
      have r3 := hz.cell (i := 3) rfl
      have r4 := hz.cell (i := 4) rfl
      have r5 := hz.cell (i := 5) rfl
      have r6 := hz.cell (i := 6) rfl
      have r7 := hz.cell (i := 7) rfl
      have r8 := hz.cell (i := 8) rfl
      have fr : ∀ k, w4.frozen? ⟨w.heap.size, k, none⟩ = false := fun k => hz.free
      have HZ4 := Lib.hid hz
      have HRW := Lib.hid hrw
      clear hb4 hz hoo hmm hkk hrw
      unfold repVs
      go_wp2_with fail
      have hgb0 : gw ≠ w.heap.size := by omega
      have H7 : Hid (RowBlk 53 (((((((((w4.setCell ⟨w.heap.size, 0, none⟩ (.slice aoE (stEnd cs size picks).evs.length capE)).setCell ⟨w.heap.size, 1, none⟩ (.slice (some ⟨gw, 0, none⟩) (stEnd cs size picks).ws.length (stEnd cs size picks).ws.length)).setCell ⟨w.heap.size, 2, none⟩ (.int .i64 ((stEnd cs size picks).cn.r : Int))).setCell ⟨w.heap.size, 3, none⟩ (.int .i64 ((stEnd cs size picks).cn.w : Int))).setCell ⟨w.heap.size, 4, none⟩ (.int .i64 ((stEnd cs size picks).cn.s : Int))).setCell ⟨w.heap.size, 5, none⟩ (.int .i64 ((stEnd cs size picks).cn.a : Int))).setCell ⟨w.heap.size, 6, none⟩ (.int .i64 ((stEnd cs size picks).cn.f : Int))).setCell ⟨w.heap.size, 7, none⟩ (.int .i64 ((stEnd cs size picks).ticks : Int))).setCell ⟨w.heap.size, 8, none⟩ (.int .i64 ((stEnd cs size picks).idle : Int))) w.heap.size (repVs (.slice aoE (stEnd cs size picks).evs.length capE) gw (stEnd cs size picks)) ∧ EvsIs w.heap.size (((((((((w4.setCell ⟨w.heap.size, 0, none⟩ (.slice aoE (stEnd cs size picks).evs.length capE)).setCell ⟨w.heap.size, 1, none⟩ (.slice (some ⟨gw, 0, none⟩) (stEnd cs size picks).ws.length (stEnd cs size picks).ws.length)).setCell ⟨w.heap.size, 2, none⟩ (.int .i64 ((stEnd cs size picks).cn.r : Int))).setCell ⟨w.heap.size, 3, none⟩ (.int .i64 ((stEnd cs size picks).cn.w : Int))).setCell ⟨w.heap.size, 4, none⟩ (.int .i64 ((stEnd cs size picks).cn.s : Int))).setCell ⟨w.heap.size, 5, none⟩ (.int .i64 ((stEnd cs size picks).cn.a : Int))).setCell ⟨w.heap.size, 6, none⟩ (.int .i64 ((stEnd cs size picks).cn.f : Int))).setCell ⟨w.heap.size, 7, none⟩ (.int .i64 ((stEnd cs size picks).ticks : Int))).setCell ⟨w.heap.size, 8, none⟩ (.int .i64 ((stEnd cs size picks).idle : Int))) (.slice aoE (stEnd cs size picks).evs.length capE) (stEnd cs size picks).evs ∧ RowBlk 43 (((((((((w4.setCell ⟨w.heap.size, 0, none⟩ (.slice aoE (stEnd cs size picks).evs.length capE)).setCell ⟨w.heap.size, 1, none⟩ (.slice (some ⟨gw, 0, none⟩) (stEnd cs size picks).ws.length (stEnd cs size picks).ws.length)).setCell ⟨w.heap.size, 2, none⟩ (.int .i64 ((stEnd cs size picks).cn.r : Int))).setCell ⟨w.heap.size, 3, none⟩ (.int .i64 ((stEnd cs size picks).cn.w : Int))).setCell ⟨w.heap.size, 4, none⟩ (.int .i64 ((stEnd cs size picks).cn.s : Int))).setCell ⟨w.heap.size, 5, none⟩ (.int .i64 ((stEnd cs size picks).cn.a : Int))).setCell ⟨w.heap.size, 6, none⟩ (.int .i64 ((stEnd cs size picks).cn.f : Int))).setCell ⟨w.heap.size, 7, none⟩ (.int .i64 ((stEnd cs size picks).ticks : Int))).setCell ⟨w.heap.size, 8, none⟩ (.int .i64 ((stEnd cs size picks).idle : Int))) gw (u64s (stEnd cs size picks).ws) ∧ Below w.heap.size w (((((((((w4.setCell ⟨w.heap.size, 0, none⟩ (.slice aoE (stEnd cs size picks).evs.length capE)).setCell ⟨w.heap.size, 1, none⟩ (.slice (some ⟨gw, 0, none⟩) (stEnd cs size picks).ws.length (stEnd cs size picks).ws.length)).setCell ⟨w.heap.size, 2, none⟩ (.int .i64 ((stEnd cs size picks).cn.r : Int))).setCell ⟨w.heap.size, 3, none⟩ (.int .i64 ((stEnd cs size picks).cn.w : Int))).setCell ⟨w.heap.size, 4, none⟩ (.int .i64 ((stEnd cs size picks).cn.s : Int))).setCell ⟨w.heap.size, 5, none⟩ (.int .i64 ((stEnd cs size picks).cn.a : Int))).setCell ⟨w.heap.size, 6, none⟩ (.int .i64 ((stEnd cs size picks).cn.f : Int))).setCell ⟨w.heap.size, 7, none⟩ (.int .i64 ((stEnd cs size picks).ticks : Int))).setCell ⟨w.heap.size, 8, none⟩ (.int .i64 ((stEnd cs size picks).idle : Int)))) := Lib.hid
        ⟨by
          have e : repVs (.slice aoE (stEnd cs size picks).evs.length capE) gw (stEnd cs size picks) = _ := (set9 (show zeroVs.length = 9 from rfl) (.slice aoE (stEnd cs size picks).evs.length capE) (.slice (some ⟨gw, 0, none⟩) (stEnd cs size picks).ws.length (stEnd cs size picks).ws.length) (.int .i64 ((stEnd cs size picks).cn.r : Int)) (.int .i64 ((stEnd cs size picks).cn.w : Int)) (.int .i64 ((stEnd cs size picks).cn.s : Int)) (.int .i64 ((stEnd cs size picks).cn.a : Int)) (.int .i64 ((stEnd cs size picks).cn.f : Int)) (.int .i64 ((stEnd cs size picks).ticks : Int)) (.int .i64 ((stEnd cs size picks).idle : Int))).symm
          rw [e]
          exact (((((((((HZ4.out.put 0 _).put 1 _).put 2 _).put 3 _).put 4 _).put 5 _).put 6 _).put 7 _).put 8 _),
         (HEV.out.mono (by omega)).other HZ4.out (by decide) (by decide) (fun k _ hk => by rw [heap_far hk, heap_far hk, heap_far hk, heap_far hk, heap_far hk, heap_far hk, heap_far hk, heap_far hk, heap_far hk]),
         (((((((((HRW.out.other hgb0 _).other hgb0 _).other hgb0 _).other hgb0 _).other hgb0 _).other hgb0 _).other hgb0 _).other hgb0 _).other hgb0 _),
         (((((((((HB4.out.setCell (Nat.le_refl _) _).setCell (Nat.le_refl _) _).setCell (Nat.le_refl _) _).setCell (Nat.le_refl _) _).setCell (Nat.le_refl _) _).setCell (Nat.le_refl _) _).setCell (Nat.le_refl _) _).setCell (Nat.le_refl _) _).setCell (Nat.le_refl _) _)⟩
      generalize ((((((((w4.setCell ⟨w.heap.size, 0, none⟩ (.slice aoE (stEnd cs size picks).evs.length capE)).setCell ⟨w.heap.size, 1, none⟩ (.slice (some ⟨gw, 0, none⟩) (stEnd cs size picks).ws.length (stEnd cs size picks).ws.length)).setCell ⟨w.heap.size, 2, none⟩ (.int .i64 ((stEnd cs size picks).cn.r : Int))).setCell ⟨w.heap.size, 3, none⟩ (.int .i64 ((stEnd cs size picks).cn.w : Int))).setCell ⟨w.heap.size, 4, none⟩ (.int .i64 ((stEnd cs size picks).cn.s : Int))).setCell ⟨w.heap.size, 5, none⟩ (.int .i64 ((stEnd cs size picks).cn.a : Int))).setCell ⟨w.heap.size, 6, none⟩ (.int .i64 ((stEnd cs size picks).cn.f : Int))).setCell ⟨w.heap.size, 7, none⟩ (.int .i64 ((stEnd cs size picks).ticks : Int))).setCell ⟨w.heap.size, 8, none⟩ (.int .i64 ((stEnd cs size picks).idle : Int)) = W7 at H7 ⊢
      have q0 := H7.out.1.cell (i := 0) rfl
      have q1 := H7.out.1.cell (i := 1) rfl
      have q2 := H7.out.1.cell (i := 2) rfl
      have q3 := H7.out.1.cell (i := 3) rfl
      have q4 := H7.out.1.cell (i := 4) rfl
      have q5 := H7.out.1.cell (i := 5) rfl
      have q6 := H7.out.1.cell (i := 6) rfl
      have q7 := H7.out.1.cell (i := 7) rfl
      have q8 := H7.out.1.cell (i := 8) rfl
      exact bodyPost_ret (v := .tuple #[.agg (repVs (.slice aoE (stEnd cs size picks).evs.length capE) gw (stEnd cs size picks)).toArray, .int .i64 0]) (by simp [results, Try.results30, go_sem, q0, q1, q2, q3, q4, q5, q6, q7, q8, repVs]) rfl ⟨_, rfl, ⟨_, gw, rfl, H7.out.2.1, H7.out.2.2.1, by omega⟩, H7.out.2.2.2⟩
end Go.Proofs.Ytjlopeijdmnacaa
