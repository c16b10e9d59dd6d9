/- Walk of Rows. -/
import Derived.Test.YtpoebpnmbogmnaaGQ1
namespace Go.Proofs.Ytpoebpnmbogmnaa
open Go.RowKit
set_option linter.unusedVariables false
theorem set2 {α : Type} (l : List α) (i : Nat) (a b : α) : (l.set i a).set i b = l.set i b := by rw [List.set_set]
theorem intVs_len (l : List Int) : (intVs l).length = l.length := by unfold intVs; simp

theorem stepsL_le (evs : List EvR) (j : Nat) : stepsL (evs.take j) ≤ stepsL evs := by
  have h : stepsL evs = stepsL (evs.take j) + stepsL (evs.drop j) := by
    unfold stepsL
    rw [← List.sum_append, ← List.map_append, List.take_append_drop]
  omega
set_option maxRecDepth 100000 in
set_option maxHeartbeats 2000000 in
theorem rows_yes (cs : List CallV) (n : Nat) (r : RepR) (aoE : Option Addr) (gE capE gw : Nat) (ao : Option Addr) (b o cap B : Nat) (w : World) (hR : RowsOk cs n r) (hao : 0 < r.evs.length → aoE = some ⟨gE, 0, none⟩) (hev : EvAllG B w gE r.evs) (hc : CallsAt w b o cs) (ha : 0 < cs.length → ao = some ⟨b, o, none⟩)
    (hcl : cs.length ≤ 9223372036854775807) (hel : r.evs.length ≤ 70000) :
    Calls Try.prog 29 #[.agg (repVs (.slice aoE r.evs.length capE) gw r).toArray, .slice ao cs.length cap, .int .i64 (n : Int)] w fun e w' => e = .returned (.bool true) ∧ Below w.heap.size w w' := by
  have HAO := Lib.hid hao
  have HEV := Lib.hid hev
  have HC := Lib.hid hc
  have HA := Lib.hid ha
  have HROW := Lib.hid hR
  have hn1 := hR.n1.1
  have hn2 := hR.n1.2
  have htl := hR.tl
  have n1 : ¬ (n : Int) < 1 := by omega
  have n2 : ¬ (16 : Int) < (n : Int) := by omega
  clear hao hev hc ha hR
  rw [show (repVs (.slice aoE r.evs.length capE) gw r).toArray = #[.slice aoE r.evs.length capE, .slice (some ⟨gw, 0, none⟩) r.ws.length r.ws.length, .int .i64 (r.cn.r : Int), .int .i64 (r.cn.w : Int), .int .i64 (r.cn.s : Int), .int .i64 (r.cn.a : Int), .int .i64 (r.cn.f : Int), .int .i64 (r.ticks : Int), .int .i64 (r.idle : Int)] from rfl]
  have hmk1 := run_mkI n (by omega) (w.alloc (.cells #[.slice aoE r.evs.length capE, .slice (some ⟨gw, 0, none⟩) r.ws.length r.ws.length, .int .i64 (r.cn.r : Int), .int .i64 (r.cn.w : Int), .int .i64 (r.cn.s : Int), .int .i64 (r.cn.a : Int), .int .i64 (r.cn.f : Int), .int .i64 (r.ticks : Int), .int .i64 (r.idle : Int)] 32))
  have hmk2 := run_mkI n (by omega) ((w.alloc (.cells #[.slice aoE r.evs.length capE, .slice (some ⟨gw, 0, none⟩) r.ws.length r.ws.length, .int .i64 (r.cn.r : Int), .int .i64 (r.cn.w : Int), .int .i64 (r.cn.s : Int), .int .i64 (r.cn.a : Int), .int .i64 (r.cn.f : Int), .int .i64 (r.ticks : Int), .int .i64 (r.idle : Int)] 32)).alloc (.cells (intVs (List.replicate n 0)).toArray 3))
  rw [show (w.alloc (.cells #[.slice aoE r.evs.length capE, .slice (some ⟨gw, 0, none⟩) r.ws.length r.ws.length, .int .i64 (r.cn.r : Int), .int .i64 (r.cn.w : Int), .int .i64 (r.cn.s : Int), .int .i64 (r.cn.a : Int), .int .i64 (r.cn.f : Int), .int .i64 (r.ticks : Int), .int .i64 (r.idle : Int)] 32)).heap.size = w.heap.size + 1 by simp] at hmk1
  rw [show ((w.alloc (.cells #[.slice aoE r.evs.length capE, .slice (some ⟨gw, 0, none⟩) r.ws.length r.ws.length, .int .i64 (r.cn.r : Int), .int .i64 (r.cn.w : Int), .int .i64 (r.cn.s : Int), .int .i64 (r.cn.a : Int), .int .i64 (r.cn.f : Int), .int .i64 (r.ticks : Int), .int .i64 (r.idle : Int)] 32)).alloc (.cells (intVs (List.replicate n 0)).toArray 3)).heap.size = w.heap.size + 2 by simp] at hmk2
  go_enter Try.func29, Try.ntmps29
  go_wp2_with fail
  have HG1 : Hid (RowBlk 3 (((w.alloc (.cells #[.slice aoE r.evs.length capE, .slice (some ⟨gw, 0, none⟩) r.ws.length r.ws.length, .int .i64 (r.cn.r : Int), .int .i64 (r.cn.w : Int), .int .i64 (r.cn.s : Int), .int .i64 (r.cn.a : Int), .int .i64 (r.cn.f : Int), .int .i64 (r.ticks : Int), .int .i64 (r.idle : Int)] 32)).alloc (.cells (intVs (List.replicate n 0)).toArray 3)).alloc (.cells (intVs (List.replicate n 0)).toArray 3)) (w.heap.size + 1) (intVs (lastL cs n (r.evs.take 0)))) := Lib.hid (by
    have h := RowBlk.new (w.alloc (.cells #[.slice aoE r.evs.length capE, .slice (some ⟨gw, 0, none⟩) r.ws.length r.ws.length, .int .i64 (r.cn.r : Int), .int .i64 (r.cn.w : Int), .int .i64 (r.cn.s : Int), .int .i64 (r.cn.a : Int), .int .i64 (r.cn.f : Int), .int .i64 (r.ticks : Int), .int .i64 (r.idle : Int)] 32)) (intVs (List.replicate n 0)) 3
    have e : (w.alloc (.cells #[.slice aoE r.evs.length capE, .slice (some ⟨gw, 0, none⟩) r.ws.length r.ws.length, .int .i64 (r.cn.r : Int), .int .i64 (r.cn.w : Int), .int .i64 (r.cn.s : Int), .int .i64 (r.cn.a : Int), .int .i64 (r.cn.f : Int), .int .i64 (r.ticks : Int), .int .i64 (r.idle : Int)] 32)).heap.size = w.heap.size + 1 := by simp
    rw [e] at h
    exact h.alloc _)
  have HG2 : Hid (RowBlk 3 (((w.alloc (.cells #[.slice aoE r.evs.length capE, .slice (some ⟨gw, 0, none⟩) r.ws.length r.ws.length, .int .i64 (r.cn.r : Int), .int .i64 (r.cn.w : Int), .int .i64 (r.cn.s : Int), .int .i64 (r.cn.a : Int), .int .i64 (r.cn.f : Int), .int .i64 (r.ticks : Int), .int .i64 (r.idle : Int)] 32)).alloc (.cells (intVs (List.replicate n 0)).toArray 3)).alloc (.cells (intVs (List.replicate n 0)).toArray 3)) (w.heap.size + 2) (intVs (callL cs n (r.evs.take 0)))) := Lib.hid (by
    have h := RowBlk.new ((w.alloc (.cells #[.slice aoE r.evs.length capE, .slice (some ⟨gw, 0, none⟩) r.ws.length r.ws.length, .int .i64 (r.cn.r : Int), .int .i64 (r.cn.w : Int), .int .i64 (r.cn.s : Int), .int .i64 (r.cn.a : Int), .int .i64 (r.cn.f : Int), .int .i64 (r.ticks : Int), .int .i64 (r.idle : Int)] 32)).alloc (.cells (intVs (List.replicate n 0)).toArray 3)) (intVs (List.replicate n 0)) 3
    have e : ((w.alloc (.cells #[.slice aoE r.evs.length capE, .slice (some ⟨gw, 0, none⟩) r.ws.length r.ws.length, .int .i64 (r.cn.r : Int), .int .i64 (r.cn.w : Int), .int .i64 (r.cn.s : Int), .int .i64 (r.cn.a : Int), .int .i64 (r.cn.f : Int), .int .i64 (r.ticks : Int), .int .i64 (r.idle : Int)] 32)).alloc (.cells (intVs (List.replicate n 0)).toArray 3)).heap.size = w.heap.size + 2 := by simp
    rw [e] at h
    exact h)
  have HRE : Hid (RowBlk 32 (((w.alloc (.cells #[.slice aoE r.evs.length capE, .slice (some ⟨gw, 0, none⟩) r.ws.length r.ws.length, .int .i64 (r.cn.r : Int), .int .i64 (r.cn.w : Int), .int .i64 (r.cn.s : Int), .int .i64 (r.cn.a : Int), .int .i64 (r.cn.f : Int), .int .i64 (r.ticks : Int), .int .i64 (r.idle : Int)] 32)).alloc (.cells (intVs (List.replicate n 0)).toArray 3)).alloc (.cells (intVs (List.replicate n 0)).toArray 3)) w.heap.size [.slice aoE r.evs.length capE, .slice (some ⟨gw, 0, none⟩) r.ws.length r.ws.length, .int .i64 (r.cn.r : Int), .int .i64 (r.cn.w : Int), .int .i64 (r.cn.s : Int), .int .i64 (r.cn.a : Int), .int .i64 (r.cn.f : Int), .int .i64 (r.ticks : Int), .int .i64 (r.idle : Int)]) := Lib.hid (((RowBlk.new w [.slice aoE r.evs.length capE, .slice (some ⟨gw, 0, none⟩) r.ws.length r.ws.length, .int .i64 (r.cn.r : Int), .int .i64 (r.cn.w : Int), .int .i64 (r.cn.s : Int), .int .i64 (r.cn.a : Int), .int .i64 (r.cn.f : Int), .int .i64 (r.ticks : Int), .int .i64 (r.idle : Int)] 32).alloc _).alloc _)
  have HB0 : Hid (Below w.heap.size w (((w.alloc (.cells #[.slice aoE r.evs.length capE, .slice (some ⟨gw, 0, none⟩) r.ws.length r.ws.length, .int .i64 (r.cn.r : Int), .int .i64 (r.cn.w : Int), .int .i64 (r.cn.s : Int), .int .i64 (r.cn.a : Int), .int .i64 (r.cn.f : Int), .int .i64 (r.ticks : Int), .int .i64 (r.idle : Int)] 32)).alloc (.cells (intVs (List.replicate n 0)).toArray 3)).alloc (.cells (intVs (List.replicate n 0)).toArray 3))) := Lib.hid ((((Below.refl _ _).alloc (Nat.le_refl _) _).alloc (by simp) _).alloc (by simp; omega) _)
  clear hmk1 hmk2
  generalize ((w.alloc (.cells #[.slice aoE r.evs.length capE, .slice (some ⟨gw, 0, none⟩) r.ws.length r.ws.length, .int .i64 (r.cn.r : Int), .int .i64 (r.cn.w : Int), .int .i64 (r.cn.s : Int), .int .i64 (r.cn.a : Int), .int .i64 (r.cn.f : Int), .int .i64 (r.ticks : Int), .int .i64 (r.idle : Int)] 32)).alloc (.cells (intVs (List.replicate n 0)).toArray 3)).alloc (.cells (intVs (List.replicate n 0)).toArray 3) = w0 at HG1 HG2 HRE HB0 ⊢
  have HST : Hid (∀ j, stepsL (r.evs.take j) ≤ 70000) := Lib.hid (fun j => Nat.le_trans (stepsL_le r.evs j) (by have := HROW.out.sum; omega))
  go_loopw [9, 27] (fun s k wr => ∃ j : Nat, j ≤ r.evs.length ∧ k = .int .i64 j ∧ s = .int .i64 (stepsL (r.evs.take j) : Nat) ∧ Hid (RowBlk 3 wr (w.heap.size + 1) (intVs (lastL cs n (r.evs.take j)))) ∧ Hid (RowBlk 3 wr (w.heap.size + 2) (intVs (callL cs n (r.evs.take j)))) ∧ Hid (RowBlk 32 wr w.heap.size [.slice aoE r.evs.length capE, .slice (some ⟨gw, 0, none⟩) r.ws.length r.ws.length, .int .i64 (r.cn.r : Int), .int .i64 (r.cn.w : Int), .int .i64 (r.cn.s : Int), .int .i64 (r.cn.a : Int), .int .i64 (r.cn.f : Int), .int .i64 (r.ticks : Int), .int .i64 (r.idle : Int)]) ∧ Hid (Below w.heap.size w wr)) (fun _ k _ => r.evs.length - (intOf k).toNat)
  case atStart => exact ⟨0, Nat.zero_le _, rfl, rfl, HG1, HG2, HRE, HB0⟩
  case round =>
    obtain ⟨j, hj, rfl, hsv, hG1, hG2, hRE, hB⟩ := hrel
    obtain ⟨S, hS⟩ : ∃ S, stepsL (r.evs.take j) = S := ⟨_, rfl⟩
    rw [hS] at hsv
    subst hsv
    have HS := Lib.hid hS
    have zb := hB.out.size
    have r0 : wr.cell? ⟨w.heap.size, 0, none⟩ = some (.slice aoE r.evs.length capE) := hRE.out.cell rfl
    have r7 : wr.cell? ⟨w.heap.size, 7, none⟩ = some (.int .i64 (r.ticks : Int)) := hRE.out.cell rfl
    have zr := hRE.out.lt
    have zg1 := hG1.out.lt
    have zg2 := hG2.out.lt
    by_cases hlt : j < r.evs.length
    · obtain rfl := HAO.out (by omega)
      obtain ⟨x, hx⟩ : ∃ x, r.evs[j]? = some x := ⟨r.evs[j], List.getElem?_eq_getElem (by omega)⟩
      have hRO := HROW.out.ev j x hx
      obtain ⟨y, hy, hy0, hyn⟩ := hRO.call
      have hth : thOf cs x = y.t.toNat := by unfold thOf; rw [hy]
      obtain ⟨l, hl1, hl2, hl3⟩ := hRO.last
      obtain ⟨c, hc1, hc2, hc3⟩ := hRO.cal
      obtain ⟨p, hp⟩ : ∃ p : Nat, y.t = (p : Int) := ⟨y.t.toNat, by omega⟩
      have hpn : thOf cs x = p := by omega
      rw [hpn] at hl1 hc1
      have HTP := Lib.hid hpn
      have HL1 := Lib.hid hl1
      have HC1 := Lib.hid hc1
      have hil : x.i < cs.length := (List.getElem?_eq_some_iff.1 hy).1
      obtain rfl := HA.out (by omega)
      obtain ⟨c0, _⟩ := (HC.out.stays hB.out (fun _ => World.block_lt_of_cell? w ⟨b, _, none⟩ (HC.out x.i y hy).1)) x.i y hy
      rw [hp] at c0
      have HC0 : Hid (∀ W, Below w.heap.size w W → W.cell? ⟨b, o + x.i * 6, none⟩ = some (.int .i64 (p : Int))) := Lib.hid (fun W hW => by
        obtain ⟨c0', _⟩ := (HC.out.stays hW (fun _ => World.block_lt_of_cell? w ⟨b, _, none⟩ (HC.out x.i y hy).1)) x.i y hy
        rw [hp] at c0'; exact c0')
      obtain ⟨_, la, ka, lc, kc, hv0⟩ := HEV.out j x hx
      have hv := hv0.below hB.out
      have v0 := hv.c0
      have v1 := hv.c1
      have v2 := hv.c2
      have v3 := hv.c3
      have v4 := hv.c4
      have v5 := hv.c5
      have v6 := hv.c6
      have v7 := hv.c7
      have HKEY := Lib.hid hv0.key
      have hgl := World.block_lt_of_cell? wr ⟨gE, j * 8, none⟩ v0
      have hbl := World.block_lt_of_cell? wr ⟨b, o + x.i * 6, none⟩ c0
      have m1 : wr.cell? ⟨w.heap.size + 1, p, none⟩ = some (.int .i64 l) := hG1.out.cell (intVs_get hl1)
      have m2 : wr.cell? ⟨w.heap.size + 2, p, none⟩ = some (.int .i64 c) := hG2.out.cell (intVs_get hc1)
      have f1 : ∀ k, wr.frozen? ⟨w.heap.size + 1, k, none⟩ = false := fun k => hG1.out.free
      have f2 : ∀ k, wr.frozen? ⟨w.heap.size + 2, k, none⟩ = false := fun k => hG2.out.free
      have HDONE := Lib.hid hRO.done
      have HPEND := Lib.hid hRO.pend
      have HLS := Lib.hid (lastL_snoc (cs := cs) (n := n) hx)
      have HCS := Lib.hid (callL_snoc (cs := cs) (n := n) hx)
      have HSS := Lib.hid (stepsL_snoc hx)
      have hs1 := HST.out j
      have hs2 := HST.out (j + 1)
      rw [HSS.out] at hs2
      rw [HS.out] at hs1 hs2
      have HSV : Hid ((stepsL (r.evs.take (j + 1)) : Int) = (S : Int) + (x.steps : Int)) := Lib.hid (by rw [HSS.out, HS.out]; omega)
      clear hS
      have q1 := hRO.inv1
      have q2 := hRO.st1
      have q3 := hRO.invT
      have HPREV : Hid (∀ z, r.evs[j - 1]? = some z → 0 < j → z.inv < x.inv) := Lib.hid hRO.prev
      have hi0 : (0 : Int) ≤ (j : Int) := Int.natCast_nonneg _
      have hi1 : (j : Int) < (r.evs.length : Int) := by omega
      have hk0 : (0 : Int) ≤ (x.i : Int) := Int.natCast_nonneg _
      have hk1 : (x.i : Int) < (cs.length : Int) := by omega
      have hp0 : (0 : Int) ≤ (p : Int) := Int.natCast_nonneg _
      have hpn1 : (p : Int) < (n : Int) := by omega
      have nn1 : w.heap.size + 1 ≠ wr.heap.size := by omega
      have nn2 : w.heap.size + 2 ≠ wr.heap.size := by omega
      have nn3 : wr.heap.size ≠ w.heap.size + 1 := by omega
      have nn4 : wr.heap.size ≠ w.heap.size + 2 := by omega
      have nn5 : w.heap.size ≠ wr.heap.size := by omega
      have g1 : ¬ (x.i : Int) < 0 := by omega
      have g1d : decide ((x.i : Int) < 0) = false := decide_eq_false g1
      have g2 : ¬ (cs.length : Int) ≤ (x.i : Int) := by omega
      have g2d : decide ((cs.length : Int) ≤ (x.i : Int)) = false := decide_eq_false g2
      have g3 : ¬ (x.inv : Int) < 1 := by omega
      have g3d : decide ((x.inv : Int) < 1) = false := decide_eq_false g3
      have g4 : ¬ (x.steps : Int) < 1 := by omega
      have g4d : decide ((x.steps : Int) < 1) = false := decide_eq_false g4
      have g5 : ¬ (r.ticks : Int) < (x.inv : Int) := by omega
      have g5d : decide ((r.ticks : Int) < (x.inv : Int)) = false := decide_eq_false g5
      have g6 : ¬ (p : Int) < 0 := by omega
      have g6d : decide ((p : Int) < 0) = false := decide_eq_false g6
      have g7 : ¬ (n : Int) ≤ (p : Int) := by omega
      have g7d : decide ((n : Int) ≤ (p : Int)) = false := decide_eq_false g7
      have g8 : ¬ l < 0 := by omega
      have g8d : decide (l < 0) = false := decide_eq_false g8
      have g9 : ¬ (x.inv : Int) ≤ l := by omega
      have g9d : decide ((x.inv : Int) ≤ l) = false := decide_eq_false g9
      have g10 : ¬ (x.i : Int) < c := by omega
      have g10d : decide ((x.i : Int) < c) = false := decide_eq_false g10
      clear hv hv0 hRO hy hl1 hc1 hp hth hy0 hyn hpn
      have k2 : decide (cs.length ≤ x.i) = false := decide_eq_false (by omega)
      have k3 : decide (x.inv < 1) = false := decide_eq_false (by omega)
      have k3b : decide (x.inv = 0) = false := decide_eq_false (by omega)
      have k4 : decide (x.steps < 1) = false := decide_eq_false (by omega)
      have k4b : decide (x.steps = 0) = false := decide_eq_false (by omega)
      have k5 : decide (r.ticks < x.inv) = false := decide_eq_false (by omega)
      have k7 : decide (n ≤ p) = false := decide_eq_false (by omega)
      have Lm1 := Lib.hid m1
      have Lm2 := Lib.hid m2
      have Lf1 := Lib.hid f1
      have Lf2 := Lib.hid f2
      have Lhp0 := Lib.hid hp0
      have Lhpn1 := Lib.hid hpn1
      have Lg6 := Lib.hid g6
      have Lg6d := Lib.hid g6d
      have Lg7 := Lib.hid g7
      have Lg7d := Lib.hid g7d
      have Lg8 := Lib.hid g8
      have Lg8d := Lib.hid g8d
      have Lg9 := Lib.hid g9
      have Lg9d := Lib.hid g9d
      have Lg10 := Lib.hid g10
      have Lg10d := Lib.hid g10d
      have Lc0 := Lib.hid c0
      have Lhk0 := Lib.hid hk0
      have Lhk1 := Lib.hid hk1
      have Lhbl := Lib.hid hbl
      have Lnn1 := Lib.hid nn1
      have Lnn2 := Lib.hid nn2
      have Lnn3 := Lib.hid nn3
      have Lnn4 := Lib.hid nn4
      have Lhs1 := Lib.hid hs1
      have Lhs2 := Lib.hid hs2
      have Lhl2 := Lib.hid hl2
      have Lhl3 := Lib.hid hl3
      have Lhc2 := Lib.hid hc2
      have Lhc3 := Lib.hid hc3
      clear m1 m2 f1 f2 hp0 hpn1 g6 g6d g7 g7d g8 g8d g9 g9d g10 g10d c0 hk0 hk1 hbl nn1 nn2 nn3 nn4 hs1 hs2 hl2 hl3 hc2 hc3
      have HTL := Lib.hid htl
      clear q1 q2 q3 hi0 hil htl hn1 hn2 n1 n2
      cases j with
      | zero =>
        go_wp2_with fail
        have y7 : (wr.alloc (.cells #[.int .i64 (x.i : Int), .int .i64 (x.inv : Int), .int .i64 (x.resp : Int), .int .i64 (x.steps : Int), .int .i64 (x.ans.err : Int), .int .u64 (x.ans.val : Int), .slice la x.ans.list.length lc, .slice ka x.key.length kc] 41)).cell? ⟨w.heap.size, 7, none⟩ = some (.int .i64 (r.ticks : Int)) := (World.cell?_alloc_past _ _ _ zr).trans r7
        have hE := RowBlk.new wr [.int .i64 (x.i : Int), .int .i64 (x.inv : Int), .int .i64 (x.resp : Int), .int .i64 (x.steps : Int), .int .i64 (x.ans.err : Int), .int .u64 (x.ans.val : Int), .slice la x.ans.list.length lc, .slice ka x.key.length kc] 41
        have e0 := hE.cell (i := 0) rfl
        have e1 := hE.cell (i := 1) rfl
        have e3 := hE.cell (i := 3) rfl
        have HE := Lib.hid hE
        clear hE v0 v1 v2 v3 v4 v5 v6 v7 r0 r7
        simp only [List.toArray] at e0 e1 e3
        go_quiet (fail)
        have H2 : Hid (RowBlk 41 ((wr.alloc (.cells #[.int .i64 (x.i : Int), .int .i64 (x.inv : Int), .int .i64 (x.resp : Int), .int .i64 (x.steps : Int), .int .i64 (x.ans.err : Int), .int .u64 (x.ans.val : Int), .slice la x.ans.list.length lc, .slice ka x.key.length kc] 41)).drewN nq) wr.heap.size [.int .i64 (x.i : Int), .int .i64 (x.inv : Int), .int .i64 (x.resp : Int), .int .i64 (x.steps : Int), .int .i64 (x.ans.err : Int), .int .u64 (x.ans.val : Int), .slice la x.ans.list.length lc, .slice ka x.key.length kc] ∧ RowBlk 3 ((wr.alloc (.cells #[.int .i64 (x.i : Int), .int .i64 (x.inv : Int), .int .i64 (x.resp : Int), .int .i64 (x.steps : Int), .int .i64 (x.ans.err : Int), .int .u64 (x.ans.val : Int), .slice la x.ans.list.length lc, .slice ka x.key.length kc] 41)).drewN nq) (w.heap.size + 1) (intVs (lastL cs n (r.evs.take 0))) ∧ RowBlk 3 ((wr.alloc (.cells #[.int .i64 (x.i : Int), .int .i64 (x.inv : Int), .int .i64 (x.resp : Int), .int .i64 (x.steps : Int), .int .i64 (x.ans.err : Int), .int .u64 (x.ans.val : Int), .slice la x.ans.list.length lc, .slice ka x.key.length kc] 41)).drewN nq) (w.heap.size + 2) (intVs (callL cs n (r.evs.take 0))) ∧ RowBlk 32 ((wr.alloc (.cells #[.int .i64 (x.i : Int), .int .i64 (x.inv : Int), .int .i64 (x.resp : Int), .int .i64 (x.steps : Int), .int .i64 (x.ans.err : Int), .int .u64 (x.ans.val : Int), .slice la x.ans.list.length lc, .slice ka x.key.length kc] 41)).drewN nq) w.heap.size [.slice (some ⟨gE, 0, none⟩) r.evs.length capE, .slice (some ⟨gw, 0, none⟩) r.ws.length r.ws.length, .int .i64 (r.cn.r : Int), .int .i64 (r.cn.w : Int), .int .i64 (r.cn.s : Int), .int .i64 (r.cn.a : Int), .int .i64 (r.cn.f : Int), .int .i64 (r.ticks : Int), .int .i64 (r.idle : Int)] ∧ Below w.heap.size w ((wr.alloc (.cells #[.int .i64 (x.i : Int), .int .i64 (x.inv : Int), .int .i64 (x.resp : Int), .int .i64 (x.steps : Int), .int .i64 (x.ans.err : Int), .int .u64 (x.ans.val : Int), .slice la x.ans.list.length lc, .slice ka x.key.length kc] 41)).drewN nq)) := Lib.hid
          ⟨HE.out.drewN _, (hG1.out.alloc _).drewN _, (hG2.out.alloc _).drewN _, (hRE.out.alloc _).drewN _, below_drewN (hB.out.alloc zb _) _⟩
        have z2 : wr.heap.size < ((wr.alloc (.cells #[.int .i64 (x.i : Int), .int .i64 (x.inv : Int), .int .i64 (x.resp : Int), .int .i64 (x.steps : Int), .int .i64 (x.ans.err : Int), .int .u64 (x.ans.val : Int), .slice la x.ans.list.length lc, .slice ka x.key.length kc] 41)).drewN nq).heap.size := H2.out.1.lt
        clear y7 e0 e1 e3 HE
        generalize (wr.alloc (.cells #[.int .i64 (x.i : Int), .int .i64 (x.inv : Int), .int .i64 (x.resp : Int), .int .i64 (x.steps : Int), .int .i64 (x.ans.err : Int), .int .u64 (x.ans.val : Int), .slice la x.ans.list.length lc, .slice ka x.key.length kc] 41)).drewN nq = w2 at H2 z2 ⊢
        have c0 : w2.cell? ⟨b, o + x.i * 6, none⟩ = some (.int .i64 (p : Int)) := HC0.out w2 H2.out.2.2.2.2
        have e0 : w2.cell? ⟨wr.heap.size, 0, none⟩ = some (.int .i64 (x.i : Int)) := H2.out.1.cell rfl
        have e1 : w2.cell? ⟨wr.heap.size, 1, none⟩ = some (.int .i64 (x.inv : Int)) := H2.out.1.cell rfl
        have e2 : w2.cell? ⟨wr.heap.size, 2, none⟩ = some (.int .i64 (x.resp : Int)) := H2.out.1.cell rfl
        have e3 : w2.cell? ⟨wr.heap.size, 3, none⟩ = some (.int .i64 (x.steps : Int)) := H2.out.1.cell rfl
        have e7 : w2.cell? ⟨wr.heap.size, 7, none⟩ = some (.slice ka x.key.length kc) := H2.out.1.cell rfl
        have y7 : w2.cell? ⟨w.heap.size, 7, none⟩ = some (.int .i64 (r.ticks : Int)) := H2.out.2.2.2.1.cell rfl
        have m1 : w2.cell? ⟨w.heap.size + 1, p, none⟩ = some (.int .i64 l) := H2.out.2.1.cell (intVs_get HL1.out)
        have m2 : w2.cell? ⟨w.heap.size + 2, p, none⟩ = some (.int .i64 c) := H2.out.2.2.1.cell (intVs_get HC1.out)
        have f1 : ∀ k, w2.frozen? ⟨w.heap.size + 1, k, none⟩ = false := fun k => H2.out.2.1.free
        have f2 : ∀ k, w2.frozen? ⟨w.heap.size + 2, k, none⟩ = false := fun k => H2.out.2.2.1.free
        have hp0 := Lhp0.out
        have hpn1 := Lhpn1.out
        have g6 := Lg6.out
        have g6d := Lg6d.out
        have g7 := Lg7.out
        have g7d := Lg7d.out
        have g8 := Lg8.out
        have g8d := Lg8d.out
        have g9 := Lg9.out
        have g9d := Lg9d.out
        have g10 := Lg10.out
        have g10d := Lg10d.out
        have hk0 := Lhk0.out
        have hk1 := Lhk1.out
        have nn1 := Lnn1.out
        have nn2 := Lnn2.out
        have nn3 := Lnn3.out
        have nn4 := Lnn4.out
        by_cases hr : x.resp = 0
        · have e2' : w2.cell? ⟨wr.heap.size, 2, none⟩ = some (.int .i64 0) := by rw [hr] at e2; exact e2
          have HLZ : Hid (lastZ x = -1) := Lib.hid (by unfold lastZ; rw [if_pos hr])
          have hpe := HPEND.out hr
          clear e2 hr
          by_cases hk : x.key = []
          · rw [hk] at e7
            have e7' : w2.cell? ⟨wr.heap.size, 7, none⟩ = some (.slice ka 0 kc) := e7
            clear e7 hpe hk
            go_wp2_with fail
            go_quiet (fail)
            have hs1 := Lhs1.out
            have hs2 := Lhs2.out
            go_wp2_with fail
            go_roundw
            case rel => exact ⟨0 + 1, by omega, by go_num, by rw [HSV.out], Lib.hid (by
                rw [HLS.out, HTP.out, HLZ.out, ← intVs_set, ← set2 (intVs (lastL cs n (r.evs.take 0))) p (.int .i64 0)]
                exact (((H2.out.2.1.drewN _).put p _).put p _).other (a := ⟨w.heap.size + 2, p, none⟩) (by show w.heap.size + 1 ≠ w.heap.size + 2; omega) _), Lib.hid (by
                rw [HCS.out, HTP.out, ← intVs_set]
                exact (((H2.out.2.2.1.drewN _).other (a := ⟨w.heap.size + 1, p, none⟩) (by show w.heap.size + 2 ≠ w.heap.size + 1; omega) _).other (a := ⟨w.heap.size + 1, p, none⟩) (by show w.heap.size + 2 ≠ w.heap.size + 1; omega) _).put p _),
                Lib.hid ((((H2.out.2.2.2.1.drewN _).other (a := ⟨w.heap.size + 1, p, none⟩) (by show w.heap.size ≠ w.heap.size + 1; omega) _).other (a := ⟨w.heap.size + 1, p, none⟩) (by show w.heap.size ≠ w.heap.size + 1; omega) _).other (a := ⟨w.heap.size + 2, p, none⟩) (by show w.heap.size ≠ w.heap.size + 2; omega) _),
                Lib.hid ((((below_drewN H2.out.2.2.2.2 _).setCell (show w.heap.size ≤ w.heap.size + 1 by omega) _).setCell (show w.heap.size ≤ w.heap.size + 1 by omega) _).setCell (show w.heap.size ≤ w.heap.size + 2 by omega) _)⟩
            case measure => simp [intOf]; omega
          · have hwi := hpe.resolve_left hk
            have hkl : (0 : Int) < (x.key.length : Int) := by have := List.length_pos_iff.2 hk; omega
            have hkn : 0 < x.key.length := List.length_pos_iff.2 hk
            have HWIT : Hid (∀ W', Below w.heap.size w W' → Calls Try.prog 40 #[.slice ka x.key.length kc, .int .i64 (x.inv : Int), .int .i64 (r.ticks : Int)] W' fun e w' => e = .returned (.bool true) ∧ W' = w') := Lib.hid (fun W' hW' => within_yes ka x.key kc x.inv r.ticks _ W' (HKEY.out.keep (q := fun _ => True) (fun b ht _ => ⟨hW'.block b ht.lt, trivial⟩)) hwi (by have := HTL.out; omega))
            clear hwi hpe hk
            go_wp2_with fail
            go_quiet (fail)
            go_wp2_with fail
            have hBw : Below w.heap.size w (((w2.drewN nq).setCell ⟨w.heap.size + 1, p, none⟩ (.int .i64 0)).setCell ⟨w.heap.size + 1, p, none⟩ (.int .i64 (-1))) := ((below_drewN H2.out.2.2.2.2 _).setCell (show w.heap.size ≤ w.heap.size + 1 by omega) _).setCell (show w.heap.size ≤ w.heap.size + 1 by omega) _
            refine (HWIT.out _ hBw).mono ?_
            rintro e w4 ⟨rfl, rfl⟩
            have hs1 := Lhs1.out
            have hs2 := Lhs2.out
            go_wp2_with fail
            go_roundw
            case rel => exact ⟨0 + 1, by omega, by go_num, by rw [HSV.out], Lib.hid (by
                rw [HLS.out, HTP.out, HLZ.out, ← intVs_set, ← set2 (intVs (lastL cs n (r.evs.take 0))) p (.int .i64 0)]
                exact (((H2.out.2.1.drewN _).put p _).put p _).other (a := ⟨w.heap.size + 2, p, none⟩) (by show w.heap.size + 1 ≠ w.heap.size + 2; omega) _), Lib.hid (by
                rw [HCS.out, HTP.out, ← intVs_set]
                exact (((H2.out.2.2.1.drewN _).other (a := ⟨w.heap.size + 1, p, none⟩) (by show w.heap.size + 2 ≠ w.heap.size + 1; omega) _).other (a := ⟨w.heap.size + 1, p, none⟩) (by show w.heap.size + 2 ≠ w.heap.size + 1; omega) _).put p _),
                Lib.hid ((((H2.out.2.2.2.1.drewN _).other (a := ⟨w.heap.size + 1, p, none⟩) (by show w.heap.size ≠ w.heap.size + 1; omega) _).other (a := ⟨w.heap.size + 1, p, none⟩) (by show w.heap.size ≠ w.heap.size + 1; omega) _).other (a := ⟨w.heap.size + 2, p, none⟩) (by show w.heap.size ≠ w.heap.size + 2; omega) _),
                Lib.hid (hBw.setCell (show w.heap.size ≤ w.heap.size + 2 by omega) _)⟩
            case measure => simp [intOf]; omega
        · have hd := HDONE.out hr
          have hr0 : ¬ (x.resp : Int) = 0 := by omega
          have hr1 : ((x.resp : Int) == 0) = false := by rw [beq_eq_false_iff_ne]; exact hr0
          have hr2 : ((x.resp : Int) != 0) = true := by simpa using hr
          have hr3 : decide ((x.resp : Int) = 0) = false := decide_eq_false hr0
          have hr4 : decide ((x.resp : Int) ≠ 0) = true := decide_eq_true hr0
          have hr5 : decide (x.resp = 0) = false := decide_eq_false hr
          have hr6 : (x.resp == 0) = false := by simpa using hr
          have hr7 : (x.resp != 0) = true := by simpa using hr
          have hr8 : (!decide (x.resp = 0)) = true := by rw [hr5]; rfl
          have d1 := hd.1
          have d2 := hd.2.1
          have d3 := hd.2.2.1
          have d4 : ¬ (r.ticks : Int) < (x.resp : Int) := by omega
          have d4d : decide ((r.ticks : Int) < (x.resp : Int)) = false := decide_eq_false d4
          have d4n : decide (r.ticks < x.resp) = false := decide_eq_false (by omega)
          have d5 : ¬ (x.resp : Int) - (x.inv : Int) + 1 < (x.steps : Int) := by omega
          have d5d : decide ((x.resp : Int) - (x.inv : Int) + 1 < (x.steps : Int)) = false := decide_eq_false d5
          have w1 : wrap64 ((x.resp : Int) - (x.inv : Int)) = (x.resp : Int) - (x.inv : Int) := by unfold wrap64; have := HTL.out; omega
          have w2' : wrap64 ((x.resp : Int) - (x.inv : Int) + 1) = (x.resp : Int) - (x.inv : Int) + 1 := by unfold wrap64; have := HTL.out; omega
          have d5w : ¬ wrap64 (wrap64 ((x.resp : Int) - (x.inv : Int)) + 1) < (x.steps : Int) := by rw [w1, w2']; exact d5
          have d5v : decide (wrap64 (wrap64 ((x.resp : Int) - (x.inv : Int)) + 1) < (x.steps : Int)) = false := decide_eq_false d5w
          have d6 : ¬ (x.resp : Int) < (x.inv : Int) := by omega
          have d6d : decide ((x.resp : Int) < (x.inv : Int)) = false := decide_eq_false d6
          have d6n : decide (x.resp < x.inv) = false := decide_eq_false (by omega)
          have HWIT : Hid (∀ W', Below w.heap.size w W' → Calls Try.prog 40 #[.slice ka x.key.length kc, .int .i64 (x.inv : Int), .int .i64 (x.resp : Int)] W' fun e w' => e = .returned (.bool true) ∧ W' = w') := Lib.hid (fun W' hW' => within_yes ka x.key kc x.inv x.resp _ W' (HKEY.out.keep (q := fun _ => True) (fun b ht _ => ⟨hW'.block b ht.lt, trivial⟩)) hd.2.2.2 (by have := HTL.out; omega))
          have HLZ : Hid (lastZ x = (x.resp : Int)) := Lib.hid (by unfold lastZ; rw [if_neg hr])
          clear hd
          go_wp2_with fail
          go_quiet (fail)
          go_wp2_with fail
          have hBw : Below w.heap.size w ((w2.drewN nq).setCell ⟨w.heap.size + 1, p, none⟩ (.int .i64 (x.resp : Int))) := (below_drewN H2.out.2.2.2.2 _).setCell (show w.heap.size ≤ w.heap.size + 1 by omega) _
          refine (HWIT.out _ hBw).mono ?_
          rintro e w4 ⟨rfl, rfl⟩
          have hs1 := Lhs1.out
          have hs2 := Lhs2.out
          go_wp2_with fail
          go_roundw
          case rel => exact ⟨0 + 1, by omega, by go_num, by rw [HSV.out], Lib.hid (by
              rw [HLS.out, HTP.out, HLZ.out, ← intVs_set]
              exact ((H2.out.2.1.drewN _).put p _).other (a := ⟨w.heap.size + 2, p, none⟩) (by show w.heap.size + 1 ≠ w.heap.size + 2; omega) _), Lib.hid (by
              rw [HCS.out, HTP.out, ← intVs_set]
              exact ((H2.out.2.2.1.drewN _).other (a := ⟨w.heap.size + 1, p, none⟩) (by show w.heap.size + 2 ≠ w.heap.size + 1; omega) _).put p _),
              Lib.hid (((H2.out.2.2.2.1.drewN _).other (a := ⟨w.heap.size + 1, p, none⟩) (by show w.heap.size ≠ w.heap.size + 1; omega) _).other (a := ⟨w.heap.size + 2, p, none⟩) (by show w.heap.size ≠ w.heap.size + 2; omega) _), Lib.hid (hBw.setCell (show w.heap.size ≤ w.heap.size + 2 by omega) _)⟩
          case measure => simp [intOf]; omega
      | succ i =>
        obtain ⟨z, hz⟩ : ∃ z, r.evs[i]? = some z := ⟨r.evs[i]'(by omega), List.getElem?_eq_getElem _⟩
        have hpz := HPREV.out z hz (Nat.succ_pos i)
        obtain ⟨_, laz, kaz, lcz, kcz, hvz0⟩ := HEV.out i z hz
        have hvz := hvz0.below hB.out
        have u1 := hvz.c1
        have uu : ¬ (x.inv : Int) ≤ (z.inv : Int) := by omega
        have uud : decide ((x.inv : Int) ≤ (z.inv : Int)) = false := decide_eq_false uu
        have uun : decide (x.inv ≤ z.inv) = false := decide_eq_false (by omega)
        have ij0 : (0 : Int) ≤ (i : Int) := Int.natCast_nonneg _
        have ij1 : (i : Int) < (r.evs.length : Int) := by omega
        clear hz hpz hvz0 hvz
        go_wp2_with fail
        have y7 : (wr.alloc (.cells #[.int .i64 (x.i : Int), .int .i64 (x.inv : Int), .int .i64 (x.resp : Int), .int .i64 (x.steps : Int), .int .i64 (x.ans.err : Int), .int .u64 (x.ans.val : Int), .slice la x.ans.list.length lc, .slice ka x.key.length kc] 41)).cell? ⟨w.heap.size, 7, none⟩ = some (.int .i64 (r.ticks : Int)) := (World.cell?_alloc_past _ _ _ zr).trans r7
        have hE := RowBlk.new wr [.int .i64 (x.i : Int), .int .i64 (x.inv : Int), .int .i64 (x.resp : Int), .int .i64 (x.steps : Int), .int .i64 (x.ans.err : Int), .int .u64 (x.ans.val : Int), .slice la x.ans.list.length lc, .slice ka x.key.length kc] 41
        have e0 := hE.cell (i := 0) rfl
        have e1 := hE.cell (i := 1) rfl
        have e3 := hE.cell (i := 3) rfl
        have HE := Lib.hid hE
        clear hE v0 v1 v2 v3 v4 v5 v6 v7 r0 r7
        simp only [List.toArray] at e0 e1 e3
        have u1' : (wr.alloc (.cells #[.int .i64 (x.i : Int), .int .i64 (x.inv : Int), .int .i64 (x.resp : Int), .int .i64 (x.steps : Int), .int .i64 (x.ans.err : Int), .int .u64 (x.ans.val : Int), .slice la x.ans.list.length lc, .slice ka x.key.length kc] 41)).cell? ⟨gE, i * 8 + 1, none⟩ = some (.int .i64 (z.inv : Int)) := (World.cell?_alloc_past _ _ _ (World.block_lt_of_cell? wr ⟨gE, i * 8 + 1, none⟩ u1)).trans u1
        have y0 : (wr.alloc (.cells #[.int .i64 (x.i : Int), .int .i64 (x.inv : Int), .int .i64 (x.resp : Int), .int .i64 (x.steps : Int), .int .i64 (x.ans.err : Int), .int .u64 (x.ans.val : Int), .slice la x.ans.list.length lc, .slice ka x.key.length kc] 41)).cell? ⟨w.heap.size, 0, none⟩ = some (.slice (some ⟨gE, 0, none⟩) r.evs.length capE) := (World.cell?_alloc_past _ _ _ zr).trans (hRE.out.cell rfl)
        clear u1
        go_quiet (fail)
        have H2 : Hid (RowBlk 41 ((wr.alloc (.cells #[.int .i64 (x.i : Int), .int .i64 (x.inv : Int), .int .i64 (x.resp : Int), .int .i64 (x.steps : Int), .int .i64 (x.ans.err : Int), .int .u64 (x.ans.val : Int), .slice la x.ans.list.length lc, .slice ka x.key.length kc] 41)).drewN nq) wr.heap.size [.int .i64 (x.i : Int), .int .i64 (x.inv : Int), .int .i64 (x.resp : Int), .int .i64 (x.steps : Int), .int .i64 (x.ans.err : Int), .int .u64 (x.ans.val : Int), .slice la x.ans.list.length lc, .slice ka x.key.length kc] ∧ RowBlk 3 ((wr.alloc (.cells #[.int .i64 (x.i : Int), .int .i64 (x.inv : Int), .int .i64 (x.resp : Int), .int .i64 (x.steps : Int), .int .i64 (x.ans.err : Int), .int .u64 (x.ans.val : Int), .slice la x.ans.list.length lc, .slice ka x.key.length kc] 41)).drewN nq) (w.heap.size + 1) (intVs (lastL cs n (r.evs.take (i + 1)))) ∧ RowBlk 3 ((wr.alloc (.cells #[.int .i64 (x.i : Int), .int .i64 (x.inv : Int), .int .i64 (x.resp : Int), .int .i64 (x.steps : Int), .int .i64 (x.ans.err : Int), .int .u64 (x.ans.val : Int), .slice la x.ans.list.length lc, .slice ka x.key.length kc] 41)).drewN nq) (w.heap.size + 2) (intVs (callL cs n (r.evs.take (i + 1)))) ∧ RowBlk 32 ((wr.alloc (.cells #[.int .i64 (x.i : Int), .int .i64 (x.inv : Int), .int .i64 (x.resp : Int), .int .i64 (x.steps : Int), .int .i64 (x.ans.err : Int), .int .u64 (x.ans.val : Int), .slice la x.ans.list.length lc, .slice ka x.key.length kc] 41)).drewN nq) w.heap.size [.slice (some ⟨gE, 0, none⟩) r.evs.length capE, .slice (some ⟨gw, 0, none⟩) r.ws.length r.ws.length, .int .i64 (r.cn.r : Int), .int .i64 (r.cn.w : Int), .int .i64 (r.cn.s : Int), .int .i64 (r.cn.a : Int), .int .i64 (r.cn.f : Int), .int .i64 (r.ticks : Int), .int .i64 (r.idle : Int)] ∧ Below w.heap.size w ((wr.alloc (.cells #[.int .i64 (x.i : Int), .int .i64 (x.inv : Int), .int .i64 (x.resp : Int), .int .i64 (x.steps : Int), .int .i64 (x.ans.err : Int), .int .u64 (x.ans.val : Int), .slice la x.ans.list.length lc, .slice ka x.key.length kc] 41)).drewN nq)) := Lib.hid
          ⟨HE.out.drewN _, (hG1.out.alloc _).drewN _, (hG2.out.alloc _).drewN _, (hRE.out.alloc _).drewN _, below_drewN (hB.out.alloc zb _) _⟩
        have z2 : wr.heap.size < ((wr.alloc (.cells #[.int .i64 (x.i : Int), .int .i64 (x.inv : Int), .int .i64 (x.resp : Int), .int .i64 (x.steps : Int), .int .i64 (x.ans.err : Int), .int .u64 (x.ans.val : Int), .slice la x.ans.list.length lc, .slice ka x.key.length kc] 41)).drewN nq).heap.size := H2.out.1.lt
        clear y7 e0 e1 e3 HE u1' y0 uu uud uun ij0 ij1
        generalize (wr.alloc (.cells #[.int .i64 (x.i : Int), .int .i64 (x.inv : Int), .int .i64 (x.resp : Int), .int .i64 (x.steps : Int), .int .i64 (x.ans.err : Int), .int .u64 (x.ans.val : Int), .slice la x.ans.list.length lc, .slice ka x.key.length kc] 41)).drewN nq = w2 at H2 z2 ⊢
        have c0 : w2.cell? ⟨b, o + x.i * 6, none⟩ = some (.int .i64 (p : Int)) := HC0.out w2 H2.out.2.2.2.2
        have e0 : w2.cell? ⟨wr.heap.size, 0, none⟩ = some (.int .i64 (x.i : Int)) := H2.out.1.cell rfl
        have e1 : w2.cell? ⟨wr.heap.size, 1, none⟩ = some (.int .i64 (x.inv : Int)) := H2.out.1.cell rfl
        have e2 : w2.cell? ⟨wr.heap.size, 2, none⟩ = some (.int .i64 (x.resp : Int)) := H2.out.1.cell rfl
        have e3 : w2.cell? ⟨wr.heap.size, 3, none⟩ = some (.int .i64 (x.steps : Int)) := H2.out.1.cell rfl
        have e7 : w2.cell? ⟨wr.heap.size, 7, none⟩ = some (.slice ka x.key.length kc) := H2.out.1.cell rfl
        have y7 : w2.cell? ⟨w.heap.size, 7, none⟩ = some (.int .i64 (r.ticks : Int)) := H2.out.2.2.2.1.cell rfl
        have m1 : w2.cell? ⟨w.heap.size + 1, p, none⟩ = some (.int .i64 l) := H2.out.2.1.cell (intVs_get HL1.out)
        have m2 : w2.cell? ⟨w.heap.size + 2, p, none⟩ = some (.int .i64 c) := H2.out.2.2.1.cell (intVs_get HC1.out)
        have f1 : ∀ k, w2.frozen? ⟨w.heap.size + 1, k, none⟩ = false := fun k => H2.out.2.1.free
        have f2 : ∀ k, w2.frozen? ⟨w.heap.size + 2, k, none⟩ = false := fun k => H2.out.2.2.1.free
        have hp0 := Lhp0.out
        have hpn1 := Lhpn1.out
        have g6 := Lg6.out
        have g6d := Lg6d.out
        have g7 := Lg7.out
        have g7d := Lg7d.out
        have g8 := Lg8.out
        have g8d := Lg8d.out
        have g9 := Lg9.out
        have g9d := Lg9d.out
        have g10 := Lg10.out
        have g10d := Lg10d.out
        have hk0 := Lhk0.out
        have hk1 := Lhk1.out
        have nn1 := Lnn1.out
        have nn2 := Lnn2.out
        have nn3 := Lnn3.out
        have nn4 := Lnn4.out
        by_cases hr : x.resp = 0
        · have e2' : w2.cell? ⟨wr.heap.size, 2, none⟩ = some (.int .i64 0) := by rw [hr] at e2; exact e2
          have HLZ : Hid (lastZ x = -1) := Lib.hid (by unfold lastZ; rw [if_pos hr])
          have hpe := HPEND.out hr
          clear e2 hr
          by_cases hk : x.key = []
          · rw [hk] at e7
            have e7' : w2.cell? ⟨wr.heap.size, 7, none⟩ = some (.slice ka 0 kc) := e7
            clear e7 hpe hk
            go_wp2_with fail
            go_quiet (fail)
            have hs1 := Lhs1.out
            have hs2 := Lhs2.out
            go_wp2_with fail
            go_roundw
            case rel => exact ⟨(i + 1) + 1, by omega, by go_num, by rw [HSV.out], Lib.hid (by
                rw [HLS.out, HTP.out, HLZ.out, ← intVs_set, ← set2 (intVs (lastL cs n (r.evs.take (i + 1)))) p (.int .i64 0)]
                exact (((H2.out.2.1.drewN _).put p _).put p _).other (a := ⟨w.heap.size + 2, p, none⟩) (by show w.heap.size + 1 ≠ w.heap.size + 2; omega) _), Lib.hid (by
                rw [HCS.out, HTP.out, ← intVs_set]
                exact (((H2.out.2.2.1.drewN _).other (a := ⟨w.heap.size + 1, p, none⟩) (by show w.heap.size + 2 ≠ w.heap.size + 1; omega) _).other (a := ⟨w.heap.size + 1, p, none⟩) (by show w.heap.size + 2 ≠ w.heap.size + 1; omega) _).put p _),
                Lib.hid ((((H2.out.2.2.2.1.drewN _).other (a := ⟨w.heap.size + 1, p, none⟩) (by show w.heap.size ≠ w.heap.size + 1; omega) _).other (a := ⟨w.heap.size + 1, p, none⟩) (by show w.heap.size ≠ w.heap.size + 1; omega) _).other (a := ⟨w.heap.size + 2, p, none⟩) (by show w.heap.size ≠ w.heap.size + 2; omega) _),
                Lib.hid ((((below_drewN H2.out.2.2.2.2 _).setCell (show w.heap.size ≤ w.heap.size + 1 by omega) _).setCell (show w.heap.size ≤ w.heap.size + 1 by omega) _).setCell (show w.heap.size ≤ w.heap.size + 2 by omega) _)⟩
            case measure => simp [intOf]; omega
          · have hwi := hpe.resolve_left hk
            have hkl : (0 : Int) < (x.key.length : Int) := by have := List.length_pos_iff.2 hk; omega
            have hkn : 0 < x.key.length := List.length_pos_iff.2 hk
            have HWIT : Hid (∀ W', Below w.heap.size w W' → Calls Try.prog 40 #[.slice ka x.key.length kc, .int .i64 (x.inv : Int), .int .i64 (r.ticks : Int)] W' fun e w' => e = .returned (.bool true) ∧ W' = w') := Lib.hid (fun W' hW' => within_yes ka x.key kc x.inv r.ticks _ W' (HKEY.out.keep (q := fun _ => True) (fun b ht _ => ⟨hW'.block b ht.lt, trivial⟩)) hwi (by have := HTL.out; omega))
            clear hwi hpe hk
            go_wp2_with fail
            go_quiet (fail)
            go_wp2_with fail
            have hBw : Below w.heap.size w (((w2.drewN nq).setCell ⟨w.heap.size + 1, p, none⟩ (.int .i64 0)).setCell ⟨w.heap.size + 1, p, none⟩ (.int .i64 (-1))) := ((below_drewN H2.out.2.2.2.2 _).setCell (show w.heap.size ≤ w.heap.size + 1 by omega) _).setCell (show w.heap.size ≤ w.heap.size + 1 by omega) _
            refine (HWIT.out _ hBw).mono ?_
            rintro e w4 ⟨rfl, rfl⟩
            have hs1 := Lhs1.out
            have hs2 := Lhs2.out
            go_wp2_with fail
            go_roundw
            case rel => exact ⟨(i + 1) + 1, by omega, by go_num, by rw [HSV.out], Lib.hid (by
                rw [HLS.out, HTP.out, HLZ.out, ← intVs_set, ← set2 (intVs (lastL cs n (r.evs.take (i + 1)))) p (.int .i64 0)]
                exact (((H2.out.2.1.drewN _).put p _).put p _).other (a := ⟨w.heap.size + 2, p, none⟩) (by show w.heap.size + 1 ≠ w.heap.size + 2; omega) _), Lib.hid (by
                rw [HCS.out, HTP.out, ← intVs_set]
                exact (((H2.out.2.2.1.drewN _).other (a := ⟨w.heap.size + 1, p, none⟩) (by show w.heap.size + 2 ≠ w.heap.size + 1; omega) _).other (a := ⟨w.heap.size + 1, p, none⟩) (by show w.heap.size + 2 ≠ w.heap.size + 1; omega) _).put p _),
                Lib.hid ((((H2.out.2.2.2.1.drewN _).other (a := ⟨w.heap.size + 1, p, none⟩) (by show w.heap.size ≠ w.heap.size + 1; omega) _).other (a := ⟨w.heap.size + 1, p, none⟩) (by show w.heap.size ≠ w.heap.size + 1; omega) _).other (a := ⟨w.heap.size + 2, p, none⟩) (by show w.heap.size ≠ w.heap.size + 2; omega) _),
                Lib.hid (hBw.setCell (show w.heap.size ≤ w.heap.size + 2 by omega) _)⟩
            case measure => simp [intOf]; omega
        · have hd := HDONE.out hr
          have hr0 : ¬ (x.resp : Int) = 0 := by omega
          have hr1 : ((x.resp : Int) == 0) = false := by rw [beq_eq_false_iff_ne]; exact hr0
          have hr2 : ((x.resp : Int) != 0) = true := by simpa using hr
          have hr3 : decide ((x.resp : Int) = 0) = false := decide_eq_false hr0
          have hr4 : decide ((x.resp : Int) ≠ 0) = true := decide_eq_true hr0
          have hr5 : decide (x.resp = 0) = false := decide_eq_false hr
          have hr6 : (x.resp == 0) = false := by simpa using hr
          have hr7 : (x.resp != 0) = true := by simpa using hr
          have hr8 : (!decide (x.resp = 0)) = true := by rw [hr5]; rfl
          have d1 := hd.1
          have d2 := hd.2.1
          have d3 := hd.2.2.1
          have d4 : ¬ (r.ticks : Int) < (x.resp : Int) := by omega
          have d4d : decide ((r.ticks : Int) < (x.resp : Int)) = false := decide_eq_false d4
          have d4n : decide (r.ticks < x.resp) = false := decide_eq_false (by omega)
          have d5 : ¬ (x.resp : Int) - (x.inv : Int) + 1 < (x.steps : Int) := by omega
          have d5d : decide ((x.resp : Int) - (x.inv : Int) + 1 < (x.steps : Int)) = false := decide_eq_false d5
          have w1 : wrap64 ((x.resp : Int) - (x.inv : Int)) = (x.resp : Int) - (x.inv : Int) := by unfold wrap64; have := HTL.out; omega
          have w2' : wrap64 ((x.resp : Int) - (x.inv : Int) + 1) = (x.resp : Int) - (x.inv : Int) + 1 := by unfold wrap64; have := HTL.out; omega
          have d5w : ¬ wrap64 (wrap64 ((x.resp : Int) - (x.inv : Int)) + 1) < (x.steps : Int) := by rw [w1, w2']; exact d5
          have d5v : decide (wrap64 (wrap64 ((x.resp : Int) - (x.inv : Int)) + 1) < (x.steps : Int)) = false := decide_eq_false d5w
          have d6 : ¬ (x.resp : Int) < (x.inv : Int) := by omega
          have d6d : decide ((x.resp : Int) < (x.inv : Int)) = false := decide_eq_false d6
          have d6n : decide (x.resp < x.inv) = false := decide_eq_false (by omega)
          have HWIT : Hid (∀ W', Below w.heap.size w W' → Calls Try.prog 40 #[.slice ka x.key.length kc, .int .i64 (x.inv : Int), .int .i64 (x.resp : Int)] W' fun e w' => e = .returned (.bool true) ∧ W' = w') := Lib.hid (fun W' hW' => within_yes ka x.key kc x.inv x.resp _ W' (HKEY.out.keep (q := fun _ => True) (fun b ht _ => ⟨hW'.block b ht.lt, trivial⟩)) hd.2.2.2 (by have := HTL.out; omega))
          have HLZ : Hid (lastZ x = (x.resp : Int)) := Lib.hid (by unfold lastZ; rw [if_neg hr])
          clear hd
          go_wp2_with fail
          go_quiet (fail)
          go_wp2_with fail
          have hBw : Below w.heap.size w ((w2.drewN nq).setCell ⟨w.heap.size + 1, p, none⟩ (.int .i64 (x.resp : Int))) := (below_drewN H2.out.2.2.2.2 _).setCell (show w.heap.size ≤ w.heap.size + 1 by omega) _
          refine (HWIT.out _ hBw).mono ?_
          rintro e w4 ⟨rfl, rfl⟩
          have hs1 := Lhs1.out
          have hs2 := Lhs2.out
          go_wp2_with fail
          go_roundw
          case rel => exact ⟨(i + 1) + 1, by omega, by go_num, by rw [HSV.out], Lib.hid (by
              rw [HLS.out, HTP.out, HLZ.out, ← intVs_set]
              exact ((H2.out.2.1.drewN _).put p _).other (a := ⟨w.heap.size + 2, p, none⟩) (by show w.heap.size + 1 ≠ w.heap.size + 2; omega) _), Lib.hid (by
              rw [HCS.out, HTP.out, ← intVs_set]
              exact ((H2.out.2.2.1.drewN _).other (a := ⟨w.heap.size + 1, p, none⟩) (by show w.heap.size + 2 ≠ w.heap.size + 1; omega) _).put p _),
              Lib.hid (((H2.out.2.2.2.1.drewN _).other (a := ⟨w.heap.size + 1, p, none⟩) (by show w.heap.size ≠ w.heap.size + 1; omega) _).other (a := ⟨w.heap.size + 2, p, none⟩) (by show w.heap.size ≠ w.heap.size + 2; omega) _), Lib.hid (hBw.setCell (show w.heap.size ≤ w.heap.size + 2 by omega) _)⟩
          case measure => simp [intOf]; omega
    · have hje : j = r.evs.length := by omega
      subst hje
      have hsum : S = r.ticks := by have h1 := HS.out; rw [List.take_length] at h1; have := HROW.out.sum; omega
      subst hsum
      have hcn := HROW.out.cn.1
      have hcf := HROW.out.cn.2
      have t2 : wr.cell? ⟨w.heap.size, 2, none⟩ = some (.int .i64 (r.cn.r : Int)) := hRE.out.cell rfl
      have t3 : wr.cell? ⟨w.heap.size, 3, none⟩ = some (.int .i64 (r.cn.w : Int)) := hRE.out.cell rfl
      have t4 : wr.cell? ⟨w.heap.size, 4, none⟩ = some (.int .i64 (r.cn.s : Int)) := hRE.out.cell rfl
      have t5 : wr.cell? ⟨w.heap.size, 5, none⟩ = some (.int .i64 (r.cn.a : Int)) := hRE.out.cell rfl
      have t6 : wr.cell? ⟨w.heap.size, 6, none⟩ = some (.int .i64 0) := by have h1 : wr.cell? ⟨w.heap.size, 6, none⟩ = some (.int .i64 (r.cn.f : Int)) := hRE.out.cell rfl; rw [hcf] at h1; exact h1
      have b1 : (r.cn.r : Int) + (r.cn.w : Int) + (r.cn.s : Int) + (r.cn.a : Int) ≤ (r.ticks : Int) := by omega
      have nn5 : w.heap.size ≠ wr.heap.size := by omega
      clear hcf r0
      go_wp2_with fail
      go_ret
      exact ⟨rfl, hB.out.alloc zb _⟩
end Go.Proofs.Ytpoebpnmbogmnaa
