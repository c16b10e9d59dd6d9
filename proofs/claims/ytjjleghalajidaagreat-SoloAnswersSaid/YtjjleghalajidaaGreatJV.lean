/- The reference's Apply, piece by piece: univ. -/
import Derived.Test.YtjjleghalajidaaGreatGJ4
import Derived.Test.YtjjleghalajidaaGreatGS3
namespace Go.Proofs.YtjjleghalajidaaGreat
open Go.ChangeShapes Go.WideShapes Go.ChangeAt Go.RowKit
set_option linter.unusedVariables false
set_option linter.unusedSimpArgs false
set_option maxRecDepth 100000

set_option maxHeartbeats 8000000 in
theorem runiv_big (x qn a : Nat) (p : Int) (t ob kd b c : Int) (r : List Nat) (v : Value) (B : Nat) (w : World) (h : OwnW w B v (x :: r)) (hB : B ≤ w.heap.size) (hk : 0 ≤ kd ∧ kd < (sqKinds p : Int)) (hq : qn ≤ 256) (ha : 4294967296 ≤ a) :
    Calls Tryz.prog 67 #[Tb.specV 7 p (qn : Int), v, callV t ob kd (a : Int) b c] w (ChP B w ⟨x :: r, 10, 0, []⟩) := by
  have HX0 := Lib.hid (apBox w 7 p (qn : Int) t ob kd (a : Int) b c (ansC 0 0 (.slice none 0 0)))
  have HKN : Hid (∀ W, Calls Tryz.prog 57 #[.int .i64 p] W fun e w' => e = .returned (.int .i64 (sqKinds p : Int)) ∧ Below W.heap.size W w') := Lib.hid (fun W => refKinds_any p W)
  have dk1 : decide (kd < 0) = false := decide_eq_false (by omega)
  have dk2 : decide ((sqKinds p : Int) ≤ kd) = false := decide_eq_false (by omega)
  obtain ⟨g1, cap, rfl, hg1, hlt1, hc, hf⟩ := h.opened (by simp)
  have HO := Lib.hid h
  have HR := Lib.hid h.room
  have hcap : r.length + 1 ≤ cap := h.room _ _ _ rfl
  have d1 := hc 0 x rfl
  unfold apW at HX0
  generalize hw0 : ((w.alloc (Tb.specO 7 p (qn : Int))).alloc (callO t ob kd (a : Int) b c)).alloc (ansC 0 0 (.slice none 0 0)) = w0 at *
  unfold Tb.specO at hw0
  have hlt0 := HX0.out.lt
  have l1 : ∀ p' : BW w0.heap.size w0, p'.v.cell? ⟨w.heap.size, 1, none⟩ = some (.int .i64 p) := fun p' => p'.cell (by show w.heap.size < _; omega) HX0.out.s1
  have l2 : ∀ p' : BW w0.heap.size w0, p'.v.cell? ⟨w.heap.size + 1, 2, none⟩ = some (.int .i64 kd) := fun p' => p'.cell (by show w.heap.size + 1 < _; omega) HX0.out.c2
  have hlen : (x :: r).length = r.length + 1 := rfl
  generalize sqKinds p = kn at *
  have hd : decide ((4294967296 : Int) ≤ (a : Int)) = true := decide_eq_true (by omega)
  rw [hlen] at HO ⊢
  clear h hf hk
  unfold Tb.specV
  go_enter Tryz.func67, Tryz.ntmps67
  go_wp2
  refine wp_region_low (B := w0.heap.size) (w := w0) (by kernel_rfl) (by kernel_rfl) ?_
  repeat (go_big_quiet_step ((go_at_call 57; exact low_call (HKN.out _) (Nat.le_refl _))))
  refine wpQuiet_nil ?_
  intro w2 hw'
  obtain ⟨pq, eq1⟩ := hw'
  have hb2 := pq.h
  rw [← eq1] at hb2
  clear eq1 pq
  have HX2 := Lib.hid (HX0.out.next hb2)
  have HO2 := Lib.hid (HO.out.below HX2.out.bel)
  have e1 := (HX2.out.bel.cell (p := ⟨g1, 0, none⟩) hlt1).trans d1
  have hlt2 := HX2.out.lt
  obtain ⟨s0, s1, s2, c0, c1, c2, c3, c4, c5, hba, hbel⟩ := HX2.out
  have k0 := Tb.cell_of_blkT (k := 0) hba rfl
  have k1 := Tb.cell_of_blkT (k := 1) hba rfl
  have k2 := Tb.cell_of_blkT (k := 2) hba rfl
  have z0 := Tb.free_of_blkT (k := 0) hba
  have z1 := Tb.free_of_blkT (k := 1) hba
  have z2 := Tb.free_of_blkT (k := 2) hba
  have HNE := Lib.hid (HO2.out.ne_ans hba)
  have HBL := Lib.hid hbel
  have HBA := Lib.hid hba
  clear hba hbel hb2
  go_wp2_with fail
  refine bodyPost_ret (v := .tuple #[.slice (some ⟨g1, 0, none⟩) (r.length + 1) cap, .agg #[.int .i64 10, .int .u64 0, .slice none 0 0]]) (by simp [results, Tryz.results67, go_sem, k0, k1, k2]) rfl ⟨_, _, rfl, ⟨(HO2.out.put3 HNE.out _ _ _).argB, HR.out⟩, ⟨ArgB.nil _ _, room_nil⟩, put3_below (HBL.out.mono hB) (by omega) _ _ _⟩

set_option maxHeartbeats 8000000 in
theorem runiv_full (x qn a : Nat) (p : Int) (t ob kd b c : Int) (r : List Nat) (v : Value) (B : Nat) (w : World) (h : OwnW w B v (x :: r)) (hB : B ≤ w.heap.size) (hk : 0 ≤ kd ∧ kd < (sqKinds p : Int)) (hq : qn ≤ 256) (ha : a < 4294967296) (hx : qn ≤ x) :
    Calls Tryz.prog 67 #[Tb.specV 7 p (qn : Int), v, callV t ob kd (a : Int) b c] w (ChP B w ⟨x :: r, 6, 0, []⟩) := by
  have HX0 := Lib.hid (apBox w 7 p (qn : Int) t ob kd (a : Int) b c (ansC 0 0 (.slice none 0 0)))
  have HKN : Hid (∀ W, Calls Tryz.prog 57 #[.int .i64 p] W fun e w' => e = .returned (.int .i64 (sqKinds p : Int)) ∧ Below W.heap.size W w') := Lib.hid (fun W => refKinds_any p W)
  have dk1 : decide (kd < 0) = false := decide_eq_false (by omega)
  have dk2 : decide ((sqKinds p : Int) ≤ kd) = false := decide_eq_false (by omega)
  obtain ⟨g1, cap, rfl, hg1, hlt1, hc, hf⟩ := h.opened (by simp)
  have HO := Lib.hid h
  have HR := Lib.hid h.room
  have hcap : r.length + 1 ≤ cap := h.room _ _ _ rfl
  have d1 := hc 0 x rfl
  unfold apW at HX0
  generalize hw0 : ((w.alloc (Tb.specO 7 p (qn : Int))).alloc (callO t ob kd (a : Int) b c)).alloc (ansC 0 0 (.slice none 0 0)) = w0 at *
  unfold Tb.specO at hw0
  have hlt0 := HX0.out.lt
  have l1 : ∀ p' : BW w0.heap.size w0, p'.v.cell? ⟨w.heap.size, 1, none⟩ = some (.int .i64 p) := fun p' => p'.cell (by show w.heap.size < _; omega) HX0.out.s1
  have l2 : ∀ p' : BW w0.heap.size w0, p'.v.cell? ⟨w.heap.size + 1, 2, none⟩ = some (.int .i64 kd) := fun p' => p'.cell (by show w.heap.size + 1 < _; omega) HX0.out.c2
  have hlen : (x :: r).length = r.length + 1 := rfl
  generalize sqKinds p = kn at *
  have hd : decide ((4294967296 : Int) ≤ (a : Int)) = false := decide_eq_false (by omega)
  have dd : decide ((qn : Int) ≤ (x : Int)) = true := decide_eq_true (by omega)
  have dd2 : decide ((x : Int) < (qn : Int)) = false := decide_eq_false (by omega)
  have dd3 : (qn : Int) ≤ (x : Int) := by omega
  have dd4 : qn ≤ x := hx
  rw [hlen] at HO ⊢
  clear h hf hk
  unfold Tb.specV
  go_enter Tryz.func67, Tryz.ntmps67
  go_wp2
  refine wp_region_low (B := w0.heap.size) (w := w0) (by kernel_rfl) (by kernel_rfl) ?_
  repeat (go_big_quiet_step ((go_at_call 57; exact low_call (HKN.out _) (Nat.le_refl _))))
  refine wpQuiet_nil ?_
  intro w2 hw'
  obtain ⟨pq, eq1⟩ := hw'
  have hb2 := pq.h
  rw [← eq1] at hb2
  clear eq1 pq
  have HX2 := Lib.hid (HX0.out.next hb2)
  have HO2 := Lib.hid (HO.out.below HX2.out.bel)
  have e1 := (HX2.out.bel.cell (p := ⟨g1, 0, none⟩) hlt1).trans d1
  have hlt2 := HX2.out.lt
  obtain ⟨s0, s1, s2, c0, c1, c2, c3, c4, c5, hba, hbel⟩ := HX2.out
  have k0 := Tb.cell_of_blkT (k := 0) hba rfl
  have k1 := Tb.cell_of_blkT (k := 1) hba rfl
  have k2 := Tb.cell_of_blkT (k := 2) hba rfl
  have z0 := Tb.free_of_blkT (k := 0) hba
  have z1 := Tb.free_of_blkT (k := 1) hba
  have z2 := Tb.free_of_blkT (k := 2) hba
  have HNE := Lib.hid (HO2.out.ne_ans hba)
  have HBL := Lib.hid hbel
  have HBA := Lib.hid hba
  clear hba hbel hb2
  go_wp2_with fail
  go_quiet (fail)
  have HOq := Lib.hid (HO2.out.drewN nq)
  go_wp2_with fail
  refine bodyPost_ret (v := .tuple #[.slice (some ⟨g1, 0, none⟩) (r.length + 1) cap, .agg #[.int .i64 6, .int .u64 0, .slice none 0 0]]) (by simp [results, Tryz.results67, go_sem, k0, k1, k2]) rfl ⟨_, _, rfl, ⟨(HOq.out.put3 HNE.out _ _ _).argB, HR.out⟩, ⟨ArgB.nil _ _, room_nil⟩, put3_below (below_drewN (HBL.out.mono hB) nq) (by omega) _ _ _⟩

end Go.Proofs.YtjjleghalajidaaGreat
