/- The reference's univ, when it goes on. -/
import Derived.Test.YtjjleghalajidaaGreatJV
namespace Go.Proofs.YtjjleghalajidaaGreat
open Go.ChangeShapes Go.WideShapes Go.ChangeAt Go.RowKit
set_option linter.unusedVariables false
set_option linter.unusedSimpArgs false
set_option maxRecDepth 100000

set_option maxHeartbeats 8000000 in
theorem runiv_go (x qn a : Nat) (p : Int) (t ob kd b c : Int) (r : List Nat) (v : Value) (B : Nat) (w : World) (h : OwnW w B v (x :: r)) (hB : B ≤ w.heap.size) (hk : 0 ≤ kd ∧ kd < (sqKinds p : Int)) (hq : qn ≤ 256) (ha : a < 4294967296) (hx : x < qn) (d : List Nat × Nat × Nat) (hdl : d.1.length ≤ 9) (hAP : ∀ (v1 : Value) W, ArgW W v1 r → Calls Tryz.prog 100 #[.int .i64 p, v1, .int .i64 kd, .int .u64 (a : Int)] W (DnP W.heap.size W d)) :
    Calls Tryz.prog 67 #[Tb.specV 7 p (qn : Int), v, callV t ob kd (a : Int) b c] w (ChP B w ⟨(x + 1) :: d.1, d.2.2, d.2.1, []⟩) := by
  have HX0 := Lib.hid (apBox w 7 p (qn : Int) t ob kd (a : Int) b c (ansC 0 0 (.slice none 0 0)))
  have HKN : Hid (∀ W, Calls Tryz.prog 57 #[.int .i64 p] W fun e w' => e = .returned (.int .i64 (sqKinds p : Int)) ∧ Below W.heap.size W w') := Lib.hid (fun W => refKinds_any p W)
  have dk1 : decide (kd < 0) = false := decide_eq_false (by omega)
  have dk2 : decide ((sqKinds p : Int) ≤ kd) = false := decide_eq_false (by omega)
  obtain ⟨g1, cap, rfl, hg1, hlt1, hc, hf⟩ := h.opened (by simp)
  have HO := Lib.hid h
  have HR := Lib.hid h.room
  have hcap : r.length + 1 ≤ cap := h.room _ _ _ rfl
  have d1 := hc 0 x rfl
  unfold apW at HX0
  generalize hw0 : ((w.alloc (Tb.specO 7 p (qn : Int))).alloc (callO t ob kd (a : Int) b c)).alloc (ansC 0 0 (.slice none 0 0)) = w0 at *
  unfold Tb.specO at hw0
  have hlt0 := HX0.out.lt
  have l1 : ∀ p' : BW w0.heap.size w0, p'.v.cell? ⟨w.heap.size, 1, none⟩ = some (.int .i64 p) := fun p' => p'.cell (by show w.heap.size < _; omega) HX0.out.s1
  have l2 : ∀ p' : BW w0.heap.size w0, p'.v.cell? ⟨w.heap.size + 1, 2, none⟩ = some (.int .i64 kd) := fun p' => p'.cell (by show w.heap.size + 1 < _; omega) HX0.out.c2
  have hlen : (x :: r).length = r.length + 1 := rfl
  generalize sqKinds p = kn at *
  have hd : decide ((4294967296 : Int) ≤ (a : Int)) = false := decide_eq_false (by omega)
  have dd : decide ((qn : Int) ≤ (x : Int)) = false := decide_eq_false (by omega)
  have dd2 : decide ((x : Int) < (qn : Int)) = true := decide_eq_true (by omega)
  have dd3 : ¬ (qn : Int) ≤ (x : Int) := by omega
  have dd4 : ¬ qn ≤ x := by omega
  have HAP := Lib.hid hAP
  have HCW := Lib.hid hc
  rw [hlen] at HO ⊢
  clear h hf hk hAP hc
  unfold Tb.specV
  go_enter Tryz.func67, Tryz.ntmps67
  go_wp2
  refine wp_region_low (B := w0.heap.size) (w := w0) (by kernel_rfl) (by kernel_rfl) ?_
  repeat (go_big_quiet_step ((go_at_call 57; exact low_call (HKN.out _) (Nat.le_refl _))))
  refine wpQuiet_nil ?_
  intro w2 hw'
  obtain ⟨pq, eq1⟩ := hw'
  have hb2 := pq.h
  rw [← eq1] at hb2
  clear eq1 pq
  have HX2 := Lib.hid (HX0.out.next hb2)
  have HO2 := Lib.hid (HO.out.below HX2.out.bel)
  have e1 := (HX2.out.bel.cell (p := ⟨g1, 0, none⟩) hlt1).trans d1
  have hlt2 := HX2.out.lt
  obtain ⟨s0, s1, s2, c0, c1, c2, c3, c4, c5, hba, hbel⟩ := HX2.out
  have k0 := Tb.cell_of_blkT (k := 0) hba rfl
  have k1 := Tb.cell_of_blkT (k := 1) hba rfl
  have k2 := Tb.cell_of_blkT (k := 2) hba rfl
  have z0 := Tb.free_of_blkT (k := 0) hba
  have z1 := Tb.free_of_blkT (k := 1) hba
  have z2 := Tb.free_of_blkT (k := 2) hba
  have HNE := Lib.hid (HO2.out.ne_ans hba)
  have HBL := Lib.hid hbel
  have HBA := Lib.hid hba
  clear hba hbel hb2
  go_wp2_with fail
  go_quiet (fail)
  have HXq : Hid (ApBox w (w2.drewN nq) 7 p (qn : Int) t ob kd (a : Int) b c (ansC 0 0 (.slice none 0 0))) := Lib.hid ⟨s0, s1, s2, c0, c1, c2, c3, c4, c5, HBA.out, below_drewN HBL.out nq⟩
  have hsz2 : (w2.drewN nq).heap.size = w2.heap.size := rfl
  clear s0 s1 s2 c0 c1 c2 c3 c4 c5 k0 k1 k2 z0 z1 z2 e1 HNE HO2 HBA HBL HX2 hlt2
  generalize w2.drewN nq = W1 at *
  have hltW := HXq.out.lt
  have hW0 := Lib.hid HXq.out.bel
  have hK0 := Lib.hid HXq.out.ans
  have e1 := (hW0.out.cell (p := ⟨g1, 0, none⟩) hlt1).trans d1
  obtain ⟨s0, eP, s2, c0, c1, e2, e3, c4, c5, _, _⟩ := HXq.out
  have nP : w.heap.size ≠ W1.heap.size := by omega
  have nP2 : W1.heap.size ≠ w.heap.size := by omega
  have nC : w.heap.size + 1 ≠ W1.heap.size := by omega
  have nC2 : W1.heap.size ≠ w.heap.size + 1 := by omega
  have lP : w.heap.size < W1.heap.size := by omega
  have lC : w.heap.size + 1 < W1.heap.size := by omega
  clear d1 s0 s2 c0 c1 c4 c5 hsz2
  by_cases hc1 : cap = 1
  · subst hc1
    have ht0 : r = [] := List.length_eq_zero_iff.1 (by omega)
    subst ht0
    simp only [List.length_nil, Nat.zero_add] at *
    go_upto_region 7 with fail
    go_cut [8] from 9 to 44 (fun v8 wx => ∃ (b8 : Nat) (ao7 : Option Addr) (cap7 : Nat), v8 = .pointer (some ⟨b8, 0, none⟩) ∧ Hid (W1.heap.size ≤ b8) ∧ Hid (wx.cell? ⟨b8, 0, none⟩ = some (.slice ao7 d.1.length cap7) ∧ wx.cell? ⟨b8, 1, none⟩ = some (.int .i64 (d.2.2 : Int)) ∧ wx.cell? ⟨b8, 2, none⟩ = some (.int .u64 (d.2.1 : Int))) ∧ Hid (ArgB wx W1.heap.size (.slice ao7 d.1.length cap7) d.1) ∧ Hid (Below W1.heap.size W1 wx))
    case first =>
      go_region_held3 (fun w' => w'.cell? ⟨w.heap.size, 1, none⟩ = some (.int .i64 p) ∧ w'.cell? ⟨w.heap.size + 1, 2, none⟩ = some (.int .i64 kd) ∧ w'.cell? ⟨w.heap.size + 1, 3, none⟩ = some (.int .u64 (a : Int)))
        (first | exact ⟨eP, e2, e3⟩ | (refine ⟨?_, ?_, ?_⟩ <;> simp [World.cell?_setCell_ne, nP, nC, nP2, nC2, eP, e2, e3]; done) | go_keep)
        (first
          | (go_at_call 100
             refine (HAP.out _ _ (argW_none _ _ _)).mono ?_
             rintro e w3 ⟨v3, rfl, ho3, hb3⟩
             have HBW : Hid (Below W1.heap.size W1 w3) := Lib.hid (by first | exact ((Below.refl _ _).drew.trans hb3) | exact (((Below.refl _ _).alloc (Nat.le_refl _) _).drew.trans (hb3.mono (by simp))) | exact (((Below.refl _ _).drew.alloc (Nat.le_refl _) _).trans (hb3.mono (by simp))))
             have n1 := (HBW.out.cell (p := ⟨w.heap.size, 1, none⟩) lP).trans eP
             have n2 := (HBW.out.cell (p := ⟨w.heap.size + 1, 2, none⟩) lC).trans e2
             have n3 := (HBW.out.cell (p := ⟨w.heap.size + 1, 3, none⟩) lC).trans e3
             clear eP e2 e3
             have eP := n1
             have e2 := n2
             have e3 := n3
             clear n1 n2 n3
             obtain ⟨ao7, cap7, rfl⟩ := ho3.arg.isSlice
             have zw := HBW.out.size
             first
               | (have hz : w3.heap[W1.heap.size]? = some doneO := (hb3.block _ (by simp)).trans (heap_alloc_new _ _)
                  have k0 : w3.cell? ⟨W1.heap.size, 0, none⟩ = some (.slice none 0 0) := Tb.cell_of_blkT (k := 0) hz rfl
                  have k1 : w3.cell? ⟨W1.heap.size, 1, none⟩ = some (.int .i64 0) := Tb.cell_of_blkT (k := 1) hz rfl
                  have k2 : w3.cell? ⟨W1.heap.size, 2, none⟩ = some (.int .u64 0) := Tb.cell_of_blkT (k := 2) hz rfl
                  have z0 := Tb.free_of_blkT (k := 0) hz
                  have z1 := Tb.free_of_blkT (k := 1) hz
                  have z2 := Tb.free_of_blkT (k := 2) hz
                  have zl := blk_lt hz
                  have HO3 : Hid (ArgB w3 (W1.heap.size + 1) (.slice ao7 d.1.length cap7) d.1) := Lib.hid (ho3.mono (by simp))
                  clear hz)
               | (have HO3 : Hid (ArgB w3 W1.heap.size (.slice ao7 d.1.length cap7) d.1) := Lib.hid (ho3.mono (by simp)))
             clear ho3 hb3)
          | fail)
      all_goals (go_wp2_with fail; go_meet)
      all_goals first
        | exact ⟨W1.heap.size, ao7, cap7, rfl, Lib.hid (Nat.le_refl _), Lib.hid (put3_cells k0 k1 k2 _ _ _), Lib.hid ((HO3.out.put3 (by omega) _ _ _).mono (by omega)), Lib.hid (put3_below HBW.out (Nat.le_refl _) _ _ _)⟩
        | exact ⟨w3.heap.size, ao7, cap7, rfl, Lib.hid zw, Lib.hid (new3_cells _ _ _ _ _), Lib.hid (HO3.out.below ((Below.refl _ _).alloc (Nat.le_refl _) _)), Lib.hid (HBW.out.alloc zw _)⟩
    case rest =>
      obtain ⟨b8, ao7, cap7, rfl, HG8, HC8, HO7, HBc⟩ := hcut
      have hBW : B ≤ W1.heap.size := Nat.le_trans hB hW0.out.size
      have hsz := HBc.out.size
      have m1 := (HBc.out.cell (p := ⟨g1, 0, none⟩) (by show g1 < _; omega)).trans e1
      have HKc := Lib.hid ((HBc.out.block _ hltW).trans hK0.out)
      obtain ⟨q0, q1, q2⟩ := HC8.out
      have hwx : IntKind.u64.wrap ((x : Int) + 1) = ((x + 1 : Nat) : Int) := by
        have e : (x : Int) + 1 = ((x + 1 : Nat) : Int) := by omega
        rw [e]; exact IntWalk.u64_in _ (by omega)
      have hb8 := World.block_lt_of_cell? wc _ q0
      simp only at hb8
      have hAlt : w.heap.size + 1 + 1 < wc.heap.size := Nat.lt_of_lt_of_le hltW hsz
      obtain ⟨iI, ia, ib, ic, id⟩ := info_parts info22
      have HROW : Hid (((wc.drew).alloc (.cells #[.int .u64 ((x + 1 : Nat) : Int)] 55)).ownsRow wc.heap.size 55 1 (.slice (some ⟨wc.heap.size, 0, none⟩) 1 1) 1 [.int .u64 ((x + 1 : Nat) : Int)]) := Lib.hid (row_one wc.drew (x + 1) wc.heap.size (Nat.le_refl _))
      have HONE := Lib.hid (wU_one d.1)
      have HLN : Hid ((d.1.map wU).length = d.1.length) := Lib.hid (by simp)
      obtain ⟨ao9, b9, o9, cap9, hv, h19, h29, h39⟩ := HO7.out
      have hvv : ao7 = ao9 ∧ cap7 = cap9 := by injection hv with h1 h2 h3; exact ⟨h1, h3⟩
      obtain ⟨rfl, rfl⟩ := hvv
      cases ao7 with
      | none =>
        have hdl0 : d.1.length = 0 := by
          rcases Nat.eq_zero_or_pos d.1.length with h | h
          · exact h
          · exact absurd (h19 h).1 (by simp)
        obtain rfl : cap7 = 0 := h29 rfl
        have hd0 : d.1 = [] := List.length_eq_zero_iff.1 hdl0
        have HOF : Hid (∀ e0 v0 z0 : Value, OwnW ((((wc.setCell ⟨w.heap.size + 1 + 1, 0, none⟩ e0).setCell ⟨w.heap.size + 1 + 1, 1, none⟩ v0).setCell ⟨w.heap.size + 1 + 1, 2, none⟩ z0).alloc (.cells #[.int .u64 ((x : Int) + 1)] 55)) wc.heap.size (.slice (some ⟨wc.heap.size, 0, none⟩) 1 1) ((x + 1) :: d.1)) := Lib.hid (fun e0 v0 z0 => by
          have h := row_one (((wc.setCell ⟨w.heap.size + 1 + 1, 0, none⟩ e0).setCell ⟨w.heap.size + 1 + 1, 1, none⟩ v0).setCell ⟨w.heap.size + 1 + 1, 2, none⟩ z0) (x + 1) wc.heap.size (by simp)
          have es : (((wc.setCell ⟨w.heap.size + 1 + 1, 0, none⟩ e0).setCell ⟨w.heap.size + 1 + 1, 1, none⟩ v0).setCell ⟨w.heap.size + 1 + 1, 2, none⟩ z0).heap.size = wc.heap.size := by simp
          rw [es] at h
          rw [hd0]
          exact h)
        rw [hdl0] at *
        clear hv h19 h29 h39
        go_wp2_with fail
        have kc0 := Tb.cell_of_blkT (k := 0) HKc.out rfl
        have kc1 := Tb.cell_of_blkT (k := 1) HKc.out rfl
        have kc2 := Tb.cell_of_blkT (k := 2) HKc.out rfl
        have zc0 := Tb.free_of_blkT (k := 0) HKc.out
        have zc1 := Tb.free_of_blkT (k := 1) HKc.out
        have zc2 := Tb.free_of_blkT (k := 2) HKc.out
        have nA : b8 ≠ w.heap.size + 1 + 1 := by have := HG8.out; omega
        have nA2 : w.heap.size + 1 + 1 ≠ b8 := fun e => nA e.symm
        have nG : g1 ≠ w.heap.size + 1 + 1 := by omega
        have nG2 : w.heap.size + 1 + 1 ≠ g1 := by omega
        have lg1 : g1 < wc.heap.size := by omega
        go_region_held3 (fun w' => w'.cell? ⟨g1, 0, none⟩ = some (.int .u64 (x : Int)) ∧ w'.cell? ⟨b8, 0, none⟩ = some (.slice none 0 0) ∧ w'.cell? ⟨b8, 1, none⟩ = some (.int .i64 (d.2.2 : Int)) ∧ w'.cell? ⟨b8, 2, none⟩ = some (.int .u64 (d.2.1 : Int)))
          (first | exact ⟨m1, q0, q1, q2⟩ | exact ⟨ym, y0, y1, y2⟩ | exact ⟨(World.cell?_alloc_past _ _ _ lg1).trans m1, (World.cell?_alloc_past _ _ _ hb8).trans q0, (World.cell?_alloc_past _ _ _ hb8).trans q1, (World.cell?_alloc_past _ _ _ hb8).trans q2⟩ | (refine ⟨?_, ?_, ?_, ?_⟩ <;> simp [World.cell?_setCell_ne, nA, nA2, nG, nG2, m1, q0, q1, q2]; done) | go_keep)
          (first
            | (refine step_onto_none (w := (wc.drew).alloc (.cells #[.int .u64 ((x + 1 : Nat) : Int)] 55)) rfl _ _ 37 rfl wc.heap.size 55 iI 1 Tryz.underlying37 ia _ 1 _ rfl HROW.out rfl ?_)
            | fail)
        all_goals (go_wp2_with fail)
        all_goals exact bodyPost_ret (v := .tuple #[.slice (some ⟨wc.heap.size, 0, none⟩) 1 1, .agg #[.int .i64 (d.2.2 : Int), .int .u64 (d.2.1 : Int), .slice none 0 0]]) (by simp [results, Tryz.results67, go_sem, kc0, kc1, kc2, hAlt]) rfl ⟨_, _, rfl, ⟨((HOF.out _ _ _).drewN 1).argB.mono (Nat.le_trans hBW hsz), (HOF.out (.int .i64 0) (.int .i64 0) (.int .i64 0)).room⟩, ⟨ArgB.nil _ _, room_nil⟩, ((put3_below ((hW0.out.mono hB).trans (HBc.out.mono hBW)) (by omega) _ _ _).alloc (by simp; omega) _).drew⟩
      | some ad =>
        have HCC : Hid (∀ (j : Nat) (u : Value), (d.1.map wU)[j]? = some u → ((wc.drew).alloc (.cells #[.int .u64 ((x + 1 : Nat) : Int)] 55)).cell? (ad.add j) = some u) := Lib.hid (fun j u hu => by
          rw [List.getElem?_map] at hu
          obtain ⟨y, hy, rfl⟩ := Option.map_eq_some_iff.1 hu
          have hj := (List.getElem?_eq_some_iff.1 hy).1
          obtain rfl := Option.some.inj (h19 (by omega)).1
          have hcy := h39 j y hy
          rw [addr_add _ j b9 o9 rfl]
          exact (World.cell?_alloc_past (w := wc.drew) _ _ _ (World.block_lt_of_cell? wc _ hcy)).trans hcy)
        have HM2 : Hid (∀ (v2 : Value) (w2 : World), w2.ownsRow wc.heap.size 55 1 v2 (1 + d.1.length) ([.int .u64 ((x + 1 : Nat) : Int)] ++ d.1.map wU) → OwnW w2 wc.heap.size v2 ((x + 1) :: d.1)) := Lib.hid (fun v2 w2 ho => by
          unfold OwnW
          rw [List.length_cons, Nat.add_comm, ← own_cons]
          exact ho)
        have HKP : Hid (∀ (w2 : World), (∀ k, k < ((wc.drew).alloc (.cells #[.int .u64 ((x + 1 : Nat) : Int)] 55)).heap.size → (Value.slice (some ⟨wc.heap.size, 0, none⟩) 1 1).ownBlock ≠ some k → w2.heap[k]? = ((wc.drew).alloc (.cells #[.int .u64 ((x + 1 : Nat) : Int)] 55)).heap[k]?) → ∀ k, k < wc.heap.size → w2.heap[k]? = wc.heap[k]?) := Lib.hid (fun w2 h k hk => by
          rw [h k (by simp; omega) (fun e => by simp [Value.ownBlock] at e; omega)]
          exact Below.heap_alloc wc.drew _ k hk)
        have hle : 1 + d.1.length ≤ 4294967296 := by omega
        clear hv h19 h29 h39
        go_wp2_with fail
        have nA : b8 ≠ w.heap.size + 1 + 1 := by have := HG8.out; omega
        have nA2 : w.heap.size + 1 + 1 ≠ b8 := fun e => nA e.symm
        have nG : g1 ≠ w.heap.size + 1 + 1 := by omega
        have nG2 : w.heap.size + 1 + 1 ≠ g1 := by omega
        have lg1 : g1 < wc.heap.size := by omega
        go_region_held3 (fun w' => w'.cell? ⟨g1, 0, none⟩ = some (.int .u64 (x : Int)) ∧ w'.cell? ⟨b8, 0, none⟩ = some (.slice (some ad) d.1.length cap7) ∧ w'.cell? ⟨b8, 1, none⟩ = some (.int .i64 (d.2.2 : Int)) ∧ w'.cell? ⟨b8, 2, none⟩ = some (.int .u64 (d.2.1 : Int)))
          (first | exact ⟨m1, q0, q1, q2⟩ | exact ⟨ym, y0, y1, y2⟩ | exact ⟨(World.cell?_alloc_past _ _ _ lg1).trans m1, (World.cell?_alloc_past _ _ _ hb8).trans q0, (World.cell?_alloc_past _ _ _ hb8).trans q1, (World.cell?_alloc_past _ _ _ hb8).trans q2⟩ | (refine ⟨?_, ?_, ?_, ?_⟩ <;> simp [World.cell?_setCell_ne, nA, nA2, nG, nG2, ym, y0, y1, y2]; done) | go_keep)
          (first
            | (refine step_onto_ownO (w := (wc.drew).alloc (.cells #[.int .u64 ((x + 1 : Nat) : Int)] 55)) rfl _ _ 37 rfl wc.heap.size 55 iI (.int .u64 0) 8 Tryz.underlying37 ia ib ic id rfl (by decide) _ 1 _ rfl HROW.out ad cap7 d.1.length (d.1.map wU) rfl HLN.out HCC.out HONE.out hle (by simp) ?_; intro v2 w2 ho2 hb2; intro hkp; (have HO2 := Lib.hid (HM2.out v2 w2 ho2)); (have hkeep := HKP.out w2 hkp); (have hbk2 := (hkeep _ hAlt).trans HKc.out); (have k0 := Tb.cell_of_blkT (k := 0) hbk2 rfl); (have k1 := Tb.cell_of_blkT (k := 1) hbk2 rfl); (have k2 := Tb.cell_of_blkT (k := 2) hbk2 rfl); (have z0 := Tb.free_of_blkT (k := 0) hbk2); (have z1 := Tb.free_of_blkT (k := 1) hbk2); (have z2 := Tb.free_of_blkT (k := 2) hbk2); (have y0 := (World.cell?_of_block (a := ⟨b8, 0, none⟩) (hkeep b8 hb8)).trans q0); (have y1 := (World.cell?_of_block (a := ⟨b8, 1, none⟩) (hkeep b8 hb8)).trans q1); (have y2 := (World.cell?_of_block (a := ⟨b8, 2, none⟩) (hkeep b8 hb8)).trans q2); (have ym := (World.cell?_of_block (a := ⟨g1, 0, none⟩) (hkeep g1 lg1)).trans m1); (have HNE := Lib.hid (HO2.out.ne_ans hbk2)); (have HBF : Hid (Below wc.heap.size wc w2) := Lib.hid (((Below.refl _ _).drew.alloc (by simp) _).trans hb2)); clear ho2 hb2 hkp hkeep hbk2)
            | fail)
        all_goals (go_wp2_with fail)
        all_goals exact bodyPost_ret (v := .tuple #[v2, .agg #[.int .i64 (d.2.2 : Int), .int .u64 (d.2.1 : Int), .slice none 0 0]]) (by simp [results, Tryz.results67, go_sem, k0, k1, k2]) rfl ⟨_, _, rfl, ⟨((HO2.out.put3 HNE.out _ _ _).argB).mono (Nat.le_trans hBW hsz), HO2.out.room⟩, ⟨ArgB.nil _ _, room_nil⟩, put3_below ((hW0.out.mono hB).trans ((HBc.out.mono hBW).trans (HBF.out.mono (Nat.le_trans hBW hsz)))) (by omega) _ _ _⟩
  · have h1c : 1 < cap := by omega
    have HTL := run_tail g1 r.length cap (by omega)
    have HAT : Hid (∀ W, Below W1.heap.size W1 W → ArgW W (.slice (some ⟨g1, 1, none⟩) r.length (cap - 1)) r) := Lib.hid (fun W hb => argW_tail (o := 0) (x := x) (fun i y hy => (hb.cell (p := ⟨g1, _, none⟩) (by show g1 < _; omega)).trans ((hW0.out.cell (p := ⟨g1, _, none⟩) hlt1).trans (by rw [Nat.zero_add]; exact HCW.out i y hy))))
    go_upto_region 7 with fail
    go_cut [8] from 9 to 44 (fun v8 wx => ∃ (b8 : Nat) (ao7 : Option Addr) (cap7 : Nat), v8 = .pointer (some ⟨b8, 0, none⟩) ∧ Hid (W1.heap.size ≤ b8) ∧ Hid (wx.cell? ⟨b8, 0, none⟩ = some (.slice ao7 d.1.length cap7) ∧ wx.cell? ⟨b8, 1, none⟩ = some (.int .i64 (d.2.2 : Int)) ∧ wx.cell? ⟨b8, 2, none⟩ = some (.int .u64 (d.2.1 : Int))) ∧ Hid (ArgB wx W1.heap.size (.slice ao7 d.1.length cap7) d.1) ∧ Hid (Below W1.heap.size W1 wx))
    case first =>
      go_region_held3 (fun w' => w'.cell? ⟨w.heap.size, 1, none⟩ = some (.int .i64 p) ∧ w'.cell? ⟨w.heap.size + 1, 2, none⟩ = some (.int .i64 kd) ∧ w'.cell? ⟨w.heap.size + 1, 3, none⟩ = some (.int .u64 (a : Int)))
        (first | exact ⟨eP, e2, e3⟩ | (refine ⟨?_, ?_, ?_⟩ <;> simp [World.cell?_setCell_ne, nP, nC, nP2, nC2, eP, e2, e3]; done) | go_keep)
        (first
          | (go_at_call 100
             refine (HAP.out _ _ (by first | exact HAT.out _ (Below.refl _ _).drew | exact HAT.out _ (((Below.refl _ _).alloc (Nat.le_refl _) _).drew) | exact HAT.out _ ((Below.refl _ _).drew.alloc (Nat.le_refl _) _))).mono ?_
             rintro e w3 ⟨v3, rfl, ho3, hb3⟩
             have HBW : Hid (Below W1.heap.size W1 w3) := Lib.hid (by first | exact ((Below.refl _ _).drew.trans hb3) | exact (((Below.refl _ _).alloc (Nat.le_refl _) _).drew.trans (hb3.mono (by simp))) | exact (((Below.refl _ _).drew.alloc (Nat.le_refl _) _).trans (hb3.mono (by simp))))
             have n1 := (HBW.out.cell (p := ⟨w.heap.size, 1, none⟩) lP).trans eP
             have n2 := (HBW.out.cell (p := ⟨w.heap.size + 1, 2, none⟩) lC).trans e2
             have n3 := (HBW.out.cell (p := ⟨w.heap.size + 1, 3, none⟩) lC).trans e3
             clear eP e2 e3
             have eP := n1
             have e2 := n2
             have e3 := n3
             clear n1 n2 n3
             obtain ⟨ao7, cap7, rfl⟩ := ho3.arg.isSlice
             have zw := HBW.out.size
             first
               | (have hz : w3.heap[W1.heap.size]? = some doneO := (hb3.block _ (by simp)).trans (heap_alloc_new _ _)
                  have k0 : w3.cell? ⟨W1.heap.size, 0, none⟩ = some (.slice none 0 0) := Tb.cell_of_blkT (k := 0) hz rfl
                  have k1 : w3.cell? ⟨W1.heap.size, 1, none⟩ = some (.int .i64 0) := Tb.cell_of_blkT (k := 1) hz rfl
                  have k2 : w3.cell? ⟨W1.heap.size, 2, none⟩ = some (.int .u64 0) := Tb.cell_of_blkT (k := 2) hz rfl
                  have z0 := Tb.free_of_blkT (k := 0) hz
                  have z1 := Tb.free_of_blkT (k := 1) hz
                  have z2 := Tb.free_of_blkT (k := 2) hz
                  have zl := blk_lt hz
                  have HO3 : Hid (ArgB w3 (W1.heap.size + 1) (.slice ao7 d.1.length cap7) d.1) := Lib.hid (ho3.mono (by simp))
                  clear hz)
               | (have HO3 : Hid (ArgB w3 W1.heap.size (.slice ao7 d.1.length cap7) d.1) := Lib.hid (ho3.mono (by simp)))
             clear ho3 hb3)
          | fail)
      all_goals (go_wp2_with fail; go_meet)
      all_goals first
        | exact ⟨W1.heap.size, ao7, cap7, rfl, Lib.hid (Nat.le_refl _), Lib.hid (put3_cells k0 k1 k2 _ _ _), Lib.hid ((HO3.out.put3 (by omega) _ _ _).mono (by omega)), Lib.hid (put3_below HBW.out (Nat.le_refl _) _ _ _)⟩
        | exact ⟨w3.heap.size, ao7, cap7, rfl, Lib.hid zw, Lib.hid (new3_cells _ _ _ _ _), Lib.hid (HO3.out.below ((Below.refl _ _).alloc (Nat.le_refl _) _)), Lib.hid (HBW.out.alloc zw _)⟩
    case rest =>
      obtain ⟨b8, ao7, cap7, rfl, HG8, HC8, HO7, HBc⟩ := hcut
      have hBW : B ≤ W1.heap.size := Nat.le_trans hB hW0.out.size
      have hsz := HBc.out.size
      have m1 := (HBc.out.cell (p := ⟨g1, 0, none⟩) (by show g1 < _; omega)).trans e1
      have HKc := Lib.hid ((HBc.out.block _ hltW).trans hK0.out)
      obtain ⟨q0, q1, q2⟩ := HC8.out
      have hwx : IntKind.u64.wrap ((x : Int) + 1) = ((x + 1 : Nat) : Int) := by
        have e : (x : Int) + 1 = ((x + 1 : Nat) : Int) := by omega
        rw [e]; exact IntWalk.u64_in _ (by omega)
      have hb8 := World.block_lt_of_cell? wc _ q0
      simp only at hb8
      have hAlt : w.heap.size + 1 + 1 < wc.heap.size := Nat.lt_of_lt_of_le hltW hsz
      obtain ⟨iI, ia, ib, ic, id⟩ := info_parts info22
      have HROW : Hid (((wc.drew).alloc (.cells #[.int .u64 ((x + 1 : Nat) : Int)] 55)).ownsRow wc.heap.size 55 1 (.slice (some ⟨wc.heap.size, 0, none⟩) 1 1) 1 [.int .u64 ((x + 1 : Nat) : Int)]) := Lib.hid (row_one wc.drew (x + 1) wc.heap.size (Nat.le_refl _))
      have HONE := Lib.hid (wU_one d.1)
      have HLN : Hid ((d.1.map wU).length = d.1.length) := Lib.hid (by simp)
      obtain ⟨ao9, b9, o9, cap9, hv, h19, h29, h39⟩ := HO7.out
      have hvv : ao7 = ao9 ∧ cap7 = cap9 := by injection hv with h1 h2 h3; exact ⟨h1, h3⟩
      obtain ⟨rfl, rfl⟩ := hvv
      cases ao7 with
      | none =>
        have hdl0 : d.1.length = 0 := by
          rcases Nat.eq_zero_or_pos d.1.length with h | h
          · exact h
          · exact absurd (h19 h).1 (by simp)
        obtain rfl : cap7 = 0 := h29 rfl
        have hd0 : d.1 = [] := List.length_eq_zero_iff.1 hdl0
        have HOF : Hid (∀ e0 v0 z0 : Value, OwnW ((((wc.setCell ⟨w.heap.size + 1 + 1, 0, none⟩ e0).setCell ⟨w.heap.size + 1 + 1, 1, none⟩ v0).setCell ⟨w.heap.size + 1 + 1, 2, none⟩ z0).alloc (.cells #[.int .u64 ((x : Int) + 1)] 55)) wc.heap.size (.slice (some ⟨wc.heap.size, 0, none⟩) 1 1) ((x + 1) :: d.1)) := Lib.hid (fun e0 v0 z0 => by
          have h := row_one (((wc.setCell ⟨w.heap.size + 1 + 1, 0, none⟩ e0).setCell ⟨w.heap.size + 1 + 1, 1, none⟩ v0).setCell ⟨w.heap.size + 1 + 1, 2, none⟩ z0) (x + 1) wc.heap.size (by simp)
          have es : (((wc.setCell ⟨w.heap.size + 1 + 1, 0, none⟩ e0).setCell ⟨w.heap.size + 1 + 1, 1, none⟩ v0).setCell ⟨w.heap.size + 1 + 1, 2, none⟩ z0).heap.size = wc.heap.size := by simp
          rw [es] at h
          rw [hd0]
          exact h)
        rw [hdl0] at *
        clear hv h19 h29 h39
        go_wp2_with fail
        have kc0 := Tb.cell_of_blkT (k := 0) HKc.out rfl
        have kc1 := Tb.cell_of_blkT (k := 1) HKc.out rfl
        have kc2 := Tb.cell_of_blkT (k := 2) HKc.out rfl
        have zc0 := Tb.free_of_blkT (k := 0) HKc.out
        have zc1 := Tb.free_of_blkT (k := 1) HKc.out
        have zc2 := Tb.free_of_blkT (k := 2) HKc.out
        have nA : b8 ≠ w.heap.size + 1 + 1 := by have := HG8.out; omega
        have nA2 : w.heap.size + 1 + 1 ≠ b8 := fun e => nA e.symm
        have nG : g1 ≠ w.heap.size + 1 + 1 := by omega
        have nG2 : w.heap.size + 1 + 1 ≠ g1 := by omega
        have lg1 : g1 < wc.heap.size := by omega
        go_region_held3 (fun w' => w'.cell? ⟨g1, 0, none⟩ = some (.int .u64 (x : Int)) ∧ w'.cell? ⟨b8, 0, none⟩ = some (.slice none 0 0) ∧ w'.cell? ⟨b8, 1, none⟩ = some (.int .i64 (d.2.2 : Int)) ∧ w'.cell? ⟨b8, 2, none⟩ = some (.int .u64 (d.2.1 : Int)))
          (first | exact ⟨m1, q0, q1, q2⟩ | exact ⟨ym, y0, y1, y2⟩ | exact ⟨(World.cell?_alloc_past _ _ _ lg1).trans m1, (World.cell?_alloc_past _ _ _ hb8).trans q0, (World.cell?_alloc_past _ _ _ hb8).trans q1, (World.cell?_alloc_past _ _ _ hb8).trans q2⟩ | (refine ⟨?_, ?_, ?_, ?_⟩ <;> simp [World.cell?_setCell_ne, nA, nA2, nG, nG2, m1, q0, q1, q2]; done) | go_keep)
          (first
            | (refine step_onto_none (w := (wc.drew).alloc (.cells #[.int .u64 ((x + 1 : Nat) : Int)] 55)) rfl _ _ 37 rfl wc.heap.size 55 iI 1 Tryz.underlying37 ia _ 1 _ rfl HROW.out rfl ?_)
            | fail)
        all_goals (go_wp2_with fail)
        all_goals exact bodyPost_ret (v := .tuple #[.slice (some ⟨wc.heap.size, 0, none⟩) 1 1, .agg #[.int .i64 (d.2.2 : Int), .int .u64 (d.2.1 : Int), .slice none 0 0]]) (by simp [results, Tryz.results67, go_sem, kc0, kc1, kc2, hAlt]) rfl ⟨_, _, rfl, ⟨((HOF.out _ _ _).drewN 1).argB.mono (Nat.le_trans hBW hsz), (HOF.out (.int .i64 0) (.int .i64 0) (.int .i64 0)).room⟩, ⟨ArgB.nil _ _, room_nil⟩, ((put3_below ((hW0.out.mono hB).trans (HBc.out.mono hBW)) (by omega) _ _ _).alloc (by simp; omega) _).drew⟩
      | some ad =>
        have HCC : Hid (∀ (j : Nat) (u : Value), (d.1.map wU)[j]? = some u → ((wc.drew).alloc (.cells #[.int .u64 ((x + 1 : Nat) : Int)] 55)).cell? (ad.add j) = some u) := Lib.hid (fun j u hu => by
          rw [List.getElem?_map] at hu
          obtain ⟨y, hy, rfl⟩ := Option.map_eq_some_iff.1 hu
          have hj := (List.getElem?_eq_some_iff.1 hy).1
          obtain rfl := Option.some.inj (h19 (by omega)).1
          have hcy := h39 j y hy
          rw [addr_add _ j b9 o9 rfl]
          exact (World.cell?_alloc_past (w := wc.drew) _ _ _ (World.block_lt_of_cell? wc _ hcy)).trans hcy)
        have HM2 : Hid (∀ (v2 : Value) (w2 : World), w2.ownsRow wc.heap.size 55 1 v2 (1 + d.1.length) ([.int .u64 ((x + 1 : Nat) : Int)] ++ d.1.map wU) → OwnW w2 wc.heap.size v2 ((x + 1) :: d.1)) := Lib.hid (fun v2 w2 ho => by
          unfold OwnW
          rw [List.length_cons, Nat.add_comm, ← own_cons]
          exact ho)
        have HKP : Hid (∀ (w2 : World), (∀ k, k < ((wc.drew).alloc (.cells #[.int .u64 ((x + 1 : Nat) : Int)] 55)).heap.size → (Value.slice (some ⟨wc.heap.size, 0, none⟩) 1 1).ownBlock ≠ some k → w2.heap[k]? = ((wc.drew).alloc (.cells #[.int .u64 ((x + 1 : Nat) : Int)] 55)).heap[k]?) → ∀ k, k < wc.heap.size → w2.heap[k]? = wc.heap[k]?) := Lib.hid (fun w2 h k hk => by
          rw [h k (by simp; omega) (fun e => by simp [Value.ownBlock] at e; omega)]
          exact Below.heap_alloc wc.drew _ k hk)
        have hle : 1 + d.1.length ≤ 4294967296 := by omega
        clear hv h19 h29 h39
        go_wp2_with fail
        have nA : b8 ≠ w.heap.size + 1 + 1 := by have := HG8.out; omega
        have nA2 : w.heap.size + 1 + 1 ≠ b8 := fun e => nA e.symm
        have nG : g1 ≠ w.heap.size + 1 + 1 := by omega
        have nG2 : w.heap.size + 1 + 1 ≠ g1 := by omega
        have lg1 : g1 < wc.heap.size := by omega
        go_region_held3 (fun w' => w'.cell? ⟨g1, 0, none⟩ = some (.int .u64 (x : Int)) ∧ w'.cell? ⟨b8, 0, none⟩ = some (.slice (some ad) d.1.length cap7) ∧ w'.cell? ⟨b8, 1, none⟩ = some (.int .i64 (d.2.2 : Int)) ∧ w'.cell? ⟨b8, 2, none⟩ = some (.int .u64 (d.2.1 : Int)))
          (first | exact ⟨m1, q0, q1, q2⟩ | exact ⟨ym, y0, y1, y2⟩ | exact ⟨(World.cell?_alloc_past _ _ _ lg1).trans m1, (World.cell?_alloc_past _ _ _ hb8).trans q0, (World.cell?_alloc_past _ _ _ hb8).trans q1, (World.cell?_alloc_past _ _ _ hb8).trans q2⟩ | (refine ⟨?_, ?_, ?_, ?_⟩ <;> simp [World.cell?_setCell_ne, nA, nA2, nG, nG2, ym, y0, y1, y2]; done) | go_keep)
          (first
            | (refine step_onto_ownO (w := (wc.drew).alloc (.cells #[.int .u64 ((x + 1 : Nat) : Int)] 55)) rfl _ _ 37 rfl wc.heap.size 55 iI (.int .u64 0) 8 Tryz.underlying37 ia ib ic id rfl (by decide) _ 1 _ rfl HROW.out ad cap7 d.1.length (d.1.map wU) rfl HLN.out HCC.out HONE.out hle (by simp) ?_; intro v2 w2 ho2 hb2; intro hkp; (have HO2 := Lib.hid (HM2.out v2 w2 ho2)); (have hkeep := HKP.out w2 hkp); (have hbk2 := (hkeep _ hAlt).trans HKc.out); (have k0 := Tb.cell_of_blkT (k := 0) hbk2 rfl); (have k1 := Tb.cell_of_blkT (k := 1) hbk2 rfl); (have k2 := Tb.cell_of_blkT (k := 2) hbk2 rfl); (have z0 := Tb.free_of_blkT (k := 0) hbk2); (have z1 := Tb.free_of_blkT (k := 1) hbk2); (have z2 := Tb.free_of_blkT (k := 2) hbk2); (have y0 := (World.cell?_of_block (a := ⟨b8, 0, none⟩) (hkeep b8 hb8)).trans q0); (have y1 := (World.cell?_of_block (a := ⟨b8, 1, none⟩) (hkeep b8 hb8)).trans q1); (have y2 := (World.cell?_of_block (a := ⟨b8, 2, none⟩) (hkeep b8 hb8)).trans q2); (have ym := (World.cell?_of_block (a := ⟨g1, 0, none⟩) (hkeep g1 lg1)).trans m1); (have HNE := Lib.hid (HO2.out.ne_ans hbk2)); (have HBF : Hid (Below wc.heap.size wc w2) := Lib.hid (((Below.refl _ _).drew.alloc (by simp) _).trans hb2)); clear ho2 hb2 hkp hkeep hbk2)
            | fail)
        all_goals (go_wp2_with fail)
        all_goals exact bodyPost_ret (v := .tuple #[v2, .agg #[.int .i64 (d.2.2 : Int), .int .u64 (d.2.1 : Int), .slice none 0 0]]) (by simp [results, Tryz.results67, go_sem, k0, k1, k2]) rfl ⟨_, _, rfl, ⟨((HO2.out.put3 HNE.out _ _ _).argB).mono (Nat.le_trans hBW hsz), HO2.out.room⟩, ⟨ArgB.nil _ _, room_nil⟩, put3_below ((hW0.out.mono hB).trans ((HBc.out.mono hBW).trans (HBF.out.mono (Nat.le_trans hBW hsz)))) (by omega) _ _ _⟩
end Go.Proofs.YtjjleghalajidaaGreat
