/- history: Right, walked. -/
import Derived.Test.YtkkkpobdjhmgfaaGreatDoorHI
import Derived.Sort.Grow
namespace Go.Proofs.YtkkkpobdjhmgfaaGreatDoor
set_option maxRecDepth 100000
open Go.RowKit Go.Shelf Go.Maps
set_option linter.unusedVariables false
set_option linter.unusedSimpArgs false
attribute [local go_sem] Oper.semAt_some

theorem backward_ok (n : Nat) (ao : Option Addr) (m c : Nat) (w : World) :
    CallsIn Fence.wide n Tryz.prog 21 #[.slice ao m c] w fun e w' => e = .returned (.func (.func 42) #[] #[.pointer (some ⟨w.heap.size, 0, none⟩)]) ∧
      w' = w.alloc (.cells #[.slice ao m c] 28) := by
  refine callsIn_of_wp Tryz.func21 rfl trivial ?_ rfl
  simp only [Tryz.ntmps21, List.size_toArray, List.length_cons, List.length_nil, Nat.reduceAdd, Nat.reduceSub, Array.replicate_succ, Array.replicate_zero, List.push_toArray, List.append_toArray, List.nil_append, List.cons_append]
  gi_wp2
  go_ret
  exact ⟨rfl, rfl⟩
/-- the boxes that Right makes -/
def rBoxes (w : World) (n : Int) (aT : Option Addr) (nT cT : Nat) (ao : Option Addr) (nl c : Nat) (k : Int) : World :=
  (((((((w.alloc (.cells #[.int .i64 n] 3)).alloc (.cells #[.slice aT nT cT] 37)).alloc (.cells #[.slice ao nl c] 28)).alloc (.cells #[.int .i64 k] 3)).alloc (.cells #[.bool false] 4)).alloc (.map #[] 0)).alloc (.cells #[.map (some (w.heap.size + 1 + 1 + 1 + 1 + 1))] 62)).alloc (.cells #[.slice ao nl c] 28)

theorem rBoxes_grow (w : World) (n : Int) (aT : Option Addr) (nT cT : Nat) (ao : Option Addr) (nl c : Nat) (k : Int) : rBoxes w n aT nT cT ao nl c k = Go.Sort.grow w #[.cells #[.int .i64 n] 3, .cells #[.slice aT nT cT] 37, .cells #[.slice ao nl c] 28, .cells #[.int .i64 k] 3, .cells #[.bool false] 4, .map #[] 0, .cells #[.map (some (w.heap.size + 1 + 1 + 1 + 1 + 1))] 62, .cells #[.slice ao nl c] 28] := by
  unfold rBoxes
  simp only [Go.Sort.alloc_eq_grow, Go.Sort.grow_grow]
  rfl
theorem rBoxes_at (w : World) (n : Int) (aT : Option Addr) (nT cT : Nat) (ao : Option Addr) (nl c : Nat) (k : Int) (i : Nat) : (rBoxes w n aT nT cT ao nl c k).heap[w.heap.size + i]? = (#[.cells #[.int .i64 n] 3, .cells #[.slice aT nT cT] 37, .cells #[.slice ao nl c] 28, .cells #[.int .i64 k] 3, .cells #[.bool false] 4, .map #[] 0, .cells #[.map (some (w.heap.size + 1 + 1 + 1 + 1 + 1))] 62, .cells #[.slice ao nl c] 28] : Array Obj)[i]? := by
  rw [rBoxes_grow]
  unfold Go.Sort.grow
  rw [Array.getElem?_append_right (Nat.le_add_right _ _), Nat.add_sub_cancel_left]
theorem rBoxes_below (w : World) (n : Int) (aT : Option Addr) (nT cT : Nat) (ao : Option Addr) (nl c : Nat) (k : Int) : Below w.heap.size w (rBoxes w n aT nT cT ao nl c k) ∧ (rBoxes w n aT nT cT ao nl c k).heap.size = w.heap.size + 8 := by
  rw [rBoxes_grow]
  refine ⟨⟨rfl, rfl, rfl, by rw [Go.Sort.size_grow]; exact Nat.le_add_right _ _, fun q hq => Go.Sort.heap_grow_old _ _ hq⟩, ?_⟩
  rw [Go.Sort.size_grow]
  rfl
theorem heap_alloc_new' (w : World) (o : Obj) : (w.alloc o).heap[w.heap.size]? = some o := World.alloc_heap_new w o
/-- a block of one cell -/
theorem cell_of_one {w : World} {b : Nat} {v : Value} {t : TypeId} {fr : Nat × Nat} (h : w.heap[b]? = some (.cells #[v] t fr)) : w.cell? ⟨b, 0, none⟩ = some v := by unfold World.cell?; rw [h]; rfl
theorem free_of_one {w : World} {b : Nat} {v : Value} {t : TypeId} (h : w.heap[b]? = some (.cells #[v] t (0, 0))) : w.frozen? ⟨b, 0, none⟩ = false := by unfold World.frozen?; rw [h]; rfl
theorem cell_of_ev {w : World} {b : Nat} {x : EvL} {t : TypeId} (h : w_ev w b x.vs.toArray t) (i : Nat) (v : Value) (hv : x.vs[i]? = some v) : w.cell? ⟨b, i, none⟩ = some v := by unfold World.cell?; rw [show w.heap[b]? = _ from h]; simpa using hv

set_option maxRecDepth 100000 in
set_option maxHeartbeats 4000000 in
theorem right_ok (n : Int) (aT : Option Addr) (bT oT cT : Nat) (ts : List Int) (ao : Option Addr) (b o c : Nat) (l : List EvL) (k : Int) (w : World) (hk : -9223372036854775808 ≤ k ∧ k ≤ 9223372036854775807)
    (htl : ts.length ≤ maxLen) (hta : 0 < ts.length → aT = some ⟨bT, oT, none⟩) (htb : 0 < ts.length → bT < w.heap.size) (htc : ThsAt w bT oT ts)
    (hl : l.length ≤ 100) (ha : 0 < l.length → ao = some ⟨b, o, none⟩) (hb : 0 < l.length → b < w.heap.size) (hc : EvsAt w b o l) :
    Calls Tryz.prog 8 #[.int .i64 n, .slice aT ts.length cT, .slice ao l.length c, .int .i64 k] w fun e w' => e = .returned (.bool (rgt n ts l k)) ∧ Below w.heap.size w w' := by
  have HTA := Lib.hid hta
  have HTB := Lib.hid htb
  have HTC := Lib.hid htc
  have HA := Lib.hid ha
  have HB := Lib.hid hb
  have HC := Lib.hid hc
  clear hta htb htc ha hb hc
  have hmm := @run_makeMap Tryz.prog
  have hfw : Fence.wide.fn 21 := trivial
  refine (callsIn_wide (n := 10)).1 ?_
  refine callsIn_of_wp_marks Tryz.func8 rfl trivial ?_ rfl
  simp only [Tryz.ntmps8, List.size_toArray, List.length_cons, List.length_nil, Nat.reduceAdd, Nat.reduceSub, Array.replicate_succ, Array.replicate_zero, List.push_toArray, List.append_toArray, List.nil_append, List.cons_append]
  gi_wp2_with (gi_at_call 21; refine (backward_ok _ _ _ _ _).mono ?_; rintro e w' ⟨rfl, rfl⟩)
  obtain ⟨w0, hw0⟩ : ∃ w0, rBoxes w n aT ts.length cT ao l.length c k = w0 := ⟨_, rfl⟩
  have hat := rBoxes_at w n aT ts.length cT ao l.length c k
  obtain ⟨hB0, hsz⟩ := rBoxes_below w n aT ts.length cT ao l.length c k
  rw [hw0] at hat hB0 hsz
  have hmap0 : NextIs w0 (w.heap.size + 1 + 1 + 1 + 1 + 1) 0 (fun _ => none) :=
    ⟨.map [], ⟨#[], 0, hat 5, ⟨by simp, ⟨by simp, by simp, by simp⟩, by simp⟩, Nat.le_refl _, rfl⟩, fun t => ⟨by simp [Maps.has], rfl⟩⟩
  unfold rBoxes at hw0
  rw [hw0]
  clear hw0
  have hcB : w0.cell? ⟨w.heap.size + 1 + 1 + 1 + 1 + 1 + 1 + 1, 0, none⟩ = some (.slice ao l.length c) := cell_of_one (hat 7)
  have hseq : SeqStopsK Fence.wide 9 Tryz.prog 42 #[.pointer (some ⟨w.heap.size + 1 + 1 + 1 + 1 + 1 + 1 + 1, 0, none⟩)] (bwdE l) (KpB w.heap.size (w.heap.size + 1 + 1 + 1 + 1 + 1 + 1 + 1)) (fun ys => ys = dn l.length l.length)
      (fun pre => ∃ q, q ≤ l.length ∧ pre = dn l.length q) l.length w0 := fun lp J Jx W hW hJ hJx hY h0 =>
    bwd1_in 9 (by omega) lp _ w.heap.size b o c ao l hl HA.out HB.out W J Jx hY ((hW.cell (by show w.heap.size + 1 + 1 + 1 + 1 + 1 + 1 + 1 < _; omega)).trans hcB) ((HC.out.stays hB0 HB.out).stays (hW.mono (by omega)) HB.out) h0
  have hbm : w.heap.size + 1 + 1 + 1 + 1 + 1 < w0.heap.size := by omega
  have hbr : w.heap.size + 1 + 1 + 1 + 1 < w0.heap.size := by omega
  have hww : w.heap.size ≤ w0.heap.size := by omega
  have hRI0 : RI w w0 (w.heap.size + 1 + 1 + 1 + 1 + 1) n ts l k [] w0 := ⟨fun _ _ _ => rfl, Nat.le_refl _, hB0, hmap0, allOk.nil⟩
  have hs0 : Hid (w0.heap.size = w.heap.size + 8) := Lib.hid hsz
  clear hsz hmap0 hcB
  refine wpIn_rangeFunc_ownH (F := Fence.wide) rfl (by omega) (gf := 42) (lb := #[.pointer (some ⟨w.heap.size + 1 + 1 + 1 + 1 + 1 + 1 + 1, 0, none⟩)]) rfl trivial (enters_of Tryz.func42 (by kernel_rfl) rfl)
    hseq KpB.t (KpB.b hww (by have := hs0.out; omega)) (Below.refl _ _) (fun _ => rfl)
    (RI w w0 (w.heap.size + 1 + 1 + 1 + 1 + 1) n ts l k) (RX w w0 (w.heap.size + 1 + 1 + 1 + 1) n ts l k) (RI.own hww hbm) (fun c => RX.own c hww hbr) hRI0
    (fun x a' W => ∃ Bx, w_ev W Bx (evAt l x).vs.toArray 47 ∧ w0.heap.size ≤ Bx ∧ a' = { tmps := #[.int .i64 n, .slice aT ts.length cT, .slice ao l.length c, .int .i64 k, .pointer (some ⟨w.heap.size, 0, none⟩), .pointer (some ⟨w.heap.size + 1, 0, none⟩), .pointer (some ⟨w.heap.size + 1 + 1, 0, none⟩), .pointer (some ⟨w.heap.size + 1 + 1 + 1, 0, none⟩), .pointer (some ⟨w.heap.size + 1 + 1 + 1 + 1, 0, none⟩), .pointer (some ⟨w.heap.size + 1 + 1 + 1 + 1 + 1 + 1, 0, none⟩), .int .i64 (x.val : Int), .pointer (some ⟨Bx, 0, none⟩), undef, undef, undef, undef, .map (some (w.heap.size + 1 + 1 + 1 + 1 + 1)), .slice ao l.length c, .func (.func 42) #[] #[.pointer (some ⟨w.heap.size + 1 + 1 + 1 + 1 + 1 + 1 + 1, 0, none⟩)], .int .i64 (x.val : Int), (evAt l x).v, undef, undef, undef, undef, undef, undef, undef, undef, undef, undef, undef, undef, undef, undef, undef, undef, undef, undef, undef, undef, undef, undef, undef, undef, undef, undef, undef, undef, undef, undef, undef, undef, undef, undef, undef, undef, undef, undef, undef, undef, undef, undef, undef, undef, undef, undef, undef, undef, undef, undef, undef, undef, undef, undef, undef, undef, undef, undef, undef, undef, undef, undef, undef, undef, undef, undef], defers := [] })
    (fun x a' s A B row hs hg hr => by obtain ⟨Bx, h1, h2⟩ := hs; exact ⟨Bx, (evx_own w0.heap.size Bx _ _ () A B row ⟨h1, trivial⟩ hg hr).1, h2⟩) ?assign ?body ?done ?stop
  case assign =>
    rintro lr pre x W K hI hK
    have hIa := fun o => RI.own hww hbm pre W (W.alloc o) none hI (World.grownBy_alloc W o none) (fun r e => by cases e)
    have hWs := hI.size
    clear hI
    unfold bwdE
    revert hK
    unfold EvL.v EvL.vs
    generalize evAt l x = ev
    intro hK
    gi_wp2
    exact hK _ _ (keeps_below ((Below.refl _ _).alloc (Nat.le_refl _) _)) ⟨(Below.refl _ _).alloc (by omega) _, Below.heap_alloc _ _ _ (by have := hs0.out; omega)⟩ (hIa _) ⟨W.heap.size, heap_alloc_new' _ _, hWs, rfl⟩
  case body =>
    rintro lr pre x a' W hle ⟨r, hr⟩ hI ⟨Bx, hev, hBx, rfl⟩ hlt
    have hfw1 : Fence.wide.fn 22 := trivial
    have hfw2 : Fence.wide.fn 23 := trivial
    have hfw3 : Fence.wide.fn 24 := trivial
    have hz := hs0.out
    have hS : RS w.heap.size Bx n aT cT ts.length ao c l.length k (evAt l x) W :=
      ⟨cell_of_one ((hI.same _ (by omega) (by omega)).trans (hat 0)), cell_of_one ((hI.same _ (by omega) (by omega)).trans (hat 1)), cell_of_one ((hI.same _ (by omega) (by omega)).trans (hat 2)), cell_of_one ((hI.same _ (by omega) (by omega)).trans (hat 3)),
       cell_of_one ((hI.same _ (by omega) (by omega)).trans (hat 4)), free_of_one ((hI.same _ (by omega) (by omega)).trans (hat 4)), cell_of_one ((hI.same _ (by omega) (by omega)).trans (hat 6)),
       cell_of_ev hev 0 _ rfl, cell_of_ev hev 1 _ rfl, cell_of_ev hev 2 _ rfl, cell_of_ev hev 3 _ rfl, cell_of_ev hev 4 _ rfl, cell_of_ev hev 5 _ rfl, cell_of_ev hev 6 _ rfl, cell_of_ev hev 7 _ rfl⟩
    obtain ⟨D, hown, hD⟩ := hI.map
    have hIsM := Lib.hid hown.isMap
    have HD := Lib.hid hD
    have HO := Lib.hid hown
    have hxq : l[x.val]? = some (evAt l x) := List.getElem?_eq_getElem x.isLt
    have hxok := (HC.out x.val _ hxq).2
    have HbW : Hid (Below w.heap.size w W) := Lib.hid hI.bel
    have TH : Hid (∀ W', Below W.heap.size W W' → Calls Tryz.prog 22 #[.slice aT ts.length cT, (evAt l x).v] W' fun e w' => e = .returned (.tuple #[.int .i64 ((thr ts (evAt l x)).getD 0), .bool (thr ts (evAt l x)).isSome]) ∧ Below W'.heap.size W' w') :=
      Lib.hid (fun W' h => thr_ok (evAt l x) aT bT oT cT ts W' htl HTA.out (fun h0 => Nat.lt_of_lt_of_le (HTB.out h0) (Nat.le_trans HbW.out.size h.size)) (HTC.out.stays (HbW.out.trans (h.mono HbW.out.size)) HTB.out) hxok)
    have TM : Hid (∀ W', Calls Tryz.prog 23 #[(evAt l x).v, .int .i64 k] W' fun e w' => e = .returned (.bool (timely (evAt l x) k)) ∧ Below W'.heap.size W' w') := Lib.hid (fun W' => timely_ok (evAt l x) k W' hxok hk)
    have HI := Lib.hid hI
    obtain ⟨ev, hE⟩ : ∃ ev, evAt l x = ev := ⟨_, rfl⟩
    have hOK : Hid (∀ t, thr ts ev = some t → okS n ts l k pre x = (decide (0 ≤ t) && decide (t < n) && timely ev k && okN l x.val ev && okG l ev (gOf ts l pre t))) := Lib.hid (fun t ht => by unfold okS; rw [hE, ht])
    have hOK0 : Hid (thr ts ev = none → okS n ts l k pre x = false) := Lib.hid (fun ht => by unfold okS; rw [hE, ht])
    rw [hE] at hS TH TM hxq hxok ⊢
    have HE := Lib.hid hE
    have HS := Lib.hid hS
    have hbc := Lib.hid hev
    have hz8 : Hid (w0.heap.size = w.heap.size + 8 ∧ w0.heap.size ≤ W.heap.size ∧ pre.length < l.length) := Lib.hid ⟨hz, hI.size, hlt⟩
    obtain ⟨q, hq⟩ : ∃ q : Nat, x.val = q := ⟨_, rfl⟩
    have hql : q < l.length := by rw [← hq]; exact x.isLt
    rw [hq] at hxq ⊢
    have HQ := Lib.hid hq
    have HXQ := Lib.hid hxq
    obtain ⟨hN, hT, hL, hK, hR, hF, hM, e0, e1, e2, e3, e4, e5, e6, e7⟩ := hS
    clear hI hown hD hxq hev hE hq hz hat hseq hRI0 hxok hle hr hBx hB0 hlt

    have hqw : Hid (-9223372036854775808 ≤ (q : Int) ∧ (q : Int) ≤ 9223372036854775807) := Lib.hid (by omega)
    cases hthr : thr ts ev with
    | none =>
      have hbad : Hid (okS n ts l k pre x = false) := Lib.hid (hOK0.out hthr)
      have TH0 : Hid (∀ W', Below W.heap.size W W' → Calls Tryz.prog 22 #[.slice aT ts.length cT, ev.v] W' fun e w' => e = .returned (.tuple #[.int .i64 0, .bool false]) ∧ Below W'.heap.size W' w') := Lib.hid (by have h := TH.out; rw [hthr] at h; exact h)
      clear TH hthr
      gi_wp2_with (gi_at_call 22; refine (CallsIn.inRound lr (callsIn_wide.2 (TH0.out _ (Below.refl _ _)))).mono ?_; rintro e W1 ⟨rfl, hb1⟩; obtain ⟨nN, nT, nL, nK, nR, nF, nM, f0, f1, f2, f3, f4, f5, f6, f7⟩ := HS.out.below hb1)
      exact leaf_no hww (by omega) HI.out hb1 nR hbad.out
    | some t =>
      have TH0 : Hid (∀ W', Below W.heap.size W W' → Calls Tryz.prog 22 #[.slice aT ts.length cT, ev.v] W' fun e w' => e = .returned (.tuple #[.int .i64 t, .bool true]) ∧ Below W'.heap.size W' w') := Lib.hid (by have h := TH.out; rw [hthr] at h; exact h)
      have htw : -9223372036854775808 ≤ t ∧ t ≤ 9223372036854775807 := thr_wf HTC.out hthr
      clear TH
      by_cases h1 : t < 0
      · have hbad : Hid (okS n ts l k pre x = false) := Lib.hid (by rw [hOK.out t hthr, decide_eq_false (by omega : ¬ 0 ≤ t)]; simp)
        have dd : decide (t < 0) = true := decide_eq_true h1
        clear hthr
        gi_wp2_with (gi_at_call 22; refine (CallsIn.inRound lr (callsIn_wide.2 (TH0.out _ (Below.refl _ _)))).mono ?_; rintro e W1 ⟨rfl, hb1⟩; obtain ⟨nN, nT, nL, nK, nR, nF, nM, f0, f1, f2, f3, f4, f5, f6, f7⟩ := HS.out.below hb1)
        exact leaf_no hww (by omega) HI.out hb1 nR hbad.out
      have d1 : decide (t < 0) = false := decide_eq_false h1
      by_cases h2 : n ≤ t
      · have hbad : Hid (okS n ts l k pre x = false) := Lib.hid (by rw [hOK.out t hthr, decide_eq_false (by omega : ¬ t < n)]; simp)
        have dd : decide (n ≤ t) = true := decide_eq_true h2
        clear hthr
        gi_wp2_with (gi_at_call 22; refine (CallsIn.inRound lr (callsIn_wide.2 (TH0.out _ (Below.refl _ _)))).mono ?_; rintro e W1 ⟨rfl, hb1⟩; obtain ⟨nN, nT, nL, nK, nR, nF, nM, f0, f1, f2, f3, f4, f5, f6, f7⟩ := HS.out.below hb1)
        exact leaf_no hww (by omega) HI.out hb1 nR hbad.out
      have d2 : decide (n ≤ t) = false := decide_eq_false h2
      cases htm : timely ev k with
      | false =>
        rw [htm] at TM
        have hbad : Hid (okS n ts l k pre x = false) := Lib.hid (by rw [hOK.out t hthr, htm]; simp)
        have TM0 := TM
        clear hthr htm TM
        gi_wp2_with (first | (gi_at_call 22; refine (CallsIn.inRound lr (callsIn_wide.2 (TH0.out _ (Below.refl _ _)))).mono ?_; rintro e W1 ⟨rfl, hb1⟩; obtain ⟨nN, nT, nL, nK, nR, nF, nM, f0, f1, f2, f3, f4, f5, f6, f7⟩ := HS.out.below hb1) | (gi_at_call 23; refine (CallsIn.inRound lr (callsIn_wide.2 (TM0.out _))).mono ?_; rintro e W2 ⟨rfl, hb2⟩; (have hb12 : Below W.heap.size W W2 := hb1.trans (hb2.mono hb1.size)); clear nN nT nL nK nR nF nM f0 f1 f2 f3 f4 f5 f6 f7; obtain ⟨nN, nT, nL, nK, nR, nF, nM, f0, f1, f2, f3, f4, f5, f6, f7⟩ := HS.out.below hb12))
        exact leaf_no hww (by omega) HI.out hb12 nR hbad.out
      | true =>
        rw [htm] at TM
        have TM0 := TM
        clear TM
        obtain ⟨m, hm⟩ : ∃ m : Nat, m = q + 1 := ⟨_, rfl⟩
        have hwr : IntKind.i64.wrap ((q : Int) + 1) = (m : Int) := by rw [IntWalk.i64_in _ (by omega)]; omega
        by_cases hnx : m < l.length
        · obtain ⟨y, hy⟩ : ∃ y, l[m]? = some y := ⟨_, List.getElem?_eq_getElem hnx⟩
          have dnx : decide ((m : Int) < l.length) = true := decide_eq_true (by omega)
          have hokN : Hid (okN l x.val ev = decide (ev.iv < y.iv)) := Lib.hid (by unfold okN; rw [HQ.out, ← hm, hy])
          obtain rfl := HA.out (by omega)
          have hbb := HB.out (by omega)
          have yc : ∀ W', Below W.heap.size W W' → W'.cell? ⟨b, o + m * 8 + 1, none⟩ = some (.int .i64 y.iv) := fun W' h => ((HC.out.stays (HbW.out.trans (h.mono HbW.out.size)) HB.out).cells hy).2.1
          have YC := Lib.hid yc
          clear yc hy hm
          by_cases hiv : ev.iv < y.iv
          · have div_ : decide (y.iv ≤ ev.iv) = false := decide_eq_false (by omega)
            have hokn : Hid (okN l x.val ev = true) := Lib.hid (by rw [hokN.out, decide_eq_true hiv])
            clear hiv
            gi_wp2_with (first | (gi_at_call 22; refine (CallsIn.inRound lr (callsIn_wide.2 (TH0.out _ (Below.refl _ _)))).mono ?_; rintro e W1 ⟨rfl, hb1⟩; obtain ⟨nN, nT, nL, nK, nR, nF, nM, f0, f1, f2, f3, f4, f5, f6, f7⟩ := HS.out.below hb1) | (gi_at_call 23; refine (CallsIn.inRound lr (callsIn_wide.2 (TM0.out _))).mono ?_; rintro e W2 ⟨rfl, hb2⟩; (have hb12 : Below W.heap.size W W2 := hb1.trans (hb2.mono hb1.size)); clear nN nT nL nK nR nF nM f0 f1 f2 f3 f4 f5 f6 f7; obtain ⟨nN, nT, nL, nK, nR, nF, nM, f0, f1, f2, f3, f4, f5, f6, f7⟩ := HS.out.below hb12))
            have hy2 := YC.out _ hb12
            have z1 : ∀ p : BW W2.heap.size W2, p.v.cell? ⟨w.heap.size + 1 + 1, 0, none⟩ = some (.slice (some ⟨b, o, none⟩) l.length c) := fun p => p.cell (World.block_lt_of_cell? _ _ nL) nL
            have z2 : ∀ p : BW W2.heap.size W2, p.v.cell? ⟨Bx, 1, none⟩ = some (.int .i64 ev.iv) := fun p => p.cell (World.block_lt_of_cell? _ _ f1) f1
            have z3 : ∀ p : BW W2.heap.size W2, p.v.cell? ⟨b, o + m * 8 + 1, none⟩ = some (.int .i64 y.iv) := fun p => p.cell (World.block_lt_of_cell? _ _ hy2) hy2
            refine wpIn_region_low (B := W2.heap.size) (w := W2) (by kernel_rfl) (by kernel_rfl) (by kernel_rfl) ?_
            repeat (go_big_quiet_step (fail))
            refine wpQuiet_nil ?_
            intro W3 hw'
            obtain ⟨pq, eq4⟩ := hw'
            have hb3' := pq.h
            rw [← eq4] at hb3'
            clear eq4 pq
            have hb13 : Below W.heap.size W W3 := hb12.trans (hb3'.mono hb12.size)
            clear z1 hb1 hb2 hb12 hb3'
            clear z2 z3 hy2
            have HO3 : Hid (W3.ownsMap Tryz.prog 3 (plainElem Tryz.prog 3) (w.heap.size + 1 + 1 + 1 + 1 + 1) pre.length D) := Lib.hid (owns_map_same HO.out (hb13.block _ (by have := hz8.out; omega)))
            clear nN nT nL nK nR nF nM f0 f1 f2 f3 f4 f5 f6 f7
            obtain ⟨nN, nT, nL, nK, nR, nF, nM, f0, f1, f2, f3, f4, f5, f6, f7⟩ := HS.out.below hb13
            have hkey := Maps.keyOf_int_mk Tryz.underlying3 (P := Tryz.prog) (wf_of htw)
            cases hg : gOf ts l pre t with
            | none =>
              have hok : Hid (okS n ts l k pre x = true) := Lib.hid (by rw [hOK.out t hthr, htm, decide_eq_true (by omega : 0 ≤ t), decide_eq_true (by omega : t < n), hokn.out, hg]; rfl)
              have hhas : Maps.has D (.int .i64 t) = false := by rw [(HD.out t).1, hg]; rfl
              have hval : Hid (D.atKey (.int .i64 t) (.lit (.int .i64 0)) = .lit (.int .i64 (0 : Int))) := Lib.hid (by rw [(HD.out t).2, hg]; rfl)
              clear hg
              gi_wp2_with (gi_at_lookup; refine wpListIn_lookup_own_ok_int _ rfl _ _ 62 rfl 3 3 .i64 (Maps.int_keyed Tryz.underlying3) Tryz.underlying62 Tryz.underlying3 (Tryz.zeroValue3 _) (w.heap.size + 1 + 1 + 1 + 1 + 1) pre.length _ rfl HO3.out _ _ rfl hkey ?_; intro cv hatv hwc; obtain rfl : cv = (0 : Int) := look_is hatv hval.out; clear hatv hwc)
              have z1 : ∀ p : BW W3.heap.size W3, p.v.cell? ⟨w.heap.size + 1 + 1, 0, none⟩ = some (.slice (some ⟨b, o, none⟩) l.length c) := fun p => p.cell (World.block_lt_of_cell? _ _ nL) nL
              refine wpIn_region_low (B := W3.heap.size) (w := W3) (by kernel_rfl) (by kernel_rfl) (by kernel_rfl) ?_
              repeat (go_big_quiet_step (fail))
              refine wpQuiet_nil ?_
              intro W4 hw'
              obtain ⟨pq, eq4⟩ := hw'
              have hb4 := pq.h
              rw [← eq4] at hb4
              clear eq4 pq
              have hbz : Below W.heap.size W W4 := hb13.trans (hb4.mono hb13.size)
              have HO4 : Hid (W4.ownsMap Tryz.prog 3 (plainElem Tryz.prog 3) (w.heap.size + 1 + 1 + 1 + 1 + 1) pre.length D) := Lib.hid (owns_map_same HO.out (hbz.block _ (by have := hz8.out; omega)))
              clear nN nT nL nK nR nF nM f0 f1 f2 f3 f4 f5 f6 f7
              obtain ⟨nN, nT, nL, nK, nR, nF, nM, f0, f1, f2, f3, f4, f5, f6, f7⟩ := HS.out.below hbz
              gi_wp2_with (gi_at_mapUpdate; refine wpListIn_mapUpdate_own _ rfl _ _ _ 62 rfl 3 3 (Maps.int_keyed Tryz.underlying3) Tryz.underlying62 _ (w.heap.size + 1 + 1 + 1 + 1 + 1) pre.length _ rfl HO4.out (by have := hz8.out; unfold maxLen; omega) _ _ _ rfl rfl hkey _ [] (plainElem_int Tryz.underlying3 (wf_of hqw.out)) ?_; intro W5 hown5 hgrow5)
              have hz9 := hz8.out
              exact leaf_yes hww (by omega) hbm (by omega) (by omega) HI.out hbz hgrow5 (by rw [HE.out]; exact hthr) HD.out hIsM.out (by rw [HQ.out]; exact hown5) hok.out
            | some j =>
              have hj := gOf_lt hg
              obtain ⟨z, hzj⟩ : ∃ z, l[j]? = some z := ⟨_, List.getElem?_eq_getElem hj⟩
              have hhas : Maps.has D (.int .i64 t) = true := by rw [(HD.out t).1, hg]; rfl
              have hval : Hid (D.atKey (.int .i64 t) (.lit (.int .i64 0)) = .lit (.int .i64 (j : Int))) := Lib.hid (by rw [(HD.out t).2, hg]; rfl)
              have hgo : Hid (okG l ev (gOf ts l pre t) = (ahd ev z && decide (ev.ca < z.ca))) := Lib.hid (by rw [hg]; show (match l[j]? with | none => false | some y => ahd ev y && decide (ev.ca < y.ca)) = _; rw [hzj])
              have hbw3 : Below w.heap.size w W3 := HbW.out.trans (hb13.mono HbW.out.size)
              have EV3 : EvsAt W3 b o l := HC.out.stays hbw3 HB.out
              have hb3 : b < W3.heap.size := Nat.lt_of_lt_of_le hbb hbw3.size
              have AH : Hid (∀ p : BW W3.heap.size W3, Calls Tryz.prog 24 #[.slice (some ⟨b, o, none⟩) l.length c, .int .i64 (q : Int), .int .i64 (j : Int)] p.v fun e w' => e = .returned (.bool (ahd ev z)) ∧ Below p.v.heap.size p.v w') :=
                Lib.hid (fun p => ahead_in b o c l q j ev z p.v hl (Nat.lt_of_lt_of_le hb3 p.h.size) (EV3.stays p.h (fun _ => hb3)) HXQ.out hzj)
              have zc := (EV3.cells hzj).1
              clear hg EV3 hbw3 hzj
              cases hah : ahd ev z with
              | false =>
                rw [hah] at AH
                have hbad : Hid (okS n ts l k pre x = false) := Lib.hid (by rw [hOK.out t hthr, hgo.out, hah]; simp)
                clear hah
                gi_wp2_with (gi_at_lookup; refine wpListIn_lookup_own_ok_int _ rfl _ _ 62 rfl 3 3 .i64 (Maps.int_keyed Tryz.underlying3) Tryz.underlying62 Tryz.underlying3 (Tryz.zeroValue3 _) (w.heap.size + 1 + 1 + 1 + 1 + 1) pre.length _ rfl HO3.out _ _ rfl hkey ?_; intro cv hatv hwc; obtain rfl : cv = (j : Int) := look_is hatv hval.out; clear hatv hwc)
                have z1 : ∀ p : BW W3.heap.size W3, p.v.cell? ⟨w.heap.size + 1 + 1, 0, none⟩ = some (.slice (some ⟨b, o, none⟩) l.length c) := fun p => p.cell (World.block_lt_of_cell? _ _ nL) nL
                have z2 : ∀ p : BW W3.heap.size W3, p.v.cell? ⟨Bx, 0, none⟩ = some (.int .i64 ev.ca) := fun p => p.cell (World.block_lt_of_cell? _ _ f0) f0
                have z3 : ∀ p : BW W3.heap.size W3, p.v.cell? ⟨b, o + j * 8, none⟩ = some (.int .i64 z.ca) := fun p => p.cell hb3 zc
                refine wpIn_region_low (B := W3.heap.size) (w := W3) (by kernel_rfl) (by kernel_rfl) (by kernel_rfl) ?_
                repeat (go_big_quiet_step ((go_at_call 24; exact low_call (AH.out _) (Nat.le_refl _))))
                refine wpQuiet_nil ?_
                intro W4 hw'
                obtain ⟨pq, eq4⟩ := hw'
                have hb4 := pq.h
                rw [← eq4] at hb4
                clear eq4 pq
                have hbz : Below W.heap.size W W4 := hb13.trans (hb4.mono hb13.size)
                clear nN nT nL nK nR nF nM f0 f1 f2 f3 f4 f5 f6 f7
                obtain ⟨nN, nT, nL, nK, nR, nF, nM, f0, f1, f2, f3, f4, f5, f6, f7⟩ := HS.out.below hbz
                gi_wp2
                exact leaf_no hww (by omega) HI.out hbz nR hbad.out
              | true =>
                rw [hah] at AH
                by_cases hca : ev.ca < z.ca
                · have hok : Hid (okS n ts l k pre x = true) := Lib.hid (by rw [hOK.out t hthr, htm, decide_eq_true (by omega : 0 ≤ t), decide_eq_true (by omega : t < n), hokn.out, hgo.out, hah, decide_eq_true hca]; rfl)
                  have dca : decide (ev.ca < z.ca) = true := decide_eq_true hca
                  clear hah hca
                  gi_wp2_with (gi_at_lookup; refine wpListIn_lookup_own_ok_int _ rfl _ _ 62 rfl 3 3 .i64 (Maps.int_keyed Tryz.underlying3) Tryz.underlying62 Tryz.underlying3 (Tryz.zeroValue3 _) (w.heap.size + 1 + 1 + 1 + 1 + 1) pre.length _ rfl HO3.out _ _ rfl hkey ?_; intro cv hatv hwc; obtain rfl : cv = (j : Int) := look_is hatv hval.out; clear hatv hwc)
                  have z1 : ∀ p : BW W3.heap.size W3, p.v.cell? ⟨w.heap.size + 1 + 1, 0, none⟩ = some (.slice (some ⟨b, o, none⟩) l.length c) := fun p => p.cell (World.block_lt_of_cell? _ _ nL) nL
                  have z2 : ∀ p : BW W3.heap.size W3, p.v.cell? ⟨Bx, 0, none⟩ = some (.int .i64 ev.ca) := fun p => p.cell (World.block_lt_of_cell? _ _ f0) f0
                  have z3 : ∀ p : BW W3.heap.size W3, p.v.cell? ⟨b, o + j * 8, none⟩ = some (.int .i64 z.ca) := fun p => p.cell hb3 zc
                  refine wpIn_region_low (B := W3.heap.size) (w := W3) (by kernel_rfl) (by kernel_rfl) (by kernel_rfl) ?_
                  repeat (go_big_quiet_step ((go_at_call 24; exact low_call (AH.out _) (Nat.le_refl _))))
                  refine wpQuiet_nil ?_
                  intro W4 hw'
                  obtain ⟨pq, eq4⟩ := hw'
                  have hb4 := pq.h
                  rw [← eq4] at hb4
                  clear eq4 pq
                  have hbz : Below W.heap.size W W4 := hb13.trans (hb4.mono hb13.size)
                  have HO4 : Hid (W4.ownsMap Tryz.prog 3 (plainElem Tryz.prog 3) (w.heap.size + 1 + 1 + 1 + 1 + 1) pre.length D) := Lib.hid (owns_map_same HO.out (hbz.block _ (by have := hz8.out; omega)))
                  clear nN nT nL nK nR nF nM f0 f1 f2 f3 f4 f5 f6 f7
                  obtain ⟨nN, nT, nL, nK, nR, nF, nM, f0, f1, f2, f3, f4, f5, f6, f7⟩ := HS.out.below hbz
                  gi_wp2_with (gi_at_mapUpdate; refine wpListIn_mapUpdate_own _ rfl _ _ _ 62 rfl 3 3 (Maps.int_keyed Tryz.underlying3) Tryz.underlying62 _ (w.heap.size + 1 + 1 + 1 + 1 + 1) pre.length _ rfl HO4.out (by have := hz8.out; unfold maxLen; omega) _ _ _ rfl rfl hkey _ [] (plainElem_int Tryz.underlying3 (wf_of hqw.out)) ?_; intro W5 hown5 hgrow5)
                  have hz9 := hz8.out
                  exact leaf_yes hww (by omega) hbm (by omega) (by omega) HI.out hbz hgrow5 (by rw [HE.out]; exact hthr) HD.out hIsM.out (by rw [HQ.out]; exact hown5) hok.out
                · have hbad : Hid (okS n ts l k pre x = false) := Lib.hid (by rw [hOK.out t hthr, hgo.out, decide_eq_false hca]; simp)
                  have dca : decide (ev.ca < z.ca) = false := decide_eq_false hca
                  clear hah hca
                  gi_wp2_with (gi_at_lookup; refine wpListIn_lookup_own_ok_int _ rfl _ _ 62 rfl 3 3 .i64 (Maps.int_keyed Tryz.underlying3) Tryz.underlying62 Tryz.underlying3 (Tryz.zeroValue3 _) (w.heap.size + 1 + 1 + 1 + 1 + 1) pre.length _ rfl HO3.out _ _ rfl hkey ?_; intro cv hatv hwc; obtain rfl : cv = (j : Int) := look_is hatv hval.out; clear hatv hwc)
                  have z1 : ∀ p : BW W3.heap.size W3, p.v.cell? ⟨w.heap.size + 1 + 1, 0, none⟩ = some (.slice (some ⟨b, o, none⟩) l.length c) := fun p => p.cell (World.block_lt_of_cell? _ _ nL) nL
                  have z2 : ∀ p : BW W3.heap.size W3, p.v.cell? ⟨Bx, 0, none⟩ = some (.int .i64 ev.ca) := fun p => p.cell (World.block_lt_of_cell? _ _ f0) f0
                  have z3 : ∀ p : BW W3.heap.size W3, p.v.cell? ⟨b, o + j * 8, none⟩ = some (.int .i64 z.ca) := fun p => p.cell hb3 zc
                  refine wpIn_region_low (B := W3.heap.size) (w := W3) (by kernel_rfl) (by kernel_rfl) (by kernel_rfl) ?_
                  repeat (go_big_quiet_step ((go_at_call 24; exact low_call (AH.out _) (Nat.le_refl _))))
                  refine wpQuiet_nil ?_
                  intro W4 hw'
                  obtain ⟨pq, eq4⟩ := hw'
                  have hb4 := pq.h
                  rw [← eq4] at hb4
                  clear eq4 pq
                  have hbz : Below W.heap.size W W4 := hb13.trans (hb4.mono hb13.size)
                  clear nN nT nL nK nR nF nM f0 f1 f2 f3 f4 f5 f6 f7
                  obtain ⟨nN, nT, nL, nK, nR, nF, nM, f0, f1, f2, f3, f4, f5, f6, f7⟩ := HS.out.below hbz
                  gi_wp2
                  exact leaf_no hww (by omega) HI.out hbz nR hbad.out
          · have div_ : decide (y.iv ≤ ev.iv) = true := decide_eq_true (by omega)
            have hbad : Hid (okS n ts l k pre x = false) := Lib.hid (by rw [hOK.out t hthr, hokN.out, decide_eq_false hiv]; simp)
            clear hiv
            gi_wp2_with (first | (gi_at_call 22; refine (CallsIn.inRound lr (callsIn_wide.2 (TH0.out _ (Below.refl _ _)))).mono ?_; rintro e W1 ⟨rfl, hb1⟩; obtain ⟨nN, nT, nL, nK, nR, nF, nM, f0, f1, f2, f3, f4, f5, f6, f7⟩ := HS.out.below hb1) | (gi_at_call 23; refine (CallsIn.inRound lr (callsIn_wide.2 (TM0.out _))).mono ?_; rintro e W2 ⟨rfl, hb2⟩; (have hb12 : Below W.heap.size W W2 := hb1.trans (hb2.mono hb1.size)); clear nN nT nL nK nR nF nM f0 f1 f2 f3 f4 f5 f6 f7; obtain ⟨nN, nT, nL, nK, nR, nF, nM, f0, f1, f2, f3, f4, f5, f6, f7⟩ := HS.out.below hb12))
            have hy2 := YC.out _ hb12
            have z1 : ∀ p : BW W2.heap.size W2, p.v.cell? ⟨w.heap.size + 1 + 1, 0, none⟩ = some (.slice (some ⟨b, o, none⟩) l.length c) := fun p => p.cell (World.block_lt_of_cell? _ _ nL) nL
            have z2 : ∀ p : BW W2.heap.size W2, p.v.cell? ⟨Bx, 1, none⟩ = some (.int .i64 ev.iv) := fun p => p.cell (World.block_lt_of_cell? _ _ f1) f1
            have z3 : ∀ p : BW W2.heap.size W2, p.v.cell? ⟨b, o + m * 8 + 1, none⟩ = some (.int .i64 y.iv) := fun p => p.cell (World.block_lt_of_cell? _ _ hy2) hy2
            refine wpIn_region_low (B := W2.heap.size) (w := W2) (by kernel_rfl) (by kernel_rfl) (by kernel_rfl) ?_
            repeat (go_big_quiet_step (fail))
            refine wpQuiet_nil ?_
            intro W4 hw'
            obtain ⟨pq, eq4⟩ := hw'
            have hb4 := pq.h
            rw [← eq4] at hb4
            clear eq4 pq
            have hbz : Below W.heap.size W W4 := hb12.trans (hb4.mono hb12.size)
            clear nN nT nL nK nR nF nM f0 f1 f2 f3 f4 f5 f6 f7
            obtain ⟨nN, nT, nL, nK, nR, nF, nM, f0, f1, f2, f3, f4, f5, f6, f7⟩ := HS.out.below hbz
            gi_wp2
            exact leaf_no hww (by omega) HI.out hbz nR hbad.out
        · have dnx : decide ((m : Int) < l.length) = false := decide_eq_false (by omega)
          have hokn : Hid (okN l x.val ev = true) := Lib.hid (by unfold okN; rw [HQ.out, ← hm, List.getElem?_eq_none (by omega)])
          clear hm
          gi_wp2_with (first | (gi_at_call 22; refine (CallsIn.inRound lr (callsIn_wide.2 (TH0.out _ (Below.refl _ _)))).mono ?_; rintro e W1 ⟨rfl, hb1⟩; obtain ⟨nN, nT, nL, nK, nR, nF, nM, f0, f1, f2, f3, f4, f5, f6, f7⟩ := HS.out.below hb1) | (gi_at_call 23; refine (CallsIn.inRound lr (callsIn_wide.2 (TM0.out _))).mono ?_; rintro e W2 ⟨rfl, hb2⟩; (have hb12 : Below W.heap.size W W2 := hb1.trans (hb2.mono hb1.size)); clear nN nT nL nK nR nF nM f0 f1 f2 f3 f4 f5 f6 f7; obtain ⟨nN, nT, nL, nK, nR, nF, nM, f0, f1, f2, f3, f4, f5, f6, f7⟩ := HS.out.below hb12))
          have z1 : ∀ p : BW W2.heap.size W2, p.v.cell? ⟨w.heap.size + 1 + 1, 0, none⟩ = some (.slice ao l.length c) := fun p => p.cell (World.block_lt_of_cell? _ _ nL) nL
          refine wpIn_region_low (B := W2.heap.size) (w := W2) (by kernel_rfl) (by kernel_rfl) (by kernel_rfl) ?_
          repeat (go_big_quiet_step (fail))
          refine wpQuiet_nil ?_
          intro W3 hw'
          obtain ⟨pq, eq4⟩ := hw'
          have hb3' := pq.h
          rw [← eq4] at hb3'
          clear eq4 pq
          have hb13 : Below W.heap.size W W3 := hb12.trans (hb3'.mono hb12.size)
          clear z1 hb1 hb2 hb12 hb3'
          have HO3 : Hid (W3.ownsMap Tryz.prog 3 (plainElem Tryz.prog 3) (w.heap.size + 1 + 1 + 1 + 1 + 1) pre.length D) := Lib.hid (owns_map_same HO.out (hb13.block _ (by have := hz8.out; omega)))
          clear nN nT nL nK nR nF nM f0 f1 f2 f3 f4 f5 f6 f7
          obtain ⟨nN, nT, nL, nK, nR, nF, nM, f0, f1, f2, f3, f4, f5, f6, f7⟩ := HS.out.below hb13
          have hkey := Maps.keyOf_int_mk Tryz.underlying3 (P := Tryz.prog) (wf_of htw)
          cases hg : gOf ts l pre t with
          | none =>
            have hok : Hid (okS n ts l k pre x = true) := Lib.hid (by rw [hOK.out t hthr, htm, decide_eq_true (by omega : 0 ≤ t), decide_eq_true (by omega : t < n), hokn.out, hg]; rfl)
            have hhas : Maps.has D (.int .i64 t) = false := by rw [(HD.out t).1, hg]; rfl
            have hval : Hid (D.atKey (.int .i64 t) (.lit (.int .i64 0)) = .lit (.int .i64 (0 : Int))) := Lib.hid (by rw [(HD.out t).2, hg]; rfl)
            clear hg
            gi_wp2_with (gi_at_lookup; refine wpListIn_lookup_own_ok_int _ rfl _ _ 62 rfl 3 3 .i64 (Maps.int_keyed Tryz.underlying3) Tryz.underlying62 Tryz.underlying3 (Tryz.zeroValue3 _) (w.heap.size + 1 + 1 + 1 + 1 + 1) pre.length _ rfl HO3.out _ _ rfl hkey ?_; intro cv hatv hwc; obtain rfl : cv = (0 : Int) := look_is hatv hval.out; clear hatv hwc)
            have z1 : ∀ p : BW W3.heap.size W3, p.v.cell? ⟨w.heap.size + 1 + 1, 0, none⟩ = some (.slice ao l.length c) := fun p => p.cell (World.block_lt_of_cell? _ _ nL) nL
            refine wpIn_region_low (B := W3.heap.size) (w := W3) (by kernel_rfl) (by kernel_rfl) (by kernel_rfl) ?_
            repeat (go_big_quiet_step (fail))
            refine wpQuiet_nil ?_
            intro W4 hw'
            obtain ⟨pq, eq4⟩ := hw'
            have hb4 := pq.h
            rw [← eq4] at hb4
            clear eq4 pq
            have hbz : Below W.heap.size W W4 := hb13.trans (hb4.mono hb13.size)
            have HO4 : Hid (W4.ownsMap Tryz.prog 3 (plainElem Tryz.prog 3) (w.heap.size + 1 + 1 + 1 + 1 + 1) pre.length D) := Lib.hid (owns_map_same HO.out (hbz.block _ (by have := hz8.out; omega)))
            clear nN nT nL nK nR nF nM f0 f1 f2 f3 f4 f5 f6 f7
            obtain ⟨nN, nT, nL, nK, nR, nF, nM, f0, f1, f2, f3, f4, f5, f6, f7⟩ := HS.out.below hbz
            gi_wp2_with (gi_at_mapUpdate; refine wpListIn_mapUpdate_own _ rfl _ _ _ 62 rfl 3 3 (Maps.int_keyed Tryz.underlying3) Tryz.underlying62 _ (w.heap.size + 1 + 1 + 1 + 1 + 1) pre.length _ rfl HO4.out (by have := hz8.out; unfold maxLen; omega) _ _ _ rfl rfl hkey _ [] (plainElem_int Tryz.underlying3 (wf_of hqw.out)) ?_; intro W5 hown5 hgrow5)
            have hz9 := hz8.out
            exact leaf_yes hww (by omega) hbm (by omega) (by omega) HI.out hbz hgrow5 (by rw [HE.out]; exact hthr) HD.out hIsM.out (by rw [HQ.out]; exact hown5) hok.out
          | some j =>
            have hj := gOf_lt hg
            obtain ⟨z, hzj⟩ : ∃ z, l[j]? = some z := ⟨_, List.getElem?_eq_getElem hj⟩
            have hhas : Maps.has D (.int .i64 t) = true := by rw [(HD.out t).1, hg]; rfl
            have hval : Hid (D.atKey (.int .i64 t) (.lit (.int .i64 0)) = .lit (.int .i64 (j : Int))) := Lib.hid (by rw [(HD.out t).2, hg]; rfl)
            have hgo : Hid (okG l ev (gOf ts l pre t) = (ahd ev z && decide (ev.ca < z.ca))) := Lib.hid (by rw [hg]; show (match l[j]? with | none => false | some y => ahd ev y && decide (ev.ca < y.ca)) = _; rw [hzj])
            obtain rfl := HA.out (by omega)
            have hbb := HB.out (by omega)
            have hbw3 : Below w.heap.size w W3 := HbW.out.trans (hb13.mono HbW.out.size)
            have EV3 : EvsAt W3 b o l := HC.out.stays hbw3 HB.out
            have hb3 : b < W3.heap.size := Nat.lt_of_lt_of_le hbb hbw3.size
            have AH : Hid (∀ p : BW W3.heap.size W3, Calls Tryz.prog 24 #[.slice (some ⟨b, o, none⟩) l.length c, .int .i64 (q : Int), .int .i64 (j : Int)] p.v fun e w' => e = .returned (.bool (ahd ev z)) ∧ Below p.v.heap.size p.v w') :=
              Lib.hid (fun p => ahead_in b o c l q j ev z p.v hl (Nat.lt_of_lt_of_le hb3 p.h.size) (EV3.stays p.h (fun _ => hb3)) HXQ.out hzj)
            have zc := (EV3.cells hzj).1
            clear hg EV3 hbw3 hzj
            cases hah : ahd ev z with
            | false =>
              rw [hah] at AH
              have hbad : Hid (okS n ts l k pre x = false) := Lib.hid (by rw [hOK.out t hthr, hgo.out, hah]; simp)
              clear hah
              gi_wp2_with (gi_at_lookup; refine wpListIn_lookup_own_ok_int _ rfl _ _ 62 rfl 3 3 .i64 (Maps.int_keyed Tryz.underlying3) Tryz.underlying62 Tryz.underlying3 (Tryz.zeroValue3 _) (w.heap.size + 1 + 1 + 1 + 1 + 1) pre.length _ rfl HO3.out _ _ rfl hkey ?_; intro cv hatv hwc; obtain rfl : cv = (j : Int) := look_is hatv hval.out; clear hatv hwc)
              have z1 : ∀ p : BW W3.heap.size W3, p.v.cell? ⟨w.heap.size + 1 + 1, 0, none⟩ = some (.slice (some ⟨b, o, none⟩) l.length c) := fun p => p.cell (World.block_lt_of_cell? _ _ nL) nL
              have z2 : ∀ p : BW W3.heap.size W3, p.v.cell? ⟨Bx, 0, none⟩ = some (.int .i64 ev.ca) := fun p => p.cell (World.block_lt_of_cell? _ _ f0) f0
              have z3 : ∀ p : BW W3.heap.size W3, p.v.cell? ⟨b, o + j * 8, none⟩ = some (.int .i64 z.ca) := fun p => p.cell hb3 zc
              refine wpIn_region_low (B := W3.heap.size) (w := W3) (by kernel_rfl) (by kernel_rfl) (by kernel_rfl) ?_
              repeat (go_big_quiet_step ((go_at_call 24; exact low_call (AH.out _) (Nat.le_refl _))))
              refine wpQuiet_nil ?_
              intro W4 hw'
              obtain ⟨pq, eq4⟩ := hw'
              have hb4 := pq.h
              rw [← eq4] at hb4
              clear eq4 pq
              have hbz : Below W.heap.size W W4 := hb13.trans (hb4.mono hb13.size)
              clear nN nT nL nK nR nF nM f0 f1 f2 f3 f4 f5 f6 f7
              obtain ⟨nN, nT, nL, nK, nR, nF, nM, f0, f1, f2, f3, f4, f5, f6, f7⟩ := HS.out.below hbz
              gi_wp2
              exact leaf_no hww (by omega) HI.out hbz nR hbad.out
            | true =>
              rw [hah] at AH
              by_cases hca : ev.ca < z.ca
              · have hok : Hid (okS n ts l k pre x = true) := Lib.hid (by rw [hOK.out t hthr, htm, decide_eq_true (by omega : 0 ≤ t), decide_eq_true (by omega : t < n), hokn.out, hgo.out, hah, decide_eq_true hca]; rfl)
                have dca : decide (ev.ca < z.ca) = true := decide_eq_true hca
                clear hah hca
                gi_wp2_with (gi_at_lookup; refine wpListIn_lookup_own_ok_int _ rfl _ _ 62 rfl 3 3 .i64 (Maps.int_keyed Tryz.underlying3) Tryz.underlying62 Tryz.underlying3 (Tryz.zeroValue3 _) (w.heap.size + 1 + 1 + 1 + 1 + 1) pre.length _ rfl HO3.out _ _ rfl hkey ?_; intro cv hatv hwc; obtain rfl : cv = (j : Int) := look_is hatv hval.out; clear hatv hwc)
                have z1 : ∀ p : BW W3.heap.size W3, p.v.cell? ⟨w.heap.size + 1 + 1, 0, none⟩ = some (.slice (some ⟨b, o, none⟩) l.length c) := fun p => p.cell (World.block_lt_of_cell? _ _ nL) nL
                have z2 : ∀ p : BW W3.heap.size W3, p.v.cell? ⟨Bx, 0, none⟩ = some (.int .i64 ev.ca) := fun p => p.cell (World.block_lt_of_cell? _ _ f0) f0
                have z3 : ∀ p : BW W3.heap.size W3, p.v.cell? ⟨b, o + j * 8, none⟩ = some (.int .i64 z.ca) := fun p => p.cell hb3 zc
                refine wpIn_region_low (B := W3.heap.size) (w := W3) (by kernel_rfl) (by kernel_rfl) (by kernel_rfl) ?_
                repeat (go_big_quiet_step ((go_at_call 24; exact low_call (AH.out _) (Nat.le_refl _))))
                refine wpQuiet_nil ?_
                intro W4 hw'
                obtain ⟨pq, eq4⟩ := hw'
                have hb4 := pq.h
                rw [← eq4] at hb4
                clear eq4 pq
                have hbz : Below W.heap.size W W4 := hb13.trans (hb4.mono hb13.size)
                have HO4 : Hid (W4.ownsMap Tryz.prog 3 (plainElem Tryz.prog 3) (w.heap.size + 1 + 1 + 1 + 1 + 1) pre.length D) := Lib.hid (owns_map_same HO.out (hbz.block _ (by have := hz8.out; omega)))
                clear nN nT nL nK nR nF nM f0 f1 f2 f3 f4 f5 f6 f7
                obtain ⟨nN, nT, nL, nK, nR, nF, nM, f0, f1, f2, f3, f4, f5, f6, f7⟩ := HS.out.below hbz
                gi_wp2_with (gi_at_mapUpdate; refine wpListIn_mapUpdate_own _ rfl _ _ _ 62 rfl 3 3 (Maps.int_keyed Tryz.underlying3) Tryz.underlying62 _ (w.heap.size + 1 + 1 + 1 + 1 + 1) pre.length _ rfl HO4.out (by have := hz8.out; unfold maxLen; omega) _ _ _ rfl rfl hkey _ [] (plainElem_int Tryz.underlying3 (wf_of hqw.out)) ?_; intro W5 hown5 hgrow5)
                have hz9 := hz8.out
                exact leaf_yes hww (by omega) hbm (by omega) (by omega) HI.out hbz hgrow5 (by rw [HE.out]; exact hthr) HD.out hIsM.out (by rw [HQ.out]; exact hown5) hok.out
              · have hbad : Hid (okS n ts l k pre x = false) := Lib.hid (by rw [hOK.out t hthr, hgo.out, decide_eq_false hca]; simp)
                have dca : decide (ev.ca < z.ca) = false := decide_eq_false hca
                clear hah hca
                gi_wp2_with (gi_at_lookup; refine wpListIn_lookup_own_ok_int _ rfl _ _ 62 rfl 3 3 .i64 (Maps.int_keyed Tryz.underlying3) Tryz.underlying62 Tryz.underlying3 (Tryz.zeroValue3 _) (w.heap.size + 1 + 1 + 1 + 1 + 1) pre.length _ rfl HO3.out _ _ rfl hkey ?_; intro cv hatv hwc; obtain rfl : cv = (j : Int) := look_is hatv hval.out; clear hatv hwc)
                have z1 : ∀ p : BW W3.heap.size W3, p.v.cell? ⟨w.heap.size + 1 + 1, 0, none⟩ = some (.slice (some ⟨b, o, none⟩) l.length c) := fun p => p.cell (World.block_lt_of_cell? _ _ nL) nL
                have z2 : ∀ p : BW W3.heap.size W3, p.v.cell? ⟨Bx, 0, none⟩ = some (.int .i64 ev.ca) := fun p => p.cell (World.block_lt_of_cell? _ _ f0) f0
                have z3 : ∀ p : BW W3.heap.size W3, p.v.cell? ⟨b, o + j * 8, none⟩ = some (.int .i64 z.ca) := fun p => p.cell hb3 zc
                refine wpIn_region_low (B := W3.heap.size) (w := W3) (by kernel_rfl) (by kernel_rfl) (by kernel_rfl) ?_
                repeat (go_big_quiet_step ((go_at_call 24; exact low_call (AH.out _) (Nat.le_refl _))))
                refine wpQuiet_nil ?_
                intro W4 hw'
                obtain ⟨pq, eq4⟩ := hw'
                have hb4 := pq.h
                rw [← eq4] at hb4
                clear eq4 pq
                have hbz : Below W.heap.size W W4 := hb13.trans (hb4.mono hb13.size)
                clear nN nT nL nK nR nF nM f0 f1 f2 f3 f4 f5 f6 f7
                obtain ⟨nN, nT, nL, nK, nR, nF, nM, f0, f1, f2, f3, f4, f5, f6, f7⟩ := HS.out.below hbz
                gi_wp2
                exact leaf_no hww (by omega) HI.out hbz nR hbad.out
  case done =>
    rintro D ys W hD rfl hI hK
    have hres : W.heap[w.heap.size + 1 + 1 + 1 + 1]? = some (.cells #[.bool false] 4 (0, 0)) := (hI.same _ hbr (by omega)).trans (hat 4)
    have c1 := cell_of_one hres
    have f1 := free_of_one hres
    have hyes := rgt_yes hI.ok
    have hBw := hI.bel
    clear hI
    gi_wp2
    have hK' := (KeepsOthers.setCell W ⟨w.heap.size + 1 + 1 + 1 + 1, 0, none⟩ (.bool true)).same D _ hK rfl
    refine ⟨by simp, .inl ⟨_, _, rfl, run_takeDeferred hK', ?_⟩⟩
    have hc5 := cell_kept (World.cell?_setCell_same' W ⟨w.heap.size + 1 + 1 + 1 + 1, 0, none⟩ (.bool true) (by rw [c1]; rfl)) (grownBy_putObj' _ D (.deferred none)) (fun r e => by cases e; exact ⟨_, hK', rfl⟩)
    refine ⟨.bool true, ?_, by rw [hyes], (hBw.setCell (p := ⟨w.heap.size + 1 + 1 + 1 + 1, 0, none⟩) (by show w.heap.size ≤ w.heap.size + 1 + 1 + 1 + 1; omega) _).trans (belowK_b (w := w) (Nat.le_refl _) _ D _ _ (by omega) hK' rfl rfl)⟩
    simp [results, Tryz.f8, go_sem, hc5]
  case stop =>
    rintro D c pre W hD ⟨q, hq, rfl⟩ hX hK
    obtain ⟨rfl, ⟨p, i, hp, hbad⟩, hcr, _, hBw⟩ := hX
    have hno := rgt_no hq hp.symm hbad
    gi_wp2
    refine ⟨by simp, .inl ⟨_, _, rfl, run_takeDeferred hK, ?_⟩⟩
    have hc5 := cell_kept hcr (grownBy_putObj' _ D (.deferred none)) (fun r e => by cases e; exact ⟨_, hK, rfl⟩)
    refine ⟨.bool false, ?_, by rw [hno], hBw.trans (belowK_b (w := w) (Nat.le_refl _) W D _ _ (by omega) hK rfl rfl)⟩
    simp [results, Tryz.f8, go_sem, hc5]
end Go.Proofs.YtkkkpobdjhmgfaaGreatDoor
