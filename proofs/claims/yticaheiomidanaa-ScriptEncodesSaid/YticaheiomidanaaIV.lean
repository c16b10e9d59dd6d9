/- Walk of the law ScriptEncodes. -/
import Derived.Test.YticaheiomidanaaIO
import Derived.Test.YticaheiomidanaaIS
import Derived.Test.YticaheiomidanaaIT
import Derived.Deep.RegionHeld3
namespace Go.Proofs.Yticaheiomidanaa
open Go.RowKit
set_option linter.unusedSimpArgs false

/-- the bytes of a script that is right are bytes -/
theorem encL_bytes {x : ScI} (hw : wrong x = 0) (hc : ∀ y ∈ x.calls, y.a < 18446744073709551616 ∧ y.b < 18446744073709551616 ∧ y.c < 18446744073709551616) : ∀ z ∈ encL x, z < 256 := by
  obtain ⟨⟨hn1, hn2⟩, l1, l2, l3, r1, r2, r3⟩ := right_parts hw
  have hp : ∀ v : Nat, v ≤ 65535 → ∀ z ∈ pairL v, z < 256 := fun v hv z hz => by
    simp [pairL] at hz; omega
  have hR : ∀ (l : List Int) (n : Nat), n < 255 → (∀ y ∈ l, 0 ≤ y ∧ y ≤ 255) → ∀ z ∈ refR n l, z < 256 := by
    intro l
    induction l with
    | nil => intro n _ _ z hz; simp [refR] at hz
    | cons y l ih =>
      intro n hn h z hz
      have hy := h y (by simp)
      cases l with
      | nil => simp [refR] at hz; omega
      | cons y2 l =>
        rw [refR] at hz
        split at hz
        · rename_i h5
          rcases List.mem_cons.1 hz with rfl | hz
          · omega
          · rcases List.mem_cons.1 hz with rfl | hz
            · omega
            · exact ih 0 (by decide) (fun t ht => h t (by simp [ht])) z hz
        · exact ih (n + 1) (by omega) (fun t ht => h t (by simp [ht])) z hz
  intro z hz
  unfold encL at hz
  rcases List.mem_append.1 hz with hz | hz
  · rcases List.mem_append.1 hz with hz | hz
    · rcases List.mem_append.1 hz with hz | hz
      · rcases List.mem_append.1 hz with hz | hz
        · simp at hz; omega
        · obtain ⟨s, hs, hz⟩ := List.mem_flatMap.1 hz
          have := r1 s hs
          unfold specL at hz
          rcases List.mem_cons.1 hz with rfl | hz
          · omega
          · rcases List.mem_append.1 hz with hz | hz
            · exact hp _ (by omega) z hz
            · exact hp _ (by omega) z hz
      · exact hp _ (by omega) z hz
    · obtain ⟨s, hs, hz⟩ := List.mem_flatMap.1 hz
      have := r2 s hs
      obtain ⟨b1, b2, b3⟩ := hc s hs
      unfold callL at hz
      rcases List.mem_append.1 hz with hz | hz
      · rcases List.mem_append.1 hz with hz | hz
        · rcases List.mem_append.1 hz with hz | hz
          · simp at hz; omega
          · exact varF_byte b1 z hz
        · exact varF_byte b2 z hz
      · exact varF_byte b3 z hz
  · exact hR _ 0 (by decide) r3 z hz
theorem encL_len {x : ScI} (hw : wrong x = 0) : (encL x).length ≤ 9223372036854775806 := by
  obtain ⟨_, l1, l2, l3, _⟩ := right_parts hw
  have h1 : ∀ l : List SpI, (l.flatMap specL).length = 5 * l.length := by
    intro l; induction l with
    | nil => rfl
    | cons y l ih => rw [List.flatMap_cons, List.length_append, ih]; simp [specL, pairL]; omega
  have h2 : ∀ l : List CaI, (l.flatMap callL).length ≤ 33 * l.length := by
    intro l; induction l with
    | nil => exact Nat.le_refl _
    | cons y l ih =>
      have a := varF_len 9 y.a
      have b := varF_len 9 y.b
      have c := varF_len 9 y.c
      have e : (callL y).length ≤ 33 := by
        unfold callL
        rw [List.length_append, List.length_append, List.length_append]
        show 3 + _ + _ + _ ≤ 33
        omega
      rw [List.flatMap_cons, List.length_append, List.length_cons]; omega
  have h3 : ∀ (l : List Int) (n : Nat), (refR n l).length ≤ 2 * l.length := by
    intro l; induction l with
    | nil => intro n; simp [refR]
    | cons y l ih =>
      intro n
      cases l with
      | nil => simp [refR]
      | cons y2 l =>
        rw [refR]
        split
        · have := ih 0; simp at this ⊢; omega
        · have := ih (n + 1); simp at this ⊢; omega
  have a := h1 x.specs
  have b := h2 x.calls
  have c := h3 x.picks 0
  unfold encL
  rw [List.length_append, List.length_append, List.length_append, List.length_append, a]
  show 2 + _ + 2 + _ + _ ≤ 9223372036854775806
  omega

set_option maxHeartbeats 4000000 in
set_option maxRecDepth 100000 in
theorem encodes_walk (x : ScI) (s : Spots) (w : World) (h : ScAt w x s) :
    Calls Try.prog 3 #[scV x s] w fun e w' => e = .returned (.bool true) ∧ Below w.heap.size w w' := by
  have hb0 : Below w.heap.size w (w.alloc (.cells #[.int .i64 x.n, .slice s.sa x.specs.length s.sc, .slice s.ca x.calls.length s.cc, .slice s.pa x.picks.length s.pc] 26)) := (Below.refl _ _).alloc (Nat.le_refl _) _
  have HN0 := Lib.hid (heap_new w (.cells #[.int .i64 x.n, .slice s.sa x.specs.length s.sc, .slice s.ca x.calls.length s.cc, .slice s.pa x.picks.length s.pc] 26))
  have HB0 := Lib.hid hb0
  have HAT := Lib.hid (h.stays hb0)
  have hlc := h.lc
  have hlp := h.lp
  have HQ : Hid (∀ y ∈ x.calls, y.a < 18446744073709551616 ∧ y.b < 18446744073709551616 ∧ y.c < 18446744073709551616) := Lib.hid (fun y hy => by
    obtain ⟨i, hi⟩ := List.mem_iff_getElem?.1 hy
    obtain ⟨_, _, _, _, _, _, _, h7⟩ := h.c2 i y hi
    exact h7)
  clear h hb0
  by_cases g1 : 1100 < x.calls.length
  · have d1 : (1100 : Int) < x.calls.length := by omega
    go_enter Try.func3, Try.ntmps3
    go_wp2_with fail
    refine (three_any _).mono ?_
    rintro e w' ⟨rfl, hb⟩
    have hb2 := HB0.out.trans (hb.mono HB0.out.size)
    go_wp2_with fail
    go_ret
    exact ⟨rfl, hb2⟩
  by_cases g2 : 70000 < x.picks.length
  · have d1 : ¬ (1100 : Int) < x.calls.length := by omega
    have d2 : (70000 : Int) < x.picks.length := by omega
    go_enter Try.func3, Try.ntmps3
    go_wp2_with fail
    refine (three_any _).mono ?_
    rintro e w' ⟨rfl, hb⟩
    have hb2 := HB0.out.trans (hb.mono HB0.out.size)
    go_wp2_with fail
    go_ret
    exact ⟨rfl, hb2⟩
  have d1 : ¬ (1100 : Int) < x.calls.length := by omega
  have d2 : ¬ (70000 : Int) < x.picks.length := by omega
  clear g1 g2
  have hlt0 := lt_of_heap HN0.out
  have HF : Hid (∀ v, Below (w.alloc (.cells #[.int .i64 x.n, .slice s.sa x.specs.length s.sc, .slice s.ca x.calls.length s.cc, .slice s.pa x.picks.length s.pc] 26)).heap.size (w.alloc (.cells #[.int .i64 x.n, .slice s.sa x.specs.length s.sc, .slice s.ca x.calls.length s.cc, .slice s.pa x.picks.length s.pc] 26)) v → v.cell? ⟨w.heap.size, 0, none⟩ = some (.int .i64 x.n) ∧ v.cell? ⟨w.heap.size, 1, none⟩ = some (.slice s.sa x.specs.length s.sc) ∧
      v.cell? ⟨w.heap.size, 2, none⟩ = some (.slice s.ca x.calls.length s.cc) ∧ v.cell? ⟨w.heap.size, 3, none⟩ = some (.slice s.pa x.picks.length s.pc)) := Lib.hid (fun v hv => by
    have hk := (hv.block w.heap.size hlt0).trans HN0.out
    exact ⟨cell_of_heap hk (k := 0) rfl, cell_of_heap hk (k := 1) rfl, cell_of_heap hk (k := 2) rfl, cell_of_heap hk (k := 3) rfl⟩)
  have HST : Hid (∀ v, Below (w.alloc (.cells #[.int .i64 x.n, .slice s.sa x.specs.length s.sc, .slice s.ca x.calls.length s.cc, .slice s.pa x.picks.length s.pc] 26)).heap.size (w.alloc (.cells #[.int .i64 x.n, .slice s.sa x.specs.length s.sc, .slice s.ca x.calls.length s.cc, .slice s.pa x.picks.length s.pc] 26)) v → ScAt v x s) := Lib.hid (fun v hv => HAT.out.stays hv)
  by_cases hw : wrong x = 0
  · have hbyt := encL_bytes hw HQ.out
    have hlen := encL_len hw
    obtain ⟨htoI, hrd⟩ := right_toD hw HQ.out
    have HE := Lib.hid (encode_ok x s _ HAT.out hw)
    have HW : Hid (∀ v, Below (w.alloc (.cells #[.int .i64 x.n, .slice s.sa x.specs.length s.sc, .slice s.ca x.calls.length s.cc, .slice s.pa x.picks.length s.pc] 26)).heap.size (w.alloc (.cells #[.int .i64 x.n, .slice s.sa x.specs.length s.sc, .slice s.ca x.calls.length s.cc, .slice s.pa x.picks.length s.pc] 26)) v → Calls Try.prog 11 #[scV x s] v fun e w' => e = .returned (.int .i64 0) ∧ Below v.heap.size v w') := Lib.hid (fun v hv => by
      have := refWrong_any x s v (HST.out v hv)
      rw [hw] at this; exact this)
    have HBY : Hid (∀ v, Below (w.alloc (.cells #[.int .i64 x.n, .slice s.sa x.specs.length s.sc, .slice s.ca x.calls.length s.cc, .slice s.pa x.picks.length s.pc] 26)).heap.size (w.alloc (.cells #[.int .i64 x.n, .slice s.sa x.specs.length s.sc, .slice s.ca x.calls.length s.cc, .slice s.pa x.picks.length s.pc] 26)) v → Calls Try.prog 14 #[scV x s] v fun e w' => ∃ u, e = .returned u ∧ BOwn w' v.heap.size u (encL x) ∧ Below v.heap.size v w') := Lib.hid (fun v hv => bytes_any x s v (HST.out v hv) hw)
    have HDC : Hid (∀ (v : World) (ao : Option Addr) (g c : Nat), (0 < (encL x).length → ao = some ⟨g, 0, none⟩) → (0 < (encL x).length → g < v.heap.size) → BCells v g 0 (encL x) →
        Calls Try.prog 13 #[.slice ao (encL x).length c] v fun e w' => ∃ s2, e = .returned (.tuple #[scV x s2, .int .i64 0, .int .i64 0]) ∧ ScAt w' x s2 ∧ Below v.heap.size v w') := Lib.hid (fun v ao g c a1 a2 a3 => by
      refine (decode_any ao g 0 c (encL x) v a1 a2 a3 hlen).mono ?_
      rintro e w' ⟨hb, hm⟩
      rw [hrd] at hm
      obtain ⟨u, rfl, hu⟩ := hm
      obtain ⟨_, _, oks, okc, okp, l1, l2, l3, _, hn2⟩ := read_back hbyt hrd
      obtain ⟨s2, rfl, hat⟩ := scAt_of hu oks okc okp l1 l2 l3 hn2
      rw [htoI] at hat ⊢
      exact ⟨s2, rfl, hat, hb⟩)
    have HX5 := Lib.hid hbyt
    clear hbyt hlen htoI hrd hw
    generalize encL x = Lx at HE HBY HDC HX5
    go_enter Try.func3, Try.ntmps3
    go_wp2_with fail
    generalize w.alloc (.cells #[.int .i64 x.n, .slice s.sa x.specs.length s.sc, .slice s.ca x.calls.length s.cc, .slice s.pa x.picks.length s.pc] 26) = W0 at HN0 HB0 HF HST HE HW HBY hlt0 ⊢
    refine HE.out.mono ?_
    rintro e W1 ⟨v, rfl, ho, hb1⟩
    obtain ⟨av, gv, cv, rfl, hav, hgv, hcv⟩ := bown_cells ho HX5.out
    have HB1 := Lib.hid hb1
    have HAV := Lib.hid hav
    have HGV := Lib.hid hgv
    have HCV := Lib.hid hcv
    obtain ⟨p0, p1, p2, p3⟩ := HF.out W1 HB1.out
    clear ho hb1 hav hgv hcv
    go_wp2_with fail
    refine (ref_any x s _).mono ?_
    rintro e W2 ⟨rfl, hb2⟩
    have HB2 := Lib.hid (HB1.out.trans (hb2.mono HB1.out.size))
    have HV2 := Lib.hid hb2
    clear hb2 p0 p1 p2 p3
    go_wp2_with fail
    refine (HW.out W2 HB2.out).mono ?_
    rintro e W3 ⟨rfl, hb3⟩
    have HB3 := Lib.hid (HB2.out.trans (hb3.mono HB2.out.size))
    have HV3 := Lib.hid (HV2.out.trans (hb3.mono HV2.out.size))
    clear hb3
    go_wp2_with fail
    refine (HDC.out W3 av gv cv HAV.out (fun h => Nat.lt_of_lt_of_le (HGV.out h) HV3.out.size) (HCV.out.stays HV3.out HGV.out)).mono ?_
    rintro e W4 ⟨s2, rfl, hat2, hb4⟩
    have HB4 := Lib.hid (HB3.out.trans (hb4.mono HB3.out.size))
    have HV4 := Lib.hid (HV3.out.trans (hb4.mono HV3.out.size))
    have hk5 := heap_new W4 (.cells #[.int .i64 x.n, .slice s2.sa x.specs.length s2.sc, .slice s2.ca x.calls.length s2.cc, .slice s2.pa x.picks.length s2.pc] 26)
    have hx5 : Below W4.heap.size W4 (W4.alloc (.cells #[.int .i64 x.n, .slice s2.sa x.specs.length s2.sc, .slice s2.ca x.calls.length s2.cc, .slice s2.pa x.picks.length s2.pc] 26)) := (Below.refl _ _).alloc (Nat.le_refl _) _
    have HK5 := Lib.hid hk5
    have HX4 := Lib.hid hx5
    have HA5 := Lib.hid (hat2.stays hx5)
    have HB5 := Lib.hid (HB4.out.trans (hx5.mono HB4.out.size))
    have HV5 := Lib.hid (HV4.out.trans (hx5.mono HV4.out.size))
    clear hb4 hk5 hx5 hat2
    go_upto_region 8 with fail
    generalize W4.alloc (.cells #[.int .i64 x.n, .slice s2.sa x.specs.length s2.sc, .slice s2.ca x.calls.length s2.cc, .slice s2.pa x.picks.length s2.pc] 26) = W5 at HK5 HX4 HA5 HB5 HV5 ⊢
    have hlt5 := lt_of_heap HK5.out
    have HG : Hid (∀ v, Below W5.heap.size W5 v → ScAt v x s2 ∧ ScAt v x s ∧ Below W0.heap.size W0 v ∧ (v.cell? ⟨W4.heap.size, 0, none⟩ = some (.int .i64 x.n) ∧ v.cell? ⟨W4.heap.size, 1, none⟩ = some (.slice s2.sa x.specs.length s2.sc) ∧
        v.cell? ⟨W4.heap.size, 2, none⟩ = some (.slice s2.ca x.calls.length s2.cc) ∧ v.cell? ⟨W4.heap.size, 3, none⟩ = some (.slice s2.pa x.picks.length s2.pc)) ∧
        (convert 28 9 (.slice av Lx.length cv)).run Try.prog v = .ok (.string (strOfNums (Lx.map (fun x : Nat => (x : Int))))) v) := Lib.hid (fun v hv => by
      have hk := (hv.block W4.heap.size hlt5).trans HK5.out
      have h0 : Below W0.heap.size W0 v := HB5.out.trans (hv.mono HB5.out.size)
      exact ⟨HA5.out.stays hv, HST.out v h0, h0, ⟨cell_of_heap hk (k := 0) rfl, cell_of_heap hk (k := 1) rfl, cell_of_heap hk (k := 2) rfl, cell_of_heap hk (k := 3) rfl⟩,
        str_of v av gv 0 cv Lx HAV.out (HCV.out.stays (HV5.out.trans (hv.mono HV5.out.size)) HGV.out)⟩)
    obtain ⟨sx, hsx⟩ : ∃ sx, sx = strOfNums (Lx.map (fun x : Nat => (x : Int))) := ⟨_, rfl⟩
    rw [← hsx] at HG
    have HSX := Lib.hid hsx
    have HS : Hid (∀ v, Below W5.heap.size W5 v → v.cell? ⟨w.heap.size, 0, none⟩ = some (.int .i64 x.n) ∧ v.cell? ⟨w.heap.size, 1, none⟩ = some (.slice s.sa x.specs.length s.sc) ∧ v.cell? ⟨w.heap.size, 2, none⟩ = some (.slice s.ca x.calls.length s.cc) ∧ v.cell? ⟨w.heap.size, 3, none⟩ = some (.slice s.pa x.picks.length s.pc) ∧ v.cell? ⟨W4.heap.size, 0, none⟩ = some (.int .i64 x.n) ∧ v.cell? ⟨W4.heap.size, 1, none⟩ = some (.slice s2.sa x.specs.length s2.sc) ∧ v.cell? ⟨W4.heap.size, 2, none⟩ = some (.slice s2.ca x.calls.length s2.cc) ∧ v.cell? ⟨W4.heap.size, 3, none⟩ = some (.slice s2.pa x.picks.length s2.pc) ∧ (convert 28 9 (.slice av Lx.length cv)).run Try.prog v = .ok (.string sx) v ∧ Hid (Below W5.heap.size W5 v)) := Lib.hid (fun v hv => by
      obtain ⟨_, _, h0, ⟨q0, q1, q2, q3⟩, st⟩ := HG.out v hv
      obtain ⟨p0, p1, p2, p3⟩ := HF.out v h0
      exact ⟨p0, p1, p2, p3, q0, q1, q2, q3, st, Lib.hid hv⟩)
    clear hsx HAT HQ HDC HN0 HE HW HB1 HAV HGV HCV HB2 HV2 HB3 HV3 HB4 HV4 HK5 HX4 HA5 HV5 hlt5 hlt0 HST HF
    refine wp_region_held_drew (S := fun w' => w'.cell? ⟨w.heap.size, 0, none⟩ = some (.int .i64 x.n) ∧ w'.cell? ⟨w.heap.size, 1, none⟩ = some (.slice s.sa x.specs.length s.sc) ∧ w'.cell? ⟨w.heap.size, 2, none⟩ = some (.slice s.ca x.calls.length s.cc) ∧ w'.cell? ⟨w.heap.size, 3, none⟩ = some (.slice s.pa x.picks.length s.pc) ∧ w'.cell? ⟨W4.heap.size, 0, none⟩ = some (.int .i64 x.n) ∧ w'.cell? ⟨W4.heap.size, 1, none⟩ = some (.slice s2.sa x.specs.length s2.sc) ∧ w'.cell? ⟨W4.heap.size, 2, none⟩ = some (.slice s2.ca x.calls.length s2.cc) ∧ w'.cell? ⟨W4.heap.size, 3, none⟩ = some (.slice s2.pa x.picks.length s2.pc) ∧ (convert 28 9 (.slice av Lx.length cv)).run Try.prog w' = .ok (.string sx) w' ∧ Hid (Below W5.heap.size W5 w')) (by kernel_rfl) ?_ (fun hHeld => ?_)
    · exact HS.out _ (below_drewN (Below.refl _ _) 1)
    try simp only [Act.put, List.getElem_toArray, List.getElem_cons_zero, List.setIfInBounds_toArray, List.set_cons_zero, List.set_cons_succ]
    refine wpAnyH_take (i := 0) (oi := _) (v := ?v0) rfl (by kernel_rfl) (by kernel_rfl) (by kernel_rfl) (fun _ _ _ h => h) (Or.inl ⟨by kernel_rfl, ?vy0⟩) (by assumption) ?vr0
    case vy0 => (intro w hSw; (try dsimp only at hSw); go_simp <;> with_reducible rfl)
    try simp only [Act.put, List.getElem_toArray, List.getElem_cons_zero, List.getElem_cons_succ, List.setIfInBounds_toArray, List.set_cons_zero, List.set_cons_succ]
    refine wpAnyH_take (i := 1) (oi := _) (v := ?v1) rfl (by kernel_rfl) (by kernel_rfl) (by kernel_rfl) (fun _ _ _ h => h) (Or.inl ⟨by kernel_rfl, ?vy1⟩) (by assumption) ?vr1
    case vy1 => (intro w hSw; (try dsimp only at hSw); go_simp <;> with_reducible rfl)
    try simp only [Act.put, List.getElem_toArray, List.getElem_cons_zero, List.getElem_cons_succ, List.setIfInBounds_toArray, List.set_cons_zero, List.set_cons_succ]
    refine wpAnyH_take (i := 2) (oi := _) (v := ?v2) rfl (by kernel_rfl) (by kernel_rfl) (by kernel_rfl) (fun _ _ _ h => h) (Or.inl ⟨by kernel_rfl, ?vy2⟩) (by assumption) ?vr2
    case vy2 => (intro w hSw; (try dsimp only at hSw); go_simp <;> with_reducible rfl)
    try simp only [Act.put, List.getElem_toArray, List.getElem_cons_zero, List.getElem_cons_succ, List.setIfInBounds_toArray, List.set_cons_zero, List.set_cons_succ]
    refine wpAnyH_take (i := 3) (oi := _) (v := ?v3) rfl (by kernel_rfl) (by kernel_rfl) (by kernel_rfl) (fun _ _ _ h => h) (Or.inl ⟨by kernel_rfl, ?vy3⟩) (by assumption) ?vr3
    case vy3 => (intro w hSw; (try dsimp only at hSw); go_simp <;> with_reducible rfl)
    try simp only [Act.put, List.getElem_toArray, List.getElem_cons_zero, List.getElem_cons_succ, List.setIfInBounds_toArray, List.set_cons_zero, List.set_cons_succ]
    refine wpAnyH_take (i := 4) (oi := _) (v := ?v4) rfl (by kernel_rfl) (by kernel_rfl) (by kernel_rfl) (fun _ _ _ h => h) (Or.inl ⟨by kernel_rfl, ?vy4⟩) (by assumption) ?vr4
    case vy4 => (intro w hSw; (try dsimp only at hSw); go_simp <;> with_reducible rfl)
    try simp only [Act.put, List.getElem_toArray, List.getElem_cons_zero, List.getElem_cons_succ, List.setIfInBounds_toArray, List.set_cons_zero, List.set_cons_succ]
    refine wpAnyH_take (i := 5) (oi := _) (v := ?v5) rfl (by kernel_rfl) (by kernel_rfl) (by kernel_rfl) (fun _ _ _ h => h) (Or.inl ⟨by kernel_rfl, ?vy5⟩) (by assumption) ?vr5
    case vy5 => (intro w hSw; (try dsimp only at hSw); go_simp <;> with_reducible rfl)
    try simp only [Act.put, List.getElem_toArray, List.getElem_cons_zero, List.getElem_cons_succ, List.setIfInBounds_toArray, List.set_cons_zero, List.set_cons_succ]
    refine wpAnyH_ready (rs := [6]) (by kernel_rfl) (by simp) ?_
    refine AllReadyH.cons (o := _) rfl (fun K hK => ?_) AllReadyH.nil
    have HB : Hid (Below W5.heap.size W5 _) := hHeld.2.2.2.2.2.2.2.2.2
    go_simp
    go_at_call 12
    refine (ref_any x s _).mono ?_
    rintro e W6 ⟨rfl, hb6⟩
    have HB6 := Lib.hid (HB.out.trans (hb6.mono HB.out.size))
    clear HB hb6
    refine hK.out _ _ ?_ (fun hHeld6 => ?_)
    · exact HS.out _ HB6.out
    clear hK K hHeld
    try simp only [Act.put, List.getElem_toArray, List.getElem_cons_zero, List.getElem_cons_succ, List.setIfInBounds_toArray, List.set_cons_zero, List.set_cons_succ]
    refine wpAnyH_ready (rs := [7]) (by kernel_rfl) (by simp) ?_
    refine AllReadyH.cons (o := _) rfl (fun K hK => ?_) AllReadyH.nil
    have HB : Hid (Below W5.heap.size W5 _) := hHeld6.2.2.2.2.2.2.2.2.2
    go_simp
    go_at_call 14
    refine (HBY.out _ (HG.out _ HB.out).2.2.1).mono ?_
    rintro e W7 ⟨u7, rfl, ho7, hb7⟩
    obtain ⟨a7, g7, c7, rfl, ha7, hg7, hc7⟩ := bown_cells ho7 HX5.out
    have st2 := str_of W7 a7 g7 0 c7 Lx ha7 hc7
    rw [← HSX.out] at st2
    clear ho7 ha7 hg7 hc7
    have HB7 := Lib.hid (HB.out.trans (hb7.mono HB.out.size))
    clear HB hb7
    refine hK.out _ _ ?_ (fun hHeld7 => ?_)
    · exact HS.out _ HB7.out
    clear hK K hHeld6
    try simp only [Act.put, List.getElem_toArray, List.getElem_cons_zero, List.getElem_cons_succ, List.setIfInBounds_toArray, List.set_cons_zero, List.set_cons_succ]
    refine wpAnyH_ready (rs := [8]) (by kernel_rfl) (by simp) ?_
    refine AllReadyH.cons (o := _) rfl (fun K hK => ?_) AllReadyH.nil
    go_simp
    refine hK.out _ _ ?_ (fun hHeld8 => ?_)
    · exact HS.out _ HB7.out
    clear hK K st2 hHeld7
    try simp only [Act.put, List.getElem_toArray, List.getElem_cons_zero, List.getElem_cons_succ, List.setIfInBounds_toArray, List.set_cons_zero, List.set_cons_succ]
    refine wpAnyH_take (i := 9) (oi := _) (v := ?v9) rfl (by kernel_rfl) (by kernel_rfl) (by kernel_rfl) (fun _ _ _ h => h) (Or.inl ⟨by kernel_rfl, ?vy9⟩) (by assumption) ?vr9
    case vy9 => (intro w hSw; (try dsimp only at hSw); go_simp <;> with_reducible rfl)
    try simp only [Act.put, List.getElem_toArray, List.getElem_cons_zero, List.getElem_cons_succ, List.setIfInBounds_toArray, List.set_cons_zero, List.set_cons_succ]
    refine wpAnyH_take (i := 10) (oi := _) (v := ?v10) rfl (by kernel_rfl) (by kernel_rfl) (by kernel_rfl) (fun _ _ _ h => h) (Or.inl ⟨by kernel_rfl, ?vy10⟩) (by assumption) ?vr10
    case vy10 => (intro w hSw; (try dsimp only at hSw); go_simp <;> with_reducible rfl)
    try simp only [Act.put, List.getElem_toArray, List.getElem_cons_zero, List.getElem_cons_succ, List.setIfInBounds_toArray, List.set_cons_zero, List.set_cons_succ]
    refine wpAnyH_take (i := 11) (oi := _) (v := ?v11) rfl (by kernel_rfl) (by kernel_rfl) (by kernel_rfl) (fun _ _ _ h => h) (Or.inl ⟨by kernel_rfl, ?vy11⟩) (by assumption) ?vr11
    case vy11 => (intro w hSw; (try dsimp only at hSw); go_simp <;> with_reducible rfl)
    try simp only [Act.put, List.getElem_toArray, List.getElem_cons_zero, List.getElem_cons_succ, List.setIfInBounds_toArray, List.set_cons_zero, List.set_cons_succ]
    refine wpAnyH_take (i := 12) (oi := _) (v := ?v12) rfl (by kernel_rfl) (by kernel_rfl) (by kernel_rfl) (fun _ _ _ h => h) (Or.inl ⟨by kernel_rfl, ?vy12⟩) (by assumption) ?vr12
    case vy12 => (intro w hSw; (try dsimp only at hSw); go_simp <;> with_reducible rfl)
    try simp only [Act.put, List.getElem_toArray, List.getElem_cons_zero, List.getElem_cons_succ, List.setIfInBounds_toArray, List.set_cons_zero, List.set_cons_succ]
    refine wpAnyH_take (i := 13) (oi := _) (v := ?v13) rfl (by kernel_rfl) (by kernel_rfl) (by kernel_rfl) (fun _ _ _ h => h) (Or.inl ⟨by kernel_rfl, ?vy13⟩) (by assumption) ?vr13
    case vy13 => (intro w hSw; (try dsimp only at hSw); go_simp <;> with_reducible rfl)
    try simp only [Act.put, List.getElem_toArray, List.getElem_cons_zero, List.getElem_cons_succ, List.setIfInBounds_toArray, List.set_cons_zero, List.set_cons_succ]
    refine wpAnyH_take (i := 14) (oi := _) (v := ?v14) rfl (by kernel_rfl) (by kernel_rfl) (by kernel_rfl) (fun _ _ _ h => h) (Or.inl ⟨by kernel_rfl, ?vy14⟩) (by assumption) ?vr14
    case vy14 => (intro w hSw; (try dsimp only at hSw); go_simp <;> with_reducible rfl)
    try simp only [Act.put, List.getElem_toArray, List.getElem_cons_zero, List.getElem_cons_succ, List.setIfInBounds_toArray, List.set_cons_zero, List.set_cons_succ]
    refine wpAnyH_take (i := 15) (oi := _) (v := ?v15) rfl (by kernel_rfl) (by kernel_rfl) (by kernel_rfl) (fun _ _ _ h => h) (Or.inl ⟨by kernel_rfl, ?vy15⟩) (by assumption) ?vr15
    case vy15 => (intro w hSw; (try dsimp only at hSw); go_simp <;> with_reducible rfl)
    try simp only [Act.put, List.getElem_toArray, List.getElem_cons_zero, List.getElem_cons_succ, List.setIfInBounds_toArray, List.set_cons_zero, List.set_cons_succ]
    refine wpAnyH_take (i := 16) (oi := _) (v := ?v16) rfl (by kernel_rfl) (by kernel_rfl) (by kernel_rfl) (fun _ _ _ h => h) (Or.inl ⟨by kernel_rfl, ?vy16⟩) (by assumption) ?vr16
    case vy16 => (intro w hSw; (try dsimp only at hSw); go_simp <;> with_reducible rfl)
    try simp only [Act.put, List.getElem_toArray, List.getElem_cons_zero, List.getElem_cons_succ, List.setIfInBounds_toArray, List.set_cons_zero, List.set_cons_succ]
    refine wpAnyH_take (i := 17) (oi := _) (v := ?v17) rfl (by kernel_rfl) (by kernel_rfl) (by kernel_rfl) (fun _ _ _ h => h) (Or.inl ⟨by kernel_rfl, ?vy17⟩) (by assumption) ?vr17
    case vy17 => (intro w hSw; (try dsimp only at hSw); go_simp <;> with_reducible rfl)
    try simp only [Act.put, List.getElem_toArray, List.getElem_cons_zero, List.getElem_cons_succ, List.setIfInBounds_toArray, List.set_cons_zero, List.set_cons_succ]
    refine wpAnyH_take (i := 18) (oi := _) (v := ?v18) rfl (by kernel_rfl) (by kernel_rfl) (by kernel_rfl) (fun _ _ _ h => h) (Or.inl ⟨by kernel_rfl, ?vy18⟩) (by assumption) ?vr18
    case vy18 => (intro w hSw; (try dsimp only at hSw); go_simp <;> with_reducible rfl)
    try simp only [Act.put, List.getElem_toArray, List.getElem_cons_zero, List.getElem_cons_succ, List.setIfInBounds_toArray, List.set_cons_zero, List.set_cons_succ]
    refine wpAnyH_take (i := 19) (oi := _) (v := ?v19) rfl (by kernel_rfl) (by kernel_rfl) (by kernel_rfl) (fun _ _ _ h => h) (Or.inl ⟨by kernel_rfl, ?vy19⟩) (by assumption) ?vr19
    case vy19 => (intro w hSw; (try dsimp only at hSw); go_simp <;> with_reducible rfl)
    try simp only [Act.put, List.getElem_toArray, List.getElem_cons_zero, List.getElem_cons_succ, List.setIfInBounds_toArray, List.set_cons_zero, List.set_cons_succ]
    refine wpAnyH_take (i := 20) (oi := _) (v := ?v20) rfl (by kernel_rfl) (by kernel_rfl) (by kernel_rfl) (fun _ _ _ h => h) (Or.inl ⟨by kernel_rfl, ?vy20⟩) (by assumption) ?vr20
    case vy20 => (intro w hSw; (try dsimp only at hSw); go_simp <;> with_reducible rfl)
    try simp only [Act.put, List.getElem_toArray, List.getElem_cons_zero, List.getElem_cons_succ, List.setIfInBounds_toArray, List.set_cons_zero, List.set_cons_succ]
    refine wpAnyH_take (i := 22) (oi := _) (v := ?v22) rfl (by kernel_rfl) (by kernel_rfl) (by kernel_rfl) (fun _ _ _ h => h) (Or.inl ⟨by kernel_rfl, ?vy22⟩) (by assumption) ?vr22
    case vy22 => (intro w hSw; (try dsimp only at hSw); go_simp <;> with_reducible rfl)
    try simp only [Act.put, List.getElem_toArray, List.getElem_cons_zero, List.getElem_cons_succ, List.setIfInBounds_toArray, List.set_cons_zero, List.set_cons_succ]
    refine wpAnyH_ready (rs := [21]) (by kernel_rfl) (by simp) ?_
    refine AllReadyH.cons (o := _) rfl (fun K hK => ?_) AllReadyH.nil
    have HB : Hid (Below W5.heap.size W5 _) := hHeld8.2.2.2.2.2.2.2.2.2
    go_simp
    go_at_call 12
    refine (ref_any x s2 _).mono ?_
    rintro e W21 ⟨rfl, hb21⟩
    have HB21 := Lib.hid (HB.out.trans (hb21.mono HB.out.size))
    clear HB hb21
    refine hK.out _ _ ?_ (fun hHeld21 => ?_)
    · exact HS.out _ HB21.out
    clear hK K hHeld8
    try simp only [Act.put, List.getElem_toArray, List.getElem_cons_zero, List.getElem_cons_succ, List.setIfInBounds_toArray, List.set_cons_zero, List.set_cons_succ]
    refine wpAnyH_ready (rs := [23]) (by kernel_rfl) (by simp) ?_
    refine AllReadyH.cons (o := _) rfl (fun K hK => ?_) AllReadyH.nil
    have HB : Hid (Below W5.heap.size W5 _) := hHeld21.2.2.2.2.2.2.2.2.2
    go_simp
    go_at_call 12
    refine (ref_any x s _).mono ?_
    rintro e W23 ⟨rfl, hb23⟩
    have HB23 := Lib.hid (HB.out.trans (hb23.mono HB.out.size))
    clear HB hb23
    refine hK.out _ _ ?_ (fun hHeld23 => ?_)
    · exact HS.out _ HB23.out
    clear hK K hHeld21
    try simp only [Act.put, List.getElem_toArray, List.getElem_cons_zero, List.getElem_cons_succ, List.setIfInBounds_toArray, List.set_cons_zero, List.set_cons_succ]
    refine wpAnyH_ready (rs := [24]) (by kernel_rfl) (by simp) ?_
    refine AllReadyH.cons (o := _) rfl (fun K hK => ?_) AllReadyH.nil
    have HB : Hid (Below W5.heap.size W5 _) := hHeld23.2.2.2.2.2.2.2.2.2
    go_simp
    go_at_call 15
    refine (same_any x s2 s _ (HG.out _ HB.out).1 (HG.out _ HB.out).2.1).mono ?_
    rintro e W24 ⟨rfl, hb24⟩
    have HB24 := Lib.hid (HB.out.trans (hb24.mono HB.out.size))
    clear HB hb24
    refine hK.out _ _ ?_ (fun hHeld24 => ?_)
    · exact HS.out _ HB24.out
    clear hK K hHeld23
    try simp only [Act.put, List.getElem_toArray, List.getElem_cons_zero, List.getElem_cons_succ, List.setIfInBounds_toArray, List.set_cons_zero, List.set_cons_succ]
    refine wpAnyH_take (i := 25) (oi := _) (v := ?v25) rfl (by kernel_rfl) (by kernel_rfl) (by kernel_rfl) (fun _ _ _ h => h) (Or.inl ⟨by kernel_rfl, ?vy25⟩) (by assumption) ?vr25
    case vy25 => (intro w hSw; (try dsimp only at hSw); go_simp <;> with_reducible rfl)
    try simp only [Act.put, List.getElem_toArray, List.getElem_cons_zero, List.getElem_cons_succ, List.setIfInBounds_toArray, List.set_cons_zero, List.set_cons_succ]
    refine wpAnyH_take (i := 26) (oi := _) (v := ?v26) rfl (by kernel_rfl) (by kernel_rfl) (by kernel_rfl) (fun _ _ _ h => h) (Or.inl ⟨by kernel_rfl, ?vy26⟩) (by assumption) ?vr26
    case vy26 => (intro w hSw; (try dsimp only at hSw); go_simp <;> with_reducible rfl)
    try simp only [Act.put, List.getElem_toArray, List.getElem_cons_zero, List.getElem_cons_succ, List.setIfInBounds_toArray, List.set_cons_zero, List.set_cons_succ]
    refine wpAnyH_ready (rs := [27]) (by kernel_rfl) (by simp) ?_
    refine AllReadyH.cons (o := _) rfl (fun K hK => ?_) AllReadyH.nil
    have HB : Hid (Below W5.heap.size W5 _) := hHeld24.2.2.2.2.2.2.2.2.2
    go_simp
    go_at_call 9
    refine (three_any _).mono ?_
    rintro e W27 ⟨rfl, hb27⟩
    have HB27 := Lib.hid (HB.out.trans (hb27.mono HB.out.size))
    clear HB hb27
    refine hK.out _ _ ?_ (fun hHeld27 => ?_)
    · exact HS.out _ HB27.out
    clear hK K hHeld24
    try simp only [Act.put, List.getElem_toArray, List.getElem_cons_zero, List.getElem_cons_succ, List.setIfInBounds_toArray, List.set_cons_zero, List.set_cons_succ]
    refine wpAnyH_take (i := 28) (oi := _) (v := ?v28) rfl (by kernel_rfl) (by kernel_rfl) (by kernel_rfl) (fun _ _ _ h => h) (Or.inl ⟨by kernel_rfl, ?vy28⟩) (by assumption) ?vr28
    case vy28 => (intro w hSw; (try dsimp only at hSw); go_simp <;> with_reducible rfl)
    try simp only [Act.put, List.getElem_toArray, List.getElem_cons_zero, List.getElem_cons_succ, List.setIfInBounds_toArray, List.set_cons_zero, List.set_cons_succ]
    refine wpAnyH_take (i := 29) (oi := _) (v := ?v29) rfl (by kernel_rfl) (by kernel_rfl) (by kernel_rfl) (fun _ _ _ h => h) (Or.inl ⟨by kernel_rfl, ?vy29⟩) (by assumption) ?vr29
    case vy29 => (intro w hSw; (try dsimp only at hSw); go_simp <;> with_reducible rfl)
    try simp only [Act.put, List.getElem_toArray, List.getElem_cons_zero, List.getElem_cons_succ, List.setIfInBounds_toArray, List.set_cons_zero, List.set_cons_succ]
    refine wpAnyH_done (by kernel_rfl) ?_ _
    have hbe := HB0.out.trans ((HB5.out.trans (HB27.out.mono HB5.out.size)).mono HB0.out.size)
    go_wp2_with fail
    go_ret
    exact ⟨rfl, hbe⟩
  · have HE := Lib.hid (encode_bad x s _ HAT.out hw)
    have hne : (wrong x == 0) = false := beq_false_of_ne hw
    have HW : Hid (∀ v, Below (w.alloc (.cells #[.int .i64 x.n, .slice s.sa x.specs.length s.sc, .slice s.ca x.calls.length s.cc, .slice s.pa x.picks.length s.pc] 26)).heap.size (w.alloc (.cells #[.int .i64 x.n, .slice s.sa x.specs.length s.sc, .slice s.ca x.calls.length s.cc, .slice s.pa x.picks.length s.pc] 26)) v → Calls Try.prog 11 #[scV x s] v fun e w' => e = .returned (.int .i64 (wrong x)) ∧ Below v.heap.size v w') := Lib.hid (fun v hv => refWrong_any x s v (HST.out v hv))
    generalize wrong x = e0 at HE HW hne
    have hee : (e0 == e0) = true := beq_iff_eq.2 rfl
    clear hw
    go_enter Try.func3, Try.ntmps3
    go_wp2_with fail
    generalize w.alloc (.cells #[.int .i64 x.n, .slice s.sa x.specs.length s.sc, .slice s.ca x.calls.length s.cc, .slice s.pa x.picks.length s.pc] 26) = W0 at HN0 HB0 HF HST HE HW hlt0 ⊢
    refine HE.out.mono ?_
    rintro e W1 ⟨rfl, hb1⟩
    have HB1 := Lib.hid hb1
    obtain ⟨p0, p1, p2, p3⟩ := HF.out W1 HB1.out
    clear hb1
    go_wp2_with fail
    refine (ref_any x s _).mono ?_
    rintro e W2 ⟨rfl, hb2⟩
    have HB2 := Lib.hid (HB1.out.trans (hb2.mono HB1.out.size))
    clear hb2 p0 p1 p2 p3
    go_wp2_with fail
    refine (HW.out W2 HB2.out).mono ?_
    rintro e W3 ⟨rfl, hb3⟩
    have HB3 := Lib.hid (HB2.out.trans (hb3.mono HB2.out.size))
    have HW3 : Hid (Below w.heap.size w W3) := Lib.hid (HB0.out.trans (HB3.out.mono HB0.out.size))
    clear hb3
    go_wp2_with fail
    refine (three_any _).mono ?_
    rintro e W4 ⟨rfl, hb4⟩
    have hb5 := HW3.out.trans (hb4.mono HW3.out.size)
    go_wp2_with fail
    go_ret
    exact ⟨rfl, hb5⟩
end Go.Proofs.Yticaheiomidanaa
