/- Walk of the law LoomRows. -/
import Derived.Test.YtjbadkfnpgchdaaO6
import Derived.Test.YtjbadkfnpgchdaaQF
import Derived.Test.YtjbadkfnpgchdaaZG
namespace Go.Proofs.Ytjbadkfnpgchdaa
open Go.RowKit
set_option linter.unusedVariables false
def addCs : List CallV := [⟨0, 0, 3, 0, 5, 0⟩, ⟨1, 0, 3, 0, 7, 0⟩]
/-- two threads that add to a cell -/

theorem adds_end : repOf (endM (M := cellsM 1) addCs [0] () [1, 0, 1]) = ⟨[⟨1, 1, 1, 1, ⟨0, 0, []⟩, [2]⟩, ⟨0, 2, 2, 1, ⟨0, 7, []⟩, [4]⟩], [12], ⟨0, 0, 0, 2, 0⟩, 2, 1⟩ := by rfl
set_option maxRecDepth 100000 in
set_option maxHeartbeats 2000000 in
theorem adds_any (w : World) : Calls Try.prog 10 #[] w fun e w' => e = .returned (.bool true) ∧ Below w.heap.size w w' := by
  go_enter Try.func10, Try.ntmps10
  go_wp2_with fail
  generalize hw2 : (w.alloc (.cells #[.int .i64 0, .int .i64 0, .int .i64 3, .int .u64 0, .int .u64 5, .int .u64 0, .int .i64 1, .int .i64 0, .int .i64 3, .int .u64 0, .int .u64 7, .int .u64 0] 57)).alloc (.cells #[.int .i64 1, .int .i64 0, .int .i64 1] 3) = w2
  have HB0 : Hid (Below w.heap.size w w2) := Lib.hid (by rw [← hw2]; exact ((Below.refl _ _).alloc (Nat.le_refl _) _).alloc (by simp) _)
  have hsz : w2.heap.size = w.heap.size + 2 := by rw [← hw2]; simp
  have hc : CallsAt w2 w.heap.size 0 addCs := by
    have e : ∀ k, w2.cell? ⟨w.heap.size, k, none⟩ = (#[.int .i64 0, .int .i64 0, .int .i64 3, .int .u64 0, .int .u64 5, .int .u64 0, .int .i64 1, .int .i64 0, .int .i64 3, .int .u64 0, .int .u64 7, .int .u64 0] : Array Value)[k]? := fun k => by
      rw [← hw2, World.cell?_alloc_past _ _ _ (by simp), World.cell?_alloc_at _ _ _ _ rfl]
    intro i x hx
    match i, hx with
    | 0, hx => cases hx; refine ⟨e _, e _, e _, e _, e _, e _, ?_⟩; decide
    | 1, hx => cases hx; refine ⟨e _, e _, e _, e _, e _, e _, ?_⟩; decide
    | i + 2, hx => simp [addCs] at hx
  have hp : ICells w2 (w.heap.size + 1) 0 [1, 0, 1] := by
    have e : ∀ k, w2.cell? ⟨w.heap.size + 1, k, none⟩ = (#[.int .i64 1, .int .i64 0, .int .i64 1] : Array Value)[k]? := fun k => by
      rw [← hw2, World.cell?_alloc_at _ _ _ _ (by simp)]
    intro i x hx
    match i, hx with
    | 0, hx => cases hx; exact ⟨e _, by decide⟩
    | 1, hx => cases hx; exact ⟨e _, by decide⟩
    | 2, hx => cases hx; exact ⟨e _, by decide⟩
    | i + 3, hx => simp at hx
  have HG := Lib.hid (cells_play 2 1 1 0 (some ⟨w.heap.size, 0, none⟩) w.heap.size 0 2 addCs (some ⟨w.heap.size + 1, 0, none⟩) (w.heap.size + 1) 0 3 [1, 0, 1] w2 (fun _ => rfl) (fun _ => by omega) hc (fun h => by cases h) (fun _ => rfl) (fun _ => by omega) hp (by decide) (cellsSizeC 1 2) (fun _ => ⟨notFilled _, cellsPlaceC 1 addCs 2 (by omega), by omega, by omega⟩))
  clear hw2 hc hp
  refine (show Calls Try.prog 11 #[.int .i64 2, .int .i64 1, .slice (some ⟨w.heap.size, 0, none⟩) 2 2, .slice (some ⟨w.heap.size + 1, 0, none⟩) 3 3] w2 (PlayG (cellsM 1) 2 0 addCs [0] () [1, 0, 1] w2) from HG.out).mono ?_
  rintro e w3 hP
  obtain ⟨aoE, gE, capE, gw, rfl, hao, hev, hrw, _, hb3⟩ := hP.good (by decide)
  rw [adds_end] at hao hev hrw ⊢
  obtain rfl := hao (by decide)
  have z := hb3.size
  have HB3 : Hid (Below w.heap.size w w3) := Lib.hid (HB0.out.trans (hb3.mono (by omega)))
  obtain ⟨_, la0, ka0, lc0, kc0, v0⟩ := hev 0 _ rfl
  obtain ⟨_, la1, ka1, lc1, kc1, v1⟩ := hev 1 _ rfl
  have r0 : w3.cell? ⟨gE, 0, none⟩ = some (.int .i64 1) := v0.c0
  have r5 : w3.cell? ⟨gE, 5, none⟩ = some (.int .u64 0) := v0.c5
  have r13 : w3.cell? ⟨gE, 13, none⟩ = some (.int .u64 7) := v1.c5
  have rw0 : w3.cell? ⟨gw, 0, none⟩ = some (.int .u64 12) := hrw.cell rfl
  have l1 := World.block_lt_of_cell? w3 ⟨gE, 0, none⟩ r0
  have l2 := hrw.lt
  clear hao hev hrw hb3 v0 v1 HG hP
  unfold repVs
  go_wp2_with fail
  go_ret
  exact ⟨rfl, HB3.out.alloc (by omega) _⟩


section
variable {M : Mach}
theorem key_plain (hkey : ∀ (s : M.S) (q : M.Q), M.key s q = []) (cs : List CallV) (ws : List Nat) (s : M.S) (picks : List Int) : ∀ v ∈ (endM (M := M) cs ws s picks).evs, ¬ v.resp = 0 → v.key = [2 * v.resp] := by
  have hk : ∀ (s : M.S) (q : M.Q ⊕ Nat), keyQ s q = [] := fun s q => by
    cases q with
    | inl q => exact hkey s q
    | inr e => rfl
  refine endM_keeps (R := fun st : St M => ∀ v ∈ st.evs, ¬ v.resp = 0 → v.key = [2 * v.resp]) ws s (fun v hv => by simp [stM] at hv) (fun st h => h) (fun st i x p h _ _ _ v hv => ?_) (fun st i p e v h _ _ _ hv hr _ ht u hu => ?_) picks
  · rcases turn_evs hv with hv | rfl
    · exact h v hv
    · exact fun hr => absurd rfl hr
  · rw [step_evs] at hu
    rcases set_mem hu (List.getElem?_eq_some_iff.1 hv).1 with rfl | hu
    · intro hur
      cases ha : (stepQ st.s v.q st.ws st.cn st.ticks).ans with
      | none => rw [midEv_more ha] at hur; exact absurd hr hur
      | some an =>
        rw [midEv_done ha]
        show keyOr (keyQ _ _) st.ticks = [2 * st.ticks]
        rw [hk]; rfl
    · exact h u hu
theorem keysIn_plain (hkey : ∀ (s : M.S) (q : M.Q), M.key s q = []) (cs : List CallV) (ws : List Nat) (s : M.S) (picks : List Int) : KeysIn (endM (M := M) cs ws s picks) := fun v hv => by
  have h1 := key_plain hkey cs ws s picks v hv
  have h2 := (rowI_end (M := M) cs ws s picks).call v hv
  refine ⟨fun hr => ?_, fun _ => .inl ?_⟩
  · have h3 := h2.2.2.2.2.2 hr
    exact ⟨2 * v.resp, [], h1 hr, by omega, by omega⟩
  · cases hq : v.q with
    | inl q => exact hkey _ q
    | inr e => rfl
end

def longB6 (cl pl : Nat) : Prop := (60 < cl ∧ cl ≤ 1000) ∨ (600 < pl ∧ pl ≤ 65536) ∨ 1100 < cl
set_option maxRecDepth 20000 in
theorem lrows_long (q0 q1 : Int) (ao ao3 : Option Addr) (cl cap pl cap3 : Nat) (w : World) (hp : pl ≤ 9223372036854775807) (h : longB6 cl pl) :
    Calls Try.prog 3 #[.agg #[.int .i64 q0, .int .i64 q1], .slice ao cl cap, .slice ao3 pl cap3] w fun e w' => e = .returned (.bool true) ∧ Below w.heap.size w w' := by
  have H := Lib.hid h
  clear h
  go_enter Try.func3, Try.ntmps3
  go_wp2_with fail
  refine (many_yes _ _ _ _ _ _ _ hp H.out).mono ?_
  rintro e w1 ⟨rfl, rfl⟩
  go_wp2_with fail
  refine (adds_any _).mono ?_
  rintro e w2 ⟨rfl, hb⟩
  have HB : Hid (Below w.heap.size w w2) := Lib.hid (((Below.refl _ _).alloc (Nat.le_refl _) _).trans (hb.mono (by simp)))
  clear hb
  go_wp2_with fail
  go_ret
  exact ⟨rfl, HB.out⟩

set_option maxRecDepth 100000 in
set_option maxHeartbeats 2000000 in
theorem lrows_bad (q0 q1 : Int) (ao : Option Addr) (b o cap : Nat) (cs : List CallV) (ao3 : Option Addr) (b3 o3 cap3 : Nat) (picks : List Int) (w : World) (hl : ¬ longB6 cs.length picks.length) (ha : 0 < cs.length → ao = some ⟨b, o, none⟩) (hb : 0 < cs.length → b < w.heap.size) (hc : CallsAt w b o cs) (hcap : ao = none → cap = 0)
    (ha3 : 0 < picks.length → ao3 = some ⟨b3, o3, none⟩) (hb3 : 0 < picks.length → b3 < w.heap.size) (hc3 : ICells w b3 o3 picks) (hnp : picks.length ≤ 9223372036854775807) (he : playErr q0 cs picks.length (cellsEr q1) ≠ 0) :
    Calls Try.prog 3 #[.agg #[.int .i64 q0, .int .i64 q1], .slice ao cs.length cap, .slice ao3 picks.length cap3] w fun e w' => e = .returned (.bool true) ∧ Below w.heap.size w w' := by
  have hw1 : Below w.heap.size w (w.alloc (.cells #[.int .i64 q0, .int .i64 q1] 22)) := (Below.refl _ _).alloc (Nat.le_refl _) _
  obtain ⟨sz, _, hP⟩ := cells_any q0 q1 ao b o cap cs ao3 b3 o3 cap3 picks (w.alloc (.cells #[.int .i64 q0, .int .i64 q1] 22)) ha (fun h => by have := hb h; simp; omega) (hc.stays hw1 hb) hcap ha3 (fun h => by have := hb3 h; simp; omega) (hc3.stays hw1 hb3) hnp
  have HP := Lib.hid hP
  have HE := Lib.hid he
  have HL := Lib.hid hl
  have hne : ¬ ((playErr q0 cs picks.length (cellsEr q1) : Nat) : Int) = 0 := by omega
  clear ha hb hc hcap ha3 hb3 hc3 he hl hP
  go_enter Try.func3, Try.ntmps3
  go_wp2_with fail
  refine (many_no _ _ _ _ _ _ _ hnp HL.out).mono ?_
  rintro e w1 ⟨rfl, rfl⟩
  go_wp2_with fail
  refine HP.out.mono ?_
  rintro e w2 hP
  obtain ⟨rfl, hb2⟩ := hP.bad HE.out
  have HB2 : Hid (Below w.heap.size w w2) := Lib.hid (hw1.trans (hb2.mono (by simp)))
  clear hP hb2 HP hw1
  generalize playErr q0 cs picks.length (cellsEr q1) = er at *
  unfold zeroRep zeroVs
  go_wp2_with fail
  have hnz := none_zero (w2.alloc (.cells #[.slice none 0 0, .slice none 0 0, .int .i64 0, .int .i64 0, .int .i64 0, .int .i64 0, .int .i64 0, .int .i64 0, .int .i64 0] 32))
  unfold zeroRep zeroVs at hnz
  refine hnz.mono ?_
  rintro e w3 ⟨rfl, hb3⟩
  have z2 := HB2.out.size
  have HB3 : Hid (Below w.heap.size w w3) := Lib.hid ((HB2.out.alloc z2 _).trans (hb3.mono (by simp; omega)))
  clear hb3 hnz
  go_wp2_with fail
  refine (adds_any _).mono ?_
  rintro e w4 ⟨rfl, hb4⟩
  have HB4 : Hid (Below w.heap.size w w4) := Lib.hid (HB3.out.trans (hb4.mono HB3.out.size))
  clear hb4
  go_wp2_with fail
  go_ret
  exact ⟨rfl, HB4.out⟩

set_option maxRecDepth 100000 in
set_option maxHeartbeats 2000000 in
theorem lrows_good (k : Nat) (q1 : Int) (ao : Option Addr) (b o cap : Nat) (cs : List CallV) (ao3 : Option Addr) (b3 o3 cap3 : Nat) (picks : List Int) (w : World) (hl : ¬ longB6 cs.length picks.length) (ha : 0 < cs.length → ao = some ⟨b, o, none⟩) (hb : 0 < cs.length → b < w.heap.size) (hc : CallsAt w b o cs) (hcap : ao = none → cap = 0)
    (ha3 : 0 < picks.length → ao3 = some ⟨b3, o3, none⟩) (hb3 : 0 < picks.length → b3 < w.heap.size) (hc3 : ICells w b3 o3 picks) (hnp : picks.length ≤ 9223372036854775807) (he : playErr (k : Int) cs picks.length (cellsEr q1) = 0) :
    Calls Try.prog 3 #[.agg #[.int .i64 (k : Int), .int .i64 q1], .slice ao cs.length cap, .slice ao3 picks.length cap3] w fun e w' => e = .returned (.bool true) ∧ Below w.heap.size w w' := by
  have hw1 : Below w.heap.size w (w.alloc (.cells #[.int .i64 (k : Int), .int .i64 q1] 22)) := (Below.refl _ _).alloc (Nat.le_refl _) _
  obtain ⟨sz, _, hP⟩ := cells_any (k : Int) q1 ao b o cap cs ao3 b3 o3 cap3 picks (w.alloc (.cells #[.int .i64 (k : Int), .int .i64 q1] 22)) ha (fun h => by have := hb h; simp; omega) (hc.stays hw1 hb) hcap ha3 (fun h => by have := hb3 h; simp; omega) (hc3.stays hw1 hb3) hnp
  have HP := Lib.hid hP
  have HE := Lib.hid he
  have HL := Lib.hid hl
  have HA := Lib.hid ha
  have HB := Lib.hid hb
  have HC := Lib.hid hc
  obtain ⟨k', hk', hk1, hth, hpl, hcl, _⟩ := play_threads he
  have hkk : k' = k := by omega
  subst hkk
  have hevs := endM_evs (M := cellsM sz) cs (List.replicate sz 0) () picks
  have hrows : RowsOk cs k' (repOf (endM (M := cellsM sz) cs (List.replicate sz 0) () picks)) := rows_ok (rowI_end cs _ _ picks) hth hk1 (keysIn_plain (fun _ _ => rfl) cs _ _ picks) (endM_cn _ _ _ _) (by omega)
  obtain ⟨R, hR⟩ : ∃ R, repOf (endM (M := cellsM sz) cs (List.replicate sz 0) () picks) = R := ⟨_, rfl⟩
  have hti : R.ticks + R.idle = picks.length := by rw [← hR]; exact hevs.2
  have hel : R.evs.length ≤ 70000 := by
    rw [← hR]
    show ((endM (M := cellsM sz) cs (List.replicate sz 0) () picks).evs.map _).length ≤ _
    rw [List.length_map]; omega
  rw [hR] at hrows
  have HRO := Lib.hid hrows
  have HRR := Lib.hid hR
  have HW1 := Lib.hid hw1
  clear ha hb hc hcap ha3 hb3 hc3 he hl hP hR hrows hevs hth hk' hw1
  go_enter Try.func3, Try.ntmps3
  go_wp2_with fail
  refine (many_no _ _ _ _ _ _ _ hnp HL.out).mono ?_
  rintro e w1 ⟨rfl, rfl⟩
  go_wp2_with fail
  refine HP.out.mono ?_
  rintro e w2 hP
  have hG := hP.good HE.out
  rw [HRR.out] at hG
  obtain ⟨aoE, gE, capE, gw, rfl, hao, hev, hrw, hgw, hb2⟩ := hG
  have HB2 : Hid (Below w.heap.size w w2) := Lib.hid (HW1.out.trans (hb2.mono (by simp)))
  have kk0 : w2.cell? ⟨w.heap.size, 0, none⟩ = some (.int .i64 (k' : Int)) := (hb2.cell (p := ⟨w.heap.size, 0, none⟩) (by show w.heap.size < _; simp)).trans (by rw [World.cell?_alloc_at _ _ _ _ rfl]; rfl)
  have HAO := Lib.hid hao
  have HEV := Lib.hid hev
  have z2 := HB2.out.size
  have zw2 : w.heap.size < w2.heap.size := World.block_lt_of_cell? w2 ⟨w.heap.size, 0, none⟩ kk0
  clear hP hb2 hev hrw hao HP
  unfold repVs
  go_wp2_with fail
  have hRW := rows_yes cs k' R aoE gE capE gw ao b o cap (w.alloc (.cells #[.int .i64 (k' : Int), .int .i64 q1] 22)).heap.size (w2.alloc (.cells (repVs (.slice aoE R.evs.length capE) gw R).toArray 32)) HRO.out HAO.out (HEV.out.below ((Below.refl _ _).alloc (Nat.le_refl _) _) (Nat.le_refl _)) (HC.out.stays (HB2.out.alloc z2 _) HB.out) HA.out (by omega) hel
  refine hRW.mono ?_
  rintro e w3 ⟨rfl, hb3⟩
  have HB3 : Hid (Below w.heap.size w w3) := Lib.hid ((HB2.out.alloc z2 _).trans (hb3.mono (by simp; omega)))
  have hre : RowBlk 32 w3 w2.heap.size (repVs (.slice aoE R.evs.length capE) gw R) := (RowBlk.new w2 _ _).same (hb3.block _ (by simp))
  have t7 : w3.cell? ⟨w2.heap.size, 7, none⟩ = some (.int .i64 (R.ticks : Int)) := hre.cell rfl
  have t8 : w3.cell? ⟨w2.heap.size, 8, none⟩ = some (.int .i64 (R.idle : Int)) := hre.cell rfl
  have hsum : (R.ticks : Int) + (R.idle : Int) = (picks.length : Int) := by omega
  have ht1 : R.ticks ≤ 70000 := by omega
  have ht2 : R.idle ≤ 70000 := by omega
  clear hb3 hre hRW kk0
  go_wp2_with fail
  refine (adds_any _).mono ?_
  rintro e w4 ⟨rfl, hb4⟩
  have HB4 : Hid (Below w.heap.size w w4) := Lib.hid (HB3.out.trans (hb4.mono HB3.out.size))
  clear hb4
  go_wp2_with fail
  go_ret
  exact ⟨rfl, HB4.out⟩

theorem lrows_all (q0 q1 : Int) (ao : Option Addr) (b o cap : Nat) (cs : List CallV) (ao3 : Option Addr) (b3 o3 cap3 : Nat) (picks : List Int) (w : World) (ha : 0 < cs.length → ao = some ⟨b, o, none⟩) (hb : 0 < cs.length → b < w.heap.size) (hc : CallsAt w b o cs) (hcap : ao = none → cap = 0)
    (ha3 : 0 < picks.length → ao3 = some ⟨b3, o3, none⟩) (hb3 : 0 < picks.length → b3 < w.heap.size) (hc3 : ICells w b3 o3 picks) (hnp : picks.length ≤ 9223372036854775807) :
    Calls Try.prog 3 #[.agg #[.int .i64 q0, .int .i64 q1], .slice ao cs.length cap, .slice ao3 picks.length cap3] w fun e w' => e = .returned (.bool true) ∧ Below w.heap.size w w' := by
  by_cases hl : longB6 cs.length picks.length
  · exact lrows_long q0 q1 ao ao3 cs.length cap picks.length cap3 w hnp hl
  · by_cases he : playErr q0 cs picks.length (cellsEr q1) = 0
    · obtain ⟨k, rfl, _⟩ := play_threads he
      exact lrows_good k q1 ao b o cap cs ao3 b3 o3 cap3 picks w hl ha hb hc hcap ha3 hb3 hc3 hnp he
    · exact lrows_bad q0 q1 ao b o cap cs ao3 b3 o3 cap3 picks w hl ha hb hc hcap ha3 hb3 hc3 hnp he
end Go.Proofs.Ytjbadkfnpgchdaa
