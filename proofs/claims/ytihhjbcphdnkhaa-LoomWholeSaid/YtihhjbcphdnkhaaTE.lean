/- Walk of the law LoomWhole. -/
import Derived.Test.YtihhjbcphdnkhaaTD
import Derived.Test.YtihhjbcphdnkhaaQF
import Derived.Test.YtihhjbcphdnkhaaQI
namespace Go.Proofs.Ytihhjbcphdnkhaa
open Go.RowKit
set_option linter.unusedVariables false
set_option linter.unusedSimpArgs false
def addCs : List CallV := [⟨0, 0, 3, 0, 5, 0⟩, ⟨1, 0, 3, 0, 7, 0⟩]
/-- two threads that add to a cell -/

theorem adds_end : repOf (endM (M := cellsM 1) addCs [0] () [1, 0, 1]) = ⟨[⟨1, 1, 1, 1, ⟨0, 0, []⟩, [2]⟩, ⟨0, 2, 2, 1, ⟨0, 7, []⟩, [4]⟩], [12], ⟨0, 0, 0, 2, 0⟩, 2, 1⟩ := by rfl
set_option maxRecDepth 100000 in
set_option maxHeartbeats 2000000 in
theorem adds_any (w : World) : Calls Try.prog 5 #[] w fun e w' => e = .returned (.bool true) ∧ Below w.heap.size w w' := by
  go_enter Try.func5, Try.ntmps5
  go_wp2_with fail
  generalize hw2 : (w.alloc (.cells #[.int .i64 0, .int .i64 0, .int .i64 3, .int .u64 0, .int .u64 5, .int .u64 0, .int .i64 1, .int .i64 0, .int .i64 3, .int .u64 0, .int .u64 7, .int .u64 0] 55)).alloc (.cells #[.int .i64 1, .int .i64 0, .int .i64 1] 3) = w2
  have HB0 : Hid (Below w.heap.size w w2) := Lib.hid (by rw [← hw2]; exact ((Below.refl _ _).alloc (Nat.le_refl _) _).alloc (by simp) _)
  have hsz : w2.heap.size = w.heap.size + 2 := by rw [← hw2]; simp
  have hc : CallsAt w2 w.heap.size 0 addCs := by
    have e : ∀ k, w2.cell? ⟨w.heap.size, k, none⟩ = (#[.int .i64 0, .int .i64 0, .int .i64 3, .int .u64 0, .int .u64 5, .int .u64 0, .int .i64 1, .int .i64 0, .int .i64 3, .int .u64 0, .int .u64 7, .int .u64 0] : Array Value)[k]? := fun k => by
      rw [← hw2, World.cell?_alloc_past _ _ _ (by simp), World.cell?_alloc_at _ _ _ _ rfl]
    intro i x hx
    match i, hx with
    | 0, hx => cases hx; refine ⟨e _, e _, e _, e _, e _, e _, ?_⟩; decide
    | 1, hx => cases hx; refine ⟨e _, e _, e _, e _, e _, e _, ?_⟩; decide
    | i + 2, hx => simp [addCs] at hx
  have hp : ICells w2 (w.heap.size + 1) 0 [1, 0, 1] := by
    have e : ∀ k, w2.cell? ⟨w.heap.size + 1, k, none⟩ = (#[.int .i64 1, .int .i64 0, .int .i64 1] : Array Value)[k]? := fun k => by
      rw [← hw2, World.cell?_alloc_at _ _ _ _ (by simp)]
    intro i x hx
    match i, hx with
    | 0, hx => cases hx; exact ⟨e _, by decide⟩
    | 1, hx => cases hx; exact ⟨e _, by decide⟩
    | 2, hx => cases hx; exact ⟨e _, by decide⟩
    | i + 3, hx => simp at hx
  have HG := Lib.hid (cells_play 2 1 1 0 (some ⟨w.heap.size, 0, none⟩) w.heap.size 0 2 addCs (some ⟨w.heap.size + 1, 0, none⟩) (w.heap.size + 1) 0 3 [1, 0, 1] w2 (fun _ => rfl) (fun _ => by omega) hc (fun h => by cases h) (fun _ => rfl) (fun _ => by omega) hp (by decide) (cellsSizeC 1 2) (fun _ => ⟨notFilled _, cellsPlaceC 1 addCs 2 (by omega), by omega, by omega⟩))
  clear hw2 hc hp
  refine (show Calls Try.prog 6 #[.int .i64 2, .int .i64 1, .slice (some ⟨w.heap.size, 0, none⟩) 2 2, .slice (some ⟨w.heap.size + 1, 0, none⟩) 3 3] w2 (PlayG (cellsM 1) 2 0 addCs [0] () [1, 0, 1] w2) from HG.out).mono ?_
  rintro e w3 hP
  obtain ⟨aoE, gE, capE, gw, rfl, hao, hev, hrw, _, hb3⟩ := hP.good (by decide)
  rw [adds_end] at hao hev hrw ⊢
  obtain rfl := hao (by decide)
  have z := hb3.size
  have HB3 : Hid (Below w.heap.size w w3) := Lib.hid (HB0.out.trans (hb3.mono (by omega)))
  obtain ⟨_, la0, ka0, lc0, kc0, v0⟩ := hev 0 _ rfl
  obtain ⟨_, la1, ka1, lc1, kc1, v1⟩ := hev 1 _ rfl
  have r0 : w3.cell? ⟨gE, 0, none⟩ = some (.int .i64 1) := v0.c0
  have r5 : w3.cell? ⟨gE, 5, none⟩ = some (.int .u64 0) := v0.c5
  have r13 : w3.cell? ⟨gE, 13, none⟩ = some (.int .u64 7) := v1.c5
  have rw0 : w3.cell? ⟨gw, 0, none⟩ = some (.int .u64 12) := hrw.cell rfl
  have l1 := World.block_lt_of_cell? w3 ⟨gE, 0, none⟩ r0
  have l2 := hrw.lt
  clear hao hev hrw hb3 v0 v1 HG hP
  unfold repVs
  go_wp2_with fail
  go_ret
  exact ⟨rfl, HB3.out.alloc (by omega) _⟩


def longB6 (cl pl : Nat) : Prop := (60 < cl ∧ cl ≤ 1000) ∨ (600 < pl ∧ pl ≤ 65536) ∨ 1100 < cl
set_option maxRecDepth 20000 in
theorem lwhole_long (q0 q1 : Int) (ao ao3 : Option Addr) (cl cap pl cap3 : Nat) (w : World) (hp : pl ≤ 9223372036854775807) (h : longB6 cl pl) :
    Calls Try.prog 3 #[.agg #[.int .i64 q0, .int .i64 q1], .slice ao cl cap, .slice ao3 pl cap3] w fun e w' => e = .returned (.bool true) ∧ Below w.heap.size w w' := by
  have H := Lib.hid h
  clear h
  go_enter Try.func3, Try.ntmps3
  go_wp2_with fail
  refine (many_yes _ _ _ _ _ _ _ hp H.out).mono ?_
  rintro e w1 ⟨rfl, rfl⟩
  go_wp2_with fail
  refine (adds_any _).mono ?_
  rintro e w2 ⟨rfl, hb⟩
  have HB : Hid (Below w.heap.size w w2) := Lib.hid (((Below.refl _ _).alloc (Nat.le_refl _) _).trans (hb.mono (by simp)))
  clear hb
  go_wp2_with fail
  go_ret
  exact ⟨rfl, HB.out⟩

set_option maxRecDepth 100000 in
set_option maxHeartbeats 2000000 in
theorem lwhole_bad (q0 q1 : Int) (ao : Option Addr) (b o cap : Nat) (cs : List CallV) (ao3 : Option Addr) (b3 o3 cap3 : Nat) (picks : List Int) (w : World) (hl : ¬ longB6 cs.length picks.length) (ha : 0 < cs.length → ao = some ⟨b, o, none⟩) (hb : 0 < cs.length → b < w.heap.size) (hc : CallsAt w b o cs) (hcap : ao = none → cap = 0)
    (ha3 : 0 < picks.length → ao3 = some ⟨b3, o3, none⟩) (hb3 : 0 < picks.length → b3 < w.heap.size) (hc3 : ICells w b3 o3 picks) (hnp : picks.length ≤ 9223372036854775807) (he : playErr q0 cs picks.length (cellsEr q1) ≠ 0) :
    Calls Try.prog 3 #[.agg #[.int .i64 q0, .int .i64 q1], .slice ao cs.length cap, .slice ao3 picks.length cap3] w fun e w' => e = .returned (.bool true) ∧ Below w.heap.size w w' := by
  have hw1 : Below w.heap.size w (w.alloc (.cells #[.int .i64 q0, .int .i64 q1] 22)) := (Below.refl _ _).alloc (Nat.le_refl _) _
  obtain ⟨sz, _, hP⟩ := cells_any q0 q1 ao b o cap cs ao3 b3 o3 cap3 picks (w.alloc (.cells #[.int .i64 q0, .int .i64 q1] 22)) ha (fun h => by have := hb h; simp; omega) (hc.stays hw1 hb) hcap ha3 (fun h => by have := hb3 h; simp; omega) (hc3.stays hw1 hb3) hnp
  have HP := Lib.hid hP
  have HE := Lib.hid he
  have HL := Lib.hid hl
  have hne : ¬ ((playErr q0 cs picks.length (cellsEr q1) : Nat) : Int) = 0 := by omega
  clear ha hb hc hcap ha3 hb3 hc3 he hl hP
  go_enter Try.func3, Try.ntmps3
  go_wp2_with fail
  refine (many_no _ _ _ _ _ _ _ hnp HL.out).mono ?_
  rintro e w1 ⟨rfl, rfl⟩
  go_wp2_with fail
  refine HP.out.mono ?_
  rintro e w2 hP
  obtain ⟨rfl, hb2⟩ := hP.bad HE.out
  have HB2 : Hid (Below w.heap.size w w2) := Lib.hid (hw1.trans (hb2.mono (by simp)))
  clear hP hb2 HP hw1
  generalize playErr q0 cs picks.length (cellsEr q1) = er at *
  unfold zeroRep zeroVs
  go_wp2_with fail
  have hnz := none_zero (w2.alloc (.cells #[.slice none 0 0, .slice none 0 0, .int .i64 0, .int .i64 0, .int .i64 0, .int .i64 0, .int .i64 0, .int .i64 0, .int .i64 0] 32))
  unfold zeroRep zeroVs at hnz
  refine hnz.mono ?_
  rintro e w3 ⟨rfl, hb3⟩
  have z2 := HB2.out.size
  have HB3 : Hid (Below w.heap.size w w3) := Lib.hid ((HB2.out.alloc z2 _).trans (hb3.mono (by simp; omega)))
  clear hb3 hnz
  go_wp2_with fail
  refine (adds_any _).mono ?_
  rintro e w4 ⟨rfl, hb4⟩
  have HB4 : Hid (Below w.heap.size w w4) := Lib.hid (HB3.out.trans (hb4.mono HB3.out.size))
  clear hb4
  go_wp2_with fail
  go_ret
  exact ⟨rfl, HB4.out⟩

theorem zeros_cells (q : Nat) : zeros q = (List.replicate q 0).map (fun x : Nat => Value.int .u64 (x : Int)) := by
  unfold zeros
  rw [List.map_replicate, toList_madeCells_one]; rfl
theorem mFold_len (q : Nat) (cs : List CallV) (is : List Nat) : (mFold (cellD q) cs is).length = q := by
  unfold mFold
  have key : ∀ (is : List Nat) (st : List Nat), st.length = q → (is.foldl (mStep (cellD q) cs) st).length = q := by
    intro is
    induction is with
    | nil => intro st h; exact h
    | cons i r ih =>
      intro st h
      rw [List.foldl_cons]
      refine ih _ ?_
      unfold mStep
      split
      · exact h
      · split
        · exact h
        · rw [cellD_ap]
          split
          · exact h
          · split
            · exact h
            · rw [Acc.run_len]; exact h
  exact key is _ (by show (List.replicate q 0).length = q; simp)
theorem cell_same {w w' : World} {g k : Nat} (h : w'.heap[g]? = w.heap[g]?) : w'.cell? ⟨g, k, none⟩ = w.cell? ⟨g, k, none⟩ := by unfold World.cell?; rw [h]
theorem mAns_list (q : Nat) (cs : List CallV) (l : List Nat) (i : Nat) : (mAns (cellD q) cs l i).list = [] := by
  unfold mAns
  split
  · rfl
  · split
    · rfl
    · rw [cellD_ap]
      split
      · rfl
      · split <;> rfl
theorem TpW.succ {bW bw cap B n : Nat} {l : List Nat} {w : World} (h : TpW bW bw cap B n l w) : TpW bW bw cap B (n + 1) l w := by
  obtain ⟨c, vM, vTr, vLog, nl, logs, h1, h2, h3, h4⟩ := h
  exact ⟨c, vM, vTr, vLog, nl, logs, h1, h2, by omega, ⟨Nat.le_succ_of_le h4.1, Nat.le_succ_of_le h4.2.1, Nat.le_succ_of_le h4.2.2.1, Nat.le_succ_of_le h4.2.2.2.1, Nat.le_succ_of_le h4.2.2.2.2⟩⟩
set_option maxRecDepth 20000 in
theorem answerN (er vl : Nat) (la : Option Addr) (lc : Nat) (W : World) : Calls Try.prog 11 #[.agg #[.int .i64 (er : Int), .int .u64 (vl : Int), .slice la 0 lc], .agg #[.int .i64 (er : Int), .int .u64 (vl : Int), .slice none 0 0]] W fun e w' => e = .returned (.bool true) ∧ Below W.heap.size W w' := by
  go_enter Try.func11, Try.ntmps11
  go_wp2_with fail
  refine (same_yes la none 0 0 lc 0 0 0 [] _ (by simp) (fun h => absurd h (by simp)) (fun h => absurd h (by simp)) (fun i x h => by simp at h) (fun i x h => by simp at h)).mono ?_
  rintro e w1 ⟨rfl, m, rfl⟩
  go_wp2_with fail
  go_ret
  exact ⟨rfl, below_drewN (((Below.refl _ _).alloc (Nat.le_refl _) _).alloc (by simp) _) m⟩
def OfQ (q : Nat) (w : World) (e : Ending) (w' : World) : Prop :=
  ∃ g cap, e = .returned (.agg #[.slice (some ⟨g, 0, none⟩) q cap, .int .i64 0, .int .i64 0, .int .i64 0, .int .i64 0, .int .i64 0]) ∧ w.heap.size ≤ g ∧ g < w'.heap.size ∧ Below w.heap.size w w' ∧
    ∃ cur : Array Value, w'.heap[g]? = some (.cells cur 46 (0, 0)) ∧ ∀ (i x : Nat), (List.replicate q 0)[i]? = some x → cur[i]? = some (Value.int .u64 (x : Int))
set_option maxRecDepth 100000 in
set_option maxHeartbeats 4000000 in
theorem lwhole_good (k q : Nat) (hq : 1 ≤ q ∧ q ≤ 64) (ao : Option Addr) (b o cap : Nat) (cs : List CallV) (ao3 : Option Addr) (b3 o3 cap3 : Nat) (picks : List Int) (w : World) (hl : ¬ longB6 cs.length picks.length) (ha : 0 < cs.length → ao = some ⟨b, o, none⟩) (hb : 0 < cs.length → b < w.heap.size) (hc : CallsAt w b o cs)
    (hnp : picks.length ≤ 9223372036854775807) (he : playErr (k : Int) cs picks.length (cellsEr (q : Int)) = 0) (R : RepR) (hLW : LoomW q cs R) (hel : R.evs.length ≤ 70000) (hcl : cs.length ≤ 9223372036854775807)
    (hP : Calls Try.prog 6 #[.int .i64 (k : Int), .int .i64 (q : Int), .slice ao cs.length cap, .slice ao3 picks.length cap3] (w.alloc (.cells #[.int .i64 (k : Int), .int .i64 (q : Int)] 22)) (GoodG R (w.alloc (.cells #[.int .i64 (k : Int), .int .i64 (q : Int)] 22)))) :
    Calls Try.prog 3 #[.agg #[.int .i64 (k : Int), .int .i64 (q : Int)], .slice ao cs.length cap, .slice ao3 picks.length cap3] w fun e w' => e = .returned (.bool true) ∧ Below w.heap.size w w' := by
  have HP := Lib.hid hP
  have HL := Lib.hid hl
  have HA := Lib.hid ha
  have HB := Lib.hid hb
  have HC := Lib.hid hc
  have HLW := Lib.hid hLW
  have HOF : Hid (∀ (W : World) (bb : Nat), bb = W.heap.size → Calls Try.prog 8 #[.slice (some ⟨bb, 0, none⟩) (q : Nat) (q : Nat)] (W.alloc (.cells (zeros q).toArray 46)) (OfQ q (W.alloc (.cells (zeros q).toArray 46)))) := Lib.hid (fun W bb hbb => by
    have h := of_any (some ⟨bb, 0, none⟩) bb 0 q (List.replicate q 0) (W.alloc (.cells (zeros q).toArray 46)) (by rw [List.length_replicate]; omega) (fun _ => rfl) (fun _ => by simp; omega) (fun i x hx => by
      rw [Nat.zero_add, World.cell?_alloc_at _ _ _ _ hbb, zeros_cells, List.getElem?_toArray, List.getElem?_map, hx]; rfl) (fun h => by cases h)
    rw [List.length_replicate] at h
    exact h.mono (fun e w' ⟨g, cp, h1, h2, h3, h4, h5⟩ => ⟨g, cp, by rw [List.length_replicate] at h1; exact h1, h2, h3, h4, h5⟩))
  have hmk := run_mk q (by omega)
  have q1 : ¬ (q : Int) < 1 := by omega
  have q2 : ¬ (64 : Int) < (q : Int) := by omega
  have HQ := Lib.hid hq
  have HW1 : Hid (Below w.heap.size w (w.alloc (.cells #[.int .i64 (k : Int), .int .i64 (q : Int)] 22))) := Lib.hid ((Below.refl _ _).alloc (Nat.le_refl _) _)
  clear ha hb hc hl hP hLW he hq
  go_enter Try.func3, Try.ntmps3
  go_wp2_with fail
  refine (many_no _ _ _ _ _ _ _ hnp HL.out).mono ?_
  rintro e w1 ⟨rfl, rfl⟩
  go_wp2_with fail
  refine HP.out.mono ?_
  rintro e w2 ⟨aoE, gE, capE, gw, rfl, hao, hev, hrw, hgw, hb2⟩
  have HB2 : Hid (Below w.heap.size w w2) := Lib.hid (HW1.out.trans (hb2.mono (by simp)))
  have hkk : RowBlk 22 w2 w.heap.size [.int .i64 (k : Int), .int .i64 (q : Int)] := (RowBlk.new w [.int .i64 (k : Int), .int .i64 (q : Int)] 22).same (hb2.block _ (by simp))
  have kk0 : w2.cell? ⟨w.heap.size, 0, none⟩ = some (.int .i64 (k : Int)) := hkk.cell rfl
  have kk1 : w2.cell? ⟨w.heap.size, 1, none⟩ = some (.int .i64 (q : Int)) := hkk.cell rfl
  have HKK := Lib.hid hkk
  have HAO := Lib.hid hao
  have HEV := Lib.hid hev
  have HRW := Lib.hid hrw
  have z2 := HB2.out.size
  have zw2 := hkk.lt
  clear hb2 hev hrw hao HP hkk
  have HRE : Hid (RowBlk 32 (w2.alloc (.cells (repVs (.slice aoE R.evs.length capE) gw R).toArray 32)) w2.heap.size (repVs (.slice aoE R.evs.length capE) gw R)) := Lib.hid (RowBlk.new _ _ _)
  have HBR : Hid (Below w2.heap.size w2 (w2.alloc (.cells (repVs (.slice aoE R.evs.length capE) gw R).toArray 32))) := Lib.hid ((Below.refl _ _).alloc (Nat.le_refl _) _)
  rw [show (repVs (.slice aoE R.evs.length capE) gw R).toArray = #[.slice aoE R.evs.length capE, .slice (some ⟨gw, 0, none⟩) R.ws.length R.ws.length, .int .i64 (R.cn.r : Int), .int .i64 (R.cn.w : Int), .int .i64 (R.cn.s : Int), .int .i64 (R.cn.a : Int), .int .i64 (R.cn.f : Int), .int .i64 (R.ticks : Int), .int .i64 (R.idle : Int)] from rfl] at HRE HBR
  have hrs : (w2.alloc (.cells #[.slice aoE R.evs.length capE, .slice (some ⟨gw, 0, none⟩) R.ws.length R.ws.length, .int .i64 (R.cn.r : Int), .int .i64 (R.cn.w : Int), .int .i64 (R.cn.s : Int), .int .i64 (R.cn.a : Int), .int .i64 (R.cn.f : Int), .int .i64 (R.ticks : Int), .int .i64 (R.idle : Int)] 32)).heap.size = w2.heap.size + 1 := by simp
  have HRS := Lib.hid hrs
  clear hrs
  unfold repVs
  go_wp2_with fail
  refine (HOF.out _ (w2.heap.size + 1) (by simp)).mono ?_
  generalize w2.alloc (.cells #[.slice aoE R.evs.length capE, .slice (some ⟨gw, 0, none⟩) R.ws.length R.ws.length, .int .i64 (R.cn.r : Int), .int .i64 (R.cn.w : Int), .int .i64 (R.cn.s : Int), .int .i64 (R.cn.a : Int), .int .i64 (R.cn.f : Int), .int .i64 (R.ticks : Int), .int .i64 (R.idle : Int)] 32) = wR at HRE HBR HRS ⊢
  rintro e w3 ⟨gq, cq, rfl, hg1, hg2, hb3, hcur⟩
  have hrs := HRS.out
  have hg1' : wR.heap.size + 1 ≤ gq := by simpa using hg1
  have hR3 : Below wR.heap.size wR w3 := ((Below.refl _ _).alloc (Nat.le_refl _) _).trans (hb3.mono (by simp))
  have HR3 := Lib.hid hR3
  have z3 := hR3.size
  have e0 : w3.cell? ⟨w2.heap.size, 0, none⟩ = some (.slice aoE R.evs.length capE) := (HRE.out.same (hR3.block _ (by omega))).cell rfl
  have e1 : w3.cell? ⟨w2.heap.size, 1, none⟩ = some (.slice (some ⟨gw, 0, none⟩) R.ws.length R.ws.length) := (HRE.out.same (hR3.block _ (by omega))).cell rfl
  have HGQ : Hid (∀ BB, TpW w3.heap.size gq cq BB 0 (List.replicate q 0) (w3.alloc (.cells #[.slice (some ⟨gq, 0, none⟩) q cq, .int .i64 0, .int .i64 0, .int .i64 0, .int .i64 0, .int .i64 0, .int .i64 0, .slice none 0 0, .slice none 0 0, .slice none 0 0] 44))) := Lib.hid (fun BB => by
    obtain ⟨cur, hc1, hc2⟩ := hcur
    refine ⟨⟨0, 0, 0, 0, 0⟩, .slice none 0 0, .slice none 0 0, .slice none 0 0, 0, [], ⟨?_, ⟨cur, (Below.heap_alloc _ _ _ hg2).trans hc1, hc2⟩, by omega⟩, World.ownsRow_nil _ _ _ _, Nat.le_refl _, ⟨Nat.le_refl _, Nat.le_refl _, Nat.le_refl _, Nat.le_refl _, Nat.le_refl _⟩⟩
    rw [heap_alloc_new, List.length_replicate]; rfl)
  have zl2 : w2.heap.size < w3.heap.size := by omega
  have zl0 : w.heap.size < w3.heap.size := by omega
  clear hb3 hcur hg1 hrs hR3
  go_wp2_with fail
  have HR4 : Hid (Below wR.heap.size wR (w3.alloc (.cells #[.slice (some ⟨gq, 0, none⟩) q cq, .int .i64 0, .int .i64 0, .int .i64 0, .int .i64 0, .int .i64 0, .int .i64 0, .slice none 0 0, .slice none 0 0, .slice none 0 0] 44))) := Lib.hid (HR3.out.alloc z3 _)
  have hs4 : (w3.alloc (.cells #[.slice (some ⟨gq, 0, none⟩) q cq, .int .i64 0, .int .i64 0, .int .i64 0, .int .i64 0, .int .i64 0, .int .i64 0, .slice none 0 0, .slice none 0 0, .slice none 0 0] 44)).heap.size = w3.heap.size + 1 := by simp
  generalize w3.alloc (.cells #[.slice (some ⟨gq, 0, none⟩) q cq, .int .i64 0, .int .i64 0, .int .i64 0, .int .i64 0, .int .i64 0, .int .i64 0, .slice none 0 0, .slice none 0 0, .slice none 0 0] 44) = w4 at HGQ HR4 hs4 ⊢
  have zR2 := HBR.out.size
  have HB24 : Hid (Below w2.heap.size w2 w4) := Lib.hid (HBR.out.trans (HR4.out.mono zR2))
  refine (order_any aoE gE capE R.evs _ w4 HAO.out (HEV.out.below HB24.out (Nat.le_refl _)) hel).mono ?_
  rintro e w5 ⟨vO, rfl, hO, hb5⟩
  rw [HLW.out.ord, List.length_range] at hO
  obtain ⟨aO, gO, cO, rfl, hoa, hob, hoc, _⟩ := owns_open hO
  have HO := Lib.hid hO
  have HOA := Lib.hid hoa
  have HOB := Lib.hid hob
  have HOC := Lib.hid hoc
  have z45 := hb5.size
  have HR5 : Hid (Below wR.heap.size wR w5) := Lib.hid (HR4.out.trans (hb5.mono HR4.out.size))
  have HT5 : Hid (TpW w3.heap.size gq cq w5.heap.size 0 (List.replicate q 0) w5) := Lib.hid ((HGQ.out _).keep hb5)
  have HS4 := Lib.hid hs4
  have e0 : w5.cell? ⟨w2.heap.size, 0, none⟩ = some (.slice aoE R.evs.length capE) := (HRE.out.same (HR5.out.block _ (by rw [HRS.out]; omega))).cell rfl
  have HGS : Hid (wR.heap.size ≤ gq ∧ wR.heap.size ≤ w3.heap.size ∧ w3.heap.size < w5.heap.size ∧ gq < w5.heap.size ∧ w3.heap.size ≠ gq) := Lib.hid ⟨by omega, by omega, by omega, by omega, by omega⟩
  clear hO hoa hob hoc hb5 hs4 e1 kk0
  go_wp2_with fail
  go_loopw [54] (fun kv wr => ∃ (j : Nat), j ≤ R.evs.length ∧ kv = .int .i64 j ∧ Hid (TpW w3.heap.size gq cq w5.heap.size j (mFold (cellD q) cs ((R.evs.take j).map EvR.i)) wr) ∧ Hid (ButS (fun b => b = w3.heap.size ∨ b = gq) w5 wr)) (fun kv _ => R.evs.length - (intOf kv).toNat)
  case atStart => exact ⟨0, Nat.zero_le _, rfl, by simp only [List.take_zero, List.map_nil]; exact HT5, Lib.hid (ButS.refl _ _)⟩
  case round =>
    obtain ⟨j, hj, rfl, hT, hB⟩ := hrel
    have HRr : Hid (Below wR.heap.size wR wr) := Lib.hid (HR5.out.trans (hB.out.below (fun b hb => by have := HGS.out; rcases hb with rfl | rfl <;> omega) HR5.out.size))
    have HB2r : Hid (Below w2.heap.size w2 wr) := Lib.hid (HBR.out.trans (HRr.out.mono zR2))
    have HBwr : Hid (Below w.heap.size w wr) := Lib.hid (HB2.out.trans (HB2r.out.mono z2))
    have r0 : wr.cell? ⟨w2.heap.size, 0, none⟩ = some (.slice aoE R.evs.length capE) := (HRE.out.same (HRr.out.block _ (by rw [HRS.out]; omega))).cell rfl
    have r1 : wr.cell? ⟨w2.heap.size, 1, none⟩ = some (.slice (some ⟨gw, 0, none⟩) R.ws.length R.ws.length) := (HRE.out.same (HRr.out.block _ (by rw [HRS.out]; omega))).cell rfl
    have r2 : wr.cell? ⟨w.heap.size, 1, none⟩ = some (.int .i64 (q : Int)) := (HKK.out.same (HB2r.out.block _ zw2)).cell rfl
    have l1 := World.block_lt_of_cell? wr ⟨w2.heap.size, 0, none⟩ r0
    have l2 := World.block_lt_of_cell? wr ⟨w.heap.size, 1, none⟩ r2
    have l3 : w3.heap.size < wr.heap.size := hT.out.lt.1
    by_cases hlt : j < R.evs.length
    · obtain ⟨x, hx⟩ : ∃ x, R.evs[j]? = some x := ⟨R.evs[j], List.getElem?_eq_getElem hlt⟩
      obtain rfl := HAO.out (by omega)
      obtain rfl := HOA.out (by omega)
      have o1 : wr.cell? ⟨gO, j, none⟩ = some (.int .i64 (j : Int)) := by
        have h1 := owns_at HO.out (nums_get1 (List.getElem?_range hlt))
        have hl := HOC.out (by omega)
        have hb := HOB.out (by omega)
        have := HS4.out
        rw [← h1]
        exact cell_same (hB.out.block gO hl (fun h => by have := HGS.out; omega))
      obtain ⟨_, la, ka, lc, kc, hv⟩ := (HEV.out.below HB2r.out (Nat.le_refl _)) j x hx
      have hil := HLW.out.call j x hx
      obtain ⟨y, hy⟩ : ∃ y, cs[x.i]? = some y := ⟨cs[x.i], List.getElem?_eq_getElem hil⟩
      obtain rfl := HA.out (by omega)
      obtain ⟨c0, c1, c2, c3, c4, c5, hya⟩ := (HC.out.stays HBwr.out HB.out) x.i y hy
      have hans := HLW.out.ans j x hx
      have hst : mFold (cellD q) cs ((R.evs.take (j + 1)).map EvR.i) = mStep (cellD q) cs (mFold (cellD q) cs ((R.evs.take j).map EvR.i)) x.i := by rw [take_snoc hx, List.map_append, List.map_singleton, mFold_snoc]
      have hlen := mFold_len q cs ((R.evs.take j).map EvR.i)
      generalize mFold (cellD q) cs ((R.evs.take j).map EvR.i) = l at hT hans hst hlen
      have v0 := hv.c0
      have v1 := hv.c1
      have v2 := hv.c2
      have v3 := hv.c3
      have v4 := hv.c4
      have v5 := hv.c5
      have v6 := hv.c6
      have v7 := hv.c7
      have i0 : (0 : Int) ≤ (j : Int) := Int.natCast_nonneg _
      have i1 : (j : Int) < (R.evs.length : Int) := by omega
      have k0 : (0 : Int) ≤ (x.i : Int) := Int.natCast_nonneg _
      have k1 : (x.i : Int) < (cs.length : Int) := by omega
      have k2 : ¬ (cs.length : Int) ≤ (x.i : Int) := by omega
      have k3 : ¬ (x.i : Int) < 0 := by omega
      have l4 := World.block_lt_of_cell? wr ⟨gO, j, none⟩ o1
      have l5 := World.block_lt_of_cell? wr ⟨gE, _, none⟩ v0
      have l6 := World.block_lt_of_cell? wr ⟨b, _, none⟩ c0
      have hls : x.ans.list = [] := by rw [hans]; exact mAns_list q cs l x.i
      obtain ⟨er, her⟩ : ∃ er, x.ans.err = er := ⟨_, rfl⟩
      obtain ⟨vl, hvl⟩ : ∃ vl, x.ans.val = vl := ⟨_, rfl⟩
      rw [her] at v4
      rw [hvl] at v5
      rw [hls, List.length_nil] at v6
      have HER : Hid (er = (mAns (cellD q) cs l x.i).err ∧ vl = (mAns (cellD q) cs l x.i).val) := Lib.hid ⟨by rw [← her, hans], by rw [← hvl, hans]⟩
      have HST := Lib.hid hst
      have HY := Lib.hid hy
      have HLN := Lib.hid hlen
      have zz5 := hB.out.size
      clear hv hx hy hil e0 hans her hvl hls hst hlen
      by_cases ho : y.o = 0
      · rw [ho] at c1
        have HAP : Hid (er = ((cellD q).ap l y).2.err ∧ vl = ((cellD q).ap l y).2.val ∧ mFold (cellD q) cs ((R.evs.take (j + 1)).map EvR.i) = ((cellD q).ap l y).1) := Lib.hid (by
          have h1 := HER.out
          have h2 := HST.out
          rw [mAns_on HY.out (by omega)] at h1
          rw [mStep_on HY.out (by omega)] at h2
          exact ⟨h1.1, h1.2, h2⟩)
        go_wp2_with fail
        go_region
        all_goals go_wp2_with fail
        have HB6 : Hid (Below wr.heap.size wr (((wr.alloc (.cells #[.int .i64 (x.i : Int), .int .i64 (x.inv : Int), .int .i64 (x.resp : Int), .int .i64 (x.steps : Int), .int .i64 (er : Int), .int .u64 (vl : Int), .slice la 0 lc, .slice ka x.key.length kc] 50)).alloc (.cells #[.pointer (some ⟨w3.heap.size, 0, none⟩), .int .i64 0, .int .i64 0, .slice none 0 0, .slice none 0 0, .int .i64 0, .bool true, .bool false, .slice none 0 0, .int .i64 0, .int .u64 0, .slice none 0 0, .slice none 0 0] 53)).drew)) := Lib.hid (below_drew (((Below.refl _ _).alloc (Nat.le_refl _) _).alloc (by simp) _))
        have HE6 : Hid (RowBlk 50 (((wr.alloc (.cells #[.int .i64 (x.i : Int), .int .i64 (x.inv : Int), .int .i64 (x.resp : Int), .int .i64 (x.steps : Int), .int .i64 (er : Int), .int .u64 (vl : Int), .slice la 0 lc, .slice ka x.key.length kc] 50)).alloc (.cells #[.pointer (some ⟨w3.heap.size, 0, none⟩), .int .i64 0, .int .i64 0, .slice none 0 0, .slice none 0 0, .int .i64 0, .bool true, .bool false, .slice none 0 0, .int .i64 0, .int .u64 0, .slice none 0 0, .slice none 0 0] 53)).drew) wr.heap.size [.int .i64 (x.i : Int), .int .i64 (x.inv : Int), .int .i64 (x.resp : Int), .int .i64 (x.steps : Int), .int .i64 (er : Int), .int .u64 (vl : Int), .slice la 0 lc, .slice ka x.key.length kc]) := Lib.hid (((RowBlk.new wr [.int .i64 (x.i : Int), .int .i64 (x.inv : Int), .int .i64 (x.resp : Int), .int .i64 (x.steps : Int), .int .i64 (er : Int), .int .u64 (vl : Int), .slice la 0 lc, .slice ka x.key.length kc] 50).alloc _).drew)
        have HT6 : Hid (RowBlk 53 (((wr.alloc (.cells #[.int .i64 (x.i : Int), .int .i64 (x.inv : Int), .int .i64 (x.resp : Int), .int .i64 (x.steps : Int), .int .i64 (er : Int), .int .u64 (vl : Int), .slice la 0 lc, .slice ka x.key.length kc] 50)).alloc (.cells #[.pointer (some ⟨w3.heap.size, 0, none⟩), .int .i64 0, .int .i64 0, .slice none 0 0, .slice none 0 0, .int .i64 0, .bool true, .bool false, .slice none 0 0, .int .i64 0, .int .u64 0, .slice none 0 0, .slice none 0 0] 53)).drew) (wr.heap.size + 1) [.pointer (some ⟨w3.heap.size, 0, none⟩), .int .i64 0, .int .i64 0, .slice none 0 0, .slice none 0 0, .int .i64 0, .bool true, .bool false, .slice none 0 0, .int .i64 0, .int .u64 0, .slice none 0 0, .slice none 0 0]) := Lib.hid (by
          have h := RowBlk.new (wr.alloc (.cells #[.int .i64 (x.i : Int), .int .i64 (x.inv : Int), .int .i64 (x.resp : Int), .int .i64 (x.steps : Int), .int .i64 (er : Int), .int .u64 (vl : Int), .slice la 0 lc, .slice ka x.key.length kc] 50)) [.pointer (some ⟨w3.heap.size, 0, none⟩), .int .i64 0, .int .i64 0, .slice none 0 0, .slice none 0 0, .int .i64 0, .bool true, .bool false, .slice none 0 0, .int .i64 0, .int .u64 0, .slice none 0 0, .slice none 0 0] 53
          have hz : (wr.alloc (.cells #[.int .i64 (x.i : Int), .int .i64 (x.inv : Int), .int .i64 (x.resp : Int), .int .i64 (x.steps : Int), .int .i64 (er : Int), .int .u64 (vl : Int), .slice la 0 lc, .slice ka x.key.length kc] 50)).heap.size = wr.heap.size + 1 := by simp
          rw [hz] at h; exact h.drew)
        have HS6 : Hid ((((wr.alloc (.cells #[.int .i64 (x.i : Int), .int .i64 (x.inv : Int), .int .i64 (x.resp : Int), .int .i64 (x.steps : Int), .int .i64 (er : Int), .int .u64 (vl : Int), .slice la 0 lc, .slice ka x.key.length kc] 50)).alloc (.cells #[.pointer (some ⟨w3.heap.size, 0, none⟩), .int .i64 0, .int .i64 0, .slice none 0 0, .slice none 0 0, .int .i64 0, .bool true, .bool false, .slice none 0 0, .int .i64 0, .int .u64 0, .slice none 0 0, .slice none 0 0] 53)).drew).heap.size = wr.heap.size + 1 + 1) := Lib.hid (by show ((wr.alloc _).alloc _).heap.size = _; simp)
        generalize ((wr.alloc (.cells #[.int .i64 (x.i : Int), .int .i64 (x.inv : Int), .int .i64 (x.resp : Int), .int .i64 (x.steps : Int), .int .i64 (er : Int), .int .u64 (vl : Int), .slice la 0 lc, .slice ka x.key.length kc] 50)).alloc (.cells #[.pointer (some ⟨w3.heap.size, 0, none⟩), .int .i64 0, .int .i64 0, .slice none 0 0, .slice none 0 0, .int .i64 0, .bool true, .bool false, .slice none 0 0, .int .i64 0, .int .u64 0, .slice none 0 0, .slice none 0 0] 53)).drew = w6 at HB6 HE6 HT6 HS6 ⊢
        have hz6 := HB6.out.size
        have HCL : Hid (Calls Try.prog 10 #[.pointer (some ⟨wr.heap.size + 1, 0, none⟩), .int .i64 0, .agg #[.int .i64 0, .int .i64 (q : Int), .int .i64 0], .agg #[.int .i64 y.t, .int .i64 0, .int .i64 y.k, .int .u64 (y.a : Int), .int .u64 (y.b : Int), .int .u64 (y.c : Int)]] w6.drew (CellOut (wr.heap.size + 1) w3.heap.size gq cq w5.heap.size j er vl (mFold (cellD q) cs ((R.evs.take (j + 1)).map EvR.i)) w6.drew)) := Lib.hid (by
          have hap := HAP.out
          have h := cell_any (wr.heap.size + 1) w3.heap.size gq cq w5.heap.size j q y l w6.drew HT6.out.drew ((hT.out.keep HB6.out).keep (below_drew (Below.refl _ _))) ⟨HGS.out.2.2.2.1, Nat.le_trans zz5 hz6⟩ ⟨by omega, by have := HGS.out; omega⟩ ⟨HLN.out, HQ.out.2⟩ (by omega) hya.2.2.2.1
          unfold callAgg at h
          rw [ho, ← hap.1, ← hap.2.1, ← hap.2.2] at h
          exact h)
        have g1 : w6.cell? ⟨w.heap.size, 1, none⟩ = some (.int .i64 (q : Int)) := (HB6.out.cell (p := ⟨w.heap.size, 1, none⟩) l2).trans r2
        have g2 : w6.cell? ⟨wr.heap.size, 0, none⟩ = some (.int .i64 (x.i : Int)) := HE6.out.cell (i := 0) rfl
        have d0 : w6.cell? ⟨b, o + x.i * 6, none⟩ = some (.int .i64 y.t) := (HB6.out.cell (p := ⟨b, _, none⟩) l6).trans c0
        have d1 : w6.cell? ⟨b, o + x.i * 6 + 1, none⟩ = some (.int .i64 0) := (HB6.out.cell (p := ⟨b, _, none⟩) l6).trans c1
        have d2 : w6.cell? ⟨b, o + x.i * 6 + 2, none⟩ = some (.int .i64 y.k) := (HB6.out.cell (p := ⟨b, _, none⟩) l6).trans c2
        have d3 : w6.cell? ⟨b, o + x.i * 6 + 3, none⟩ = some (.int .u64 (y.a : Int)) := (HB6.out.cell (p := ⟨b, _, none⟩) l6).trans c3
        have d4 : w6.cell? ⟨b, o + x.i * 6 + 4, none⟩ = some (.int .u64 (y.b : Int)) := (HB6.out.cell (p := ⟨b, _, none⟩) l6).trans c4
        have d5 : w6.cell? ⟨b, o + x.i * 6 + 5, none⟩ = some (.int .u64 (y.c : Int)) := (HB6.out.cell (p := ⟨b, _, none⟩) l6).trans c5
        clear r0 r1 r2 o1 v0 v1 v2 v3 v4 v5 v6 v7 c0 c1 c2 c3 c4 c5
        refine wp_region_tail (S := fun w' => (w'.cell? ⟨w.heap.size, 1, none⟩ = some (.int .i64 (q : Int)) ∧ w'.cell? ⟨wr.heap.size, 0, none⟩ = some (.int .i64 (x.i : Int))) ∧ w'.cell? ⟨b, o + x.i * 6, none⟩ = some (.int .i64 y.t) ∧ w'.cell? ⟨b, o + x.i * 6 + 1, none⟩ = some (.int .i64 0) ∧ w'.cell? ⟨b, o + x.i * 6 + 2, none⟩ = some (.int .i64 y.k) ∧ w'.cell? ⟨b, o + x.i * 6 + 3, none⟩ = some (.int .u64 (y.a : Int)) ∧ w'.cell? ⟨b, o + x.i * 6 + 4, none⟩ = some (.int .u64 (y.b : Int)) ∧ w'.cell? ⟨b, o + x.i * 6 + 5, none⟩ = some (.int .u64 (y.c : Int))) 10 (by kernel_rfl) (by kernel_rfl) ?_ (fun hHeld => ?_)
        · first | with_reducible exact ⟨⟨g1, g2⟩, d0, d1, d2, d3, d4, d5⟩ | go_keep
        simp only [List.take_succ_cons, List.take_zero]
        refine wpAnyH_take (i := 0) (oi := _) (v := ?va0) rfl (by kernel_rfl) (by kernel_rfl) (by kernel_rfl) (fun _ _ _ h => h) (Or.inl ⟨by kernel_rfl, ?hya0⟩) (by assumption) ?resta0
        case hya0 => (intro w hSw; (try dsimp only at hSw); go_simp <;> with_reducible rfl)
        try simp only [Act.put, List.getElem_toArray, List.getElem_cons_zero, List.getElem_cons_succ, List.setIfInBounds_toArray, List.set_cons_zero, List.set_cons_succ]
        refine wpAnyH_take (i := 1) (oi := _) (v := ?va1) rfl (by kernel_rfl) (by kernel_rfl) (by kernel_rfl) (fun _ _ _ h => h) (Or.inl ⟨by kernel_rfl, ?hya1⟩) (by assumption) ?resta1
        case hya1 => (intro w hSw; (try dsimp only at hSw); go_simp <;> with_reducible rfl)
        try simp only [Act.put, List.getElem_toArray, List.getElem_cons_zero, List.getElem_cons_succ, List.setIfInBounds_toArray, List.set_cons_zero, List.set_cons_succ]
        refine wpAnyH_take (i := 2) (oi := _) (v := ?va2) rfl (by kernel_rfl) (by kernel_rfl) (by kernel_rfl) (fun _ _ _ h => h) (Or.inl ⟨by kernel_rfl, ?hya2⟩) (by assumption) ?resta2
        case hya2 => (intro w hSw; (try dsimp only at hSw); go_simp <;> with_reducible rfl)
        try simp only [Act.put, List.getElem_toArray, List.getElem_cons_zero, List.getElem_cons_succ, List.setIfInBounds_toArray, List.set_cons_zero, List.set_cons_succ]
        refine wpAnyH_take (i := 3) (oi := _) (v := ?va3) rfl (by kernel_rfl) (by kernel_rfl) (by kernel_rfl) (fun _ _ _ h => h) (Or.inl ⟨by kernel_rfl, ?hya3⟩) (by assumption) ?resta3
        case hya3 => (intro w hSw; (try dsimp only at hSw); go_simp <;> with_reducible rfl)
        try simp only [Act.put, List.getElem_toArray, List.getElem_cons_zero, List.getElem_cons_succ, List.setIfInBounds_toArray, List.set_cons_zero, List.set_cons_succ]
        refine wpAnyH_take (i := 4) (oi := _) (v := ?va4) rfl (by kernel_rfl) (by kernel_rfl) (by kernel_rfl) (fun _ _ _ h => h) (Or.inl ⟨by kernel_rfl, ?hya4⟩) (by assumption) ?resta4
        case hya4 => (intro w hSw; (try dsimp only at hSw); go_simp <;> with_reducible rfl)
        try simp only [Act.put, List.getElem_toArray, List.getElem_cons_zero, List.getElem_cons_succ, List.setIfInBounds_toArray, List.set_cons_zero, List.set_cons_succ]
        refine wpAnyH_take (i := 5) (oi := _) (v := ?va5) rfl (by kernel_rfl) (by kernel_rfl) (by kernel_rfl) (fun _ _ _ h => h) (Or.inl ⟨by kernel_rfl, ?hya5⟩) (by assumption) ?resta5
        case hya5 => (intro w hSw; (try dsimp only at hSw); go_simp <;> with_reducible rfl)
        try simp only [Act.put, List.getElem_toArray, List.getElem_cons_zero, List.getElem_cons_succ, List.setIfInBounds_toArray, List.set_cons_zero, List.set_cons_succ]
        refine wpAnyH_take (i := 6) (oi := _) (v := ?va6) rfl (by kernel_rfl) (by kernel_rfl) (by kernel_rfl) (fun _ _ _ h => h) (Or.inl ⟨by kernel_rfl, ?hya6⟩) (by assumption) ?resta6
        case hya6 => (intro w hSw; (try dsimp only at hSw); go_simp <;> with_reducible rfl)
        try simp only [Act.put, List.getElem_toArray, List.getElem_cons_zero, List.getElem_cons_succ, List.setIfInBounds_toArray, List.set_cons_zero, List.set_cons_succ]
        refine wpAnyH_take (i := 7) (oi := _) (v := ?va7) rfl (by kernel_rfl) (by kernel_rfl) (by kernel_rfl) (fun _ _ _ h => h) (Or.inl ⟨by kernel_rfl, ?hya7⟩) (by assumption) ?resta7
        case hya7 => (intro w hSw; (try dsimp only at hSw); go_simp <;> with_reducible rfl)
        try simp only [Act.put, List.getElem_toArray, List.getElem_cons_zero, List.getElem_cons_succ, List.setIfInBounds_toArray, List.set_cons_zero, List.set_cons_succ]
        refine wpAnyH_take (i := 8) (oi := _) (v := ?va8) rfl (by kernel_rfl) (by kernel_rfl) (by kernel_rfl) (fun _ _ _ h => h) (Or.inl ⟨by kernel_rfl, ?hya8⟩) (by assumption) ?resta8
        case hya8 => (intro w hSw; (try dsimp only at hSw); go_simp <;> with_reducible rfl)
        try simp only [Act.put, List.getElem_toArray, List.getElem_cons_zero, List.getElem_cons_succ, List.setIfInBounds_toArray, List.set_cons_zero, List.set_cons_succ]
        refine wpAnyH_ready (rs := [9]) (by kernel_rfl) (by simp) ?_
        refine AllReadyH.cons (o := _) rfl (fun K hK => ?_) AllReadyH.nil
        go_simp
        go_at_call 10
        refine HCL.out.mono ?_
        rintro e w7 ⟨rfl, f9, f10, hW7, hB7⟩
        have hnot : ∀ b', b' < wr.heap.size → b' < w5.heap.size → b' ≠ w3.heap.size → b' ≠ gq → ¬ SB (wr.heap.size + 1) w3.heap.size gq w5.heap.size w6.drew b' := fun b' h1 h2 h3 h4 h => by
          rcases h with h | h | h | h
          · omega
          · exact h3 h
          · exact h4 h
          · omega
        have hnE : ¬ SB (wr.heap.size + 1) w3.heap.size gq w5.heap.size w6.drew wr.heap.size := fun h => by
          rcases h with h | h | h | ⟨_, cur, h⟩
          · omega
          · omega
          · have := HGS.out; omega
          · have h1 : w6.heap[wr.heap.size]? = _ := HE6.out
            have h2 : w6.heap[wr.heap.size]? = some (.cells cur 111 (0, 0)) := h
            rw [h1] at h2
            simp at h2
        have HE7 : Hid (RowBlk 50 w7 wr.heap.size [.int .i64 (x.i : Int), .int .i64 (x.inv : Int), .int .i64 (x.resp : Int), .int .i64 (x.steps : Int), .int .i64 (er : Int), .int .u64 (vl : Int), .slice la 0 lc, .slice ka x.key.length kc]) := Lib.hid (HE6.out.drew.same (hB7.block wr.heap.size HE6.out.lt hnE))
        have hcs : ∀ b' k, b' < wr.heap.size → b' < w5.heap.size → b' ≠ w3.heap.size → b' ≠ gq → w7.cell? ⟨b', k, none⟩ = w6.cell? ⟨b', k, none⟩ := fun b' k h1 h2 h3 h4 => cell_same (hB7.block b' (by show b' < w6.heap.size; omega) (hnot b' h1 h2 h3 h4))
        have gs := HGS.out
        have hz2R := HRS.out
        have hbw : b < w.heap.size := HB.out (by omega)
        have z2' := zw2
        have zR5 := HR5.out.size
        have hS7 : (w7.cell? ⟨w.heap.size, 1, none⟩ = some (.int .i64 (q : Int)) ∧ w7.cell? ⟨wr.heap.size, 0, none⟩ = some (.int .i64 (x.i : Int))) ∧ w7.cell? ⟨b, o + x.i * 6, none⟩ = some (.int .i64 y.t) ∧ w7.cell? ⟨b, o + x.i * 6 + 1, none⟩ = some (.int .i64 0) ∧ w7.cell? ⟨b, o + x.i * 6 + 2, none⟩ = some (.int .i64 y.k) ∧ w7.cell? ⟨b, o + x.i * 6 + 3, none⟩ = some (.int .u64 (y.a : Int)) ∧ w7.cell? ⟨b, o + x.i * 6 + 4, none⟩ = some (.int .u64 (y.b : Int)) ∧ w7.cell? ⟨b, o + x.i * 6 + 5, none⟩ = some (.int .u64 (y.c : Int)) :=
          ⟨⟨(hcs _ _ (by omega) (by omega) (by omega) (by omega)).trans g1, HE7.out.cell (i := 0) rfl⟩, (hcs _ _ (by omega) (by omega) (by omega) (by omega)).trans d0, (hcs _ _ (by omega) (by omega) (by omega) (by omega)).trans d1, (hcs _ _ (by omega) (by omega) (by omega) (by omega)).trans d2, (hcs _ _ (by omega) (by omega) (by omega) (by omega)).trans d3, (hcs _ _ (by omega) (by omega) (by omega) (by omega)).trans d4, (hcs _ _ (by omega) (by omega) (by omega) (by omega)).trans d5⟩
        have HS7 := Lib.hid hS7
        have HW7 := Lib.hid hW7
        have HBB : Hid (ButS (fun b => b = w3.heap.size ∨ b = gq) w5 w7) := Lib.hid ((hB.out.trans (ButS.of_below (HB6.out.mono (Nat.le_refl _))).drew).trans2 hB7 (fun b' hb' h => by
          rcases h with h | h | h | h
          · omega
          · exact .inl h
          · exact .inr h
          · omega))
        clear hnot hnE hcs gs hz2R hbw z2' zR5 hS7 hW7 hB7
        go_simp
        refine hK.out _ _ ?_ (fun hHeld2 => ?_)
        · exact HS7.out
        clear hK K hHeld hHeld2 g1 g2 d0 d1 d2 d3 d4 d5
        try simp only [Act.put, List.getElem_toArray, List.getElem_cons_zero, List.getElem_cons_succ, List.setIfInBounds_toArray, List.set_cons_zero, List.set_cons_succ]
        refine wpAnyH_done (by kernel_rfl) ?_ _
        dsimp only [tailQ]
        simp only [List.drop_succ_cons, List.drop_zero, List.take_succ_cons, List.take_zero, List.getElem_cons_succ, List.getElem_cons_zero, List.set_cons_zero, List.set_cons_succ, List.drop_nil]
        have f4 : w7.cell? ⟨wr.heap.size, 4, none⟩ = some (.int .i64 (er : Int)) := HE7.out.cell (i := 4) rfl
        have f5 : w7.cell? ⟨wr.heap.size, 5, none⟩ = some (.int .u64 (vl : Int)) := HE7.out.cell (i := 5) rfl
        have f6 : w7.cell? ⟨wr.heap.size, 6, none⟩ = some (.slice la 0 lc) := HE7.out.cell (i := 6) rfl
        go_wp2_with fail
        refine wp_region_tail (S := fun w' => (w'.cell? ⟨wr.heap.size, 4, none⟩ = some (.int .i64 (er : Int)) ∧ w'.cell? ⟨wr.heap.size, 5, none⟩ = some (.int .u64 (vl : Int)) ∧ w'.cell? ⟨wr.heap.size, 6, none⟩ = some (.slice la 0 lc)) ∧ w'.cell? ⟨wr.heap.size + 1, 9, none⟩ = some (.int .i64 (er : Int)) ∧ w'.cell? ⟨wr.heap.size + 1, 10, none⟩ = some (.int .u64 (vl : Int))) 13 (by kernel_rfl) (by kernel_rfl) ?_ (fun hHeld => ?_)
        · first | with_reducible exact ⟨⟨f4, f5, f6⟩, f9, f10⟩ | go_keep
        simp only [List.take_succ_cons, List.take_zero]
        refine wpAnyH_take (i := 0) (oi := _) (v := ?vb0) rfl (by kernel_rfl) (by kernel_rfl) (by kernel_rfl) (fun _ _ _ h => h) (Or.inl ⟨by kernel_rfl, ?hyb0⟩) (by assumption) ?restb0
        case hyb0 => (intro w hSw; (try dsimp only at hSw); go_simp <;> with_reducible rfl)
        try simp only [Act.put, List.getElem_toArray, List.getElem_cons_zero, List.getElem_cons_succ, List.setIfInBounds_toArray, List.set_cons_zero, List.set_cons_succ]
        refine wpAnyH_take (i := 1) (oi := _) (v := ?vb1) rfl (by kernel_rfl) (by kernel_rfl) (by kernel_rfl) (fun _ _ _ h => h) (Or.inl ⟨by kernel_rfl, ?hyb1⟩) (by assumption) ?restb1
        case hyb1 => (intro w hSw; (try dsimp only at hSw); go_simp <;> with_reducible rfl)
        try simp only [Act.put, List.getElem_toArray, List.getElem_cons_zero, List.getElem_cons_succ, List.setIfInBounds_toArray, List.set_cons_zero, List.set_cons_succ]
        refine wpAnyH_take (i := 2) (oi := _) (v := ?vb2) rfl (by kernel_rfl) (by kernel_rfl) (by kernel_rfl) (fun _ _ _ h => h) (Or.inl ⟨by kernel_rfl, ?hyb2⟩) (by assumption) ?restb2
        case hyb2 => (intro w hSw; (try dsimp only at hSw); go_simp <;> with_reducible rfl)
        try simp only [Act.put, List.getElem_toArray, List.getElem_cons_zero, List.getElem_cons_succ, List.setIfInBounds_toArray, List.set_cons_zero, List.set_cons_succ]
        refine wpAnyH_take (i := 3) (oi := _) (v := ?vb3) rfl (by kernel_rfl) (by kernel_rfl) (by kernel_rfl) (fun _ _ _ h => h) (Or.inl ⟨by kernel_rfl, ?hyb3⟩) (by assumption) ?restb3
        case hyb3 => (intro w hSw; (try dsimp only at hSw); go_simp <;> with_reducible rfl)
        try simp only [Act.put, List.getElem_toArray, List.getElem_cons_zero, List.getElem_cons_succ, List.setIfInBounds_toArray, List.set_cons_zero, List.set_cons_succ]
        refine wpAnyH_take (i := 4) (oi := _) (v := ?vb4) rfl (by kernel_rfl) (by kernel_rfl) (by kernel_rfl) (fun _ _ _ h => h) (Or.inl ⟨by kernel_rfl, ?hyb4⟩) (by assumption) ?restb4
        case hyb4 => (intro w hSw; (try dsimp only at hSw); go_simp <;> with_reducible rfl)
        try simp only [Act.put, List.getElem_toArray, List.getElem_cons_zero, List.getElem_cons_succ, List.setIfInBounds_toArray, List.set_cons_zero, List.set_cons_succ]
        refine wpAnyH_take (i := 5) (oi := _) (v := ?vb5) rfl (by kernel_rfl) (by kernel_rfl) (by kernel_rfl) (fun _ _ _ h => h) (Or.inl ⟨by kernel_rfl, ?hyb5⟩) (by assumption) ?restb5
        case hyb5 => (intro w hSw; (try dsimp only at hSw); go_simp <;> with_reducible rfl)
        try simp only [Act.put, List.getElem_toArray, List.getElem_cons_zero, List.getElem_cons_succ, List.setIfInBounds_toArray, List.set_cons_zero, List.set_cons_succ]
        refine wpAnyH_take (i := 6) (oi := _) (v := ?vb6) rfl (by kernel_rfl) (by kernel_rfl) (by kernel_rfl) (fun _ _ _ h => h) (Or.inl ⟨by kernel_rfl, ?hyb6⟩) (by assumption) ?restb6
        case hyb6 => (intro w hSw; (try dsimp only at hSw); go_simp <;> with_reducible rfl)
        try simp only [Act.put, List.getElem_toArray, List.getElem_cons_zero, List.getElem_cons_succ, List.setIfInBounds_toArray, List.set_cons_zero, List.set_cons_succ]
        refine wpAnyH_take (i := 7) (oi := _) (v := ?vb7) rfl (by kernel_rfl) (by kernel_rfl) (by kernel_rfl) (fun _ _ _ h => h) (Or.inl ⟨by kernel_rfl, ?hyb7⟩) (by assumption) ?restb7
        case hyb7 => (intro w hSw; (try dsimp only at hSw); go_simp <;> with_reducible rfl)
        try simp only [Act.put, List.getElem_toArray, List.getElem_cons_zero, List.getElem_cons_succ, List.setIfInBounds_toArray, List.set_cons_zero, List.set_cons_succ]
        refine wpAnyH_take (i := 8) (oi := _) (v := ?vb8) rfl (by kernel_rfl) (by kernel_rfl) (by kernel_rfl) (fun _ _ _ h => h) (Or.inl ⟨by kernel_rfl, ?hyb8⟩) (by assumption) ?restb8
        case hyb8 => (intro w hSw; (try dsimp only at hSw); go_simp <;> with_reducible rfl)
        try simp only [Act.put, List.getElem_toArray, List.getElem_cons_zero, List.getElem_cons_succ, List.setIfInBounds_toArray, List.set_cons_zero, List.set_cons_succ]
        refine wpAnyH_take (i := 9) (oi := _) (v := ?vb9) rfl (by kernel_rfl) (by kernel_rfl) (by kernel_rfl) (fun _ _ _ h => h) (Or.inl ⟨by kernel_rfl, ?hyb9⟩) (by assumption) ?restb9
        case hyb9 => (intro w hSw; (try dsimp only at hSw); go_simp <;> with_reducible rfl)
        try simp only [Act.put, List.getElem_toArray, List.getElem_cons_zero, List.getElem_cons_succ, List.setIfInBounds_toArray, List.set_cons_zero, List.set_cons_succ]
        refine wpAnyH_take (i := 10) (oi := _) (v := ?vb10) rfl (by kernel_rfl) (by kernel_rfl) (by kernel_rfl) (fun _ _ _ h => h) (Or.inl ⟨by kernel_rfl, ?hyb10⟩) (by assumption) ?restb10
        case hyb10 => (intro w hSw; (try dsimp only at hSw); go_simp <;> with_reducible rfl)
        try simp only [Act.put, List.getElem_toArray, List.getElem_cons_zero, List.getElem_cons_succ, List.setIfInBounds_toArray, List.set_cons_zero, List.set_cons_succ]
        refine wpAnyH_ready (rs := [11]) (by kernel_rfl) (by simp) ?_
        refine AllReadyH.cons (o := _) rfl (fun K hK => ?_) AllReadyH.nil
        go_simp
        go_at_call 11
        refine (answerN er vl la lc _).mono ?_
        rintro e w8 ⟨rfl, hb8⟩
        have HB8 : Hid (Below w7.heap.size w7 w8) := Lib.hid ((below_drew (Below.refl _ _)).trans hb8)
        have s1 := World.block_lt_of_cell? w7 ⟨wr.heap.size, 4, none⟩ f4
        have s2 := World.block_lt_of_cell? w7 ⟨wr.heap.size + 1, 9, none⟩ f9
        clear hb8
        go_simp
        refine hK.out _ _ ?_ (fun hHeld2 => ?_)
        · exact ⟨⟨(HB8.out.cell (p := ⟨wr.heap.size, 4, none⟩) s1).trans f4, (HB8.out.cell (p := ⟨wr.heap.size, 5, none⟩) s1).trans f5, (HB8.out.cell (p := ⟨wr.heap.size, 6, none⟩) s1).trans f6⟩, (HB8.out.cell (p := ⟨wr.heap.size + 1, 9, none⟩) s2).trans f9, (HB8.out.cell (p := ⟨wr.heap.size + 1, 10, none⟩) s2).trans f10⟩
        clear hK K
        try simp only [Act.put, List.getElem_toArray, List.getElem_cons_zero, List.getElem_cons_succ, List.setIfInBounds_toArray, List.set_cons_zero, List.set_cons_succ]
        refine wpAnyH_take (i := 12) (oi := _) (v := ?vb12) rfl (by kernel_rfl) (by kernel_rfl) (by kernel_rfl) (fun _ _ _ h => h) (Or.inl ⟨by kernel_rfl, ?hyb12⟩) (by assumption) ?restb12
        case hyb12 => (intro w hSw; (try dsimp only at hSw); go_simp <;> with_reducible rfl)
        try simp only [Act.put, List.getElem_toArray, List.getElem_cons_zero, List.getElem_cons_succ, List.setIfInBounds_toArray, List.set_cons_zero, List.set_cons_succ]
        refine wpAnyH_done (by kernel_rfl) ?_ _
        dsimp only [tailQ]
        simp only [List.drop_succ_cons, List.drop_zero, List.take_succ_cons, List.take_zero, List.getElem_cons_succ, List.getElem_cons_zero, List.set_cons_zero, List.set_cons_succ, List.drop_nil]
        clear hHeld hHeld2
        go_wp2_with fail
        go_roundw
        case rel => exact ⟨j + 1, by omega, by go_num, Lib.hid (HW7.out.keep HB8.out), Lib.hid (HBB.out.trans (ButS.of_below HB8.out))⟩
        case measure => simp [intOf]; omega
      · have HAP : Hid (er = 12 ∧ vl = 0 ∧ mFold (cellD q) cs ((R.evs.take (j + 1)).map EvR.i) = l) := Lib.hid (by
          have h1 := HER.out
          have h2 := HST.out
          rw [mAns_off HY.out (by omega)] at h1
          rw [mStep_off HY.out (by omega)] at h2
          exact ⟨h1.1, h1.2, h2⟩)
        go_wp2_with fail
        go_region
        all_goals go_wp2_with fail
        have HB6 : Hid (Below wr.heap.size wr (((wr.alloc (.cells #[.int .i64 (x.i : Int), .int .i64 (x.inv : Int), .int .i64 (x.resp : Int), .int .i64 (x.steps : Int), .int .i64 (er : Int), .int .u64 (vl : Int), .slice la 0 lc, .slice ka x.key.length kc] 50)).alloc (.cells #[.pointer (some ⟨w3.heap.size, 0, none⟩), .int .i64 0, .int .i64 0, .slice none 0 0, .slice none 0 0, .int .i64 0, .bool true, .bool false, .slice none 0 0, .int .i64 12, .int .u64 0, .slice none 0 0, .slice none 0 0] 53)).drew)) := Lib.hid (below_drew (((Below.refl _ _).alloc (Nat.le_refl _) _).alloc (by simp) _))
        have HE6 : Hid (RowBlk 50 (((wr.alloc (.cells #[.int .i64 (x.i : Int), .int .i64 (x.inv : Int), .int .i64 (x.resp : Int), .int .i64 (x.steps : Int), .int .i64 (er : Int), .int .u64 (vl : Int), .slice la 0 lc, .slice ka x.key.length kc] 50)).alloc (.cells #[.pointer (some ⟨w3.heap.size, 0, none⟩), .int .i64 0, .int .i64 0, .slice none 0 0, .slice none 0 0, .int .i64 0, .bool true, .bool false, .slice none 0 0, .int .i64 12, .int .u64 0, .slice none 0 0, .slice none 0 0] 53)).drew) wr.heap.size [.int .i64 (x.i : Int), .int .i64 (x.inv : Int), .int .i64 (x.resp : Int), .int .i64 (x.steps : Int), .int .i64 (er : Int), .int .u64 (vl : Int), .slice la 0 lc, .slice ka x.key.length kc]) := Lib.hid (((RowBlk.new wr [.int .i64 (x.i : Int), .int .i64 (x.inv : Int), .int .i64 (x.resp : Int), .int .i64 (x.steps : Int), .int .i64 (er : Int), .int .u64 (vl : Int), .slice la 0 lc, .slice ka x.key.length kc] 50).alloc _).drew)
        have HT6 : Hid (RowBlk 53 (((wr.alloc (.cells #[.int .i64 (x.i : Int), .int .i64 (x.inv : Int), .int .i64 (x.resp : Int), .int .i64 (x.steps : Int), .int .i64 (er : Int), .int .u64 (vl : Int), .slice la 0 lc, .slice ka x.key.length kc] 50)).alloc (.cells #[.pointer (some ⟨w3.heap.size, 0, none⟩), .int .i64 0, .int .i64 0, .slice none 0 0, .slice none 0 0, .int .i64 0, .bool true, .bool false, .slice none 0 0, .int .i64 12, .int .u64 0, .slice none 0 0, .slice none 0 0] 53)).drew) (wr.heap.size + 1) [.pointer (some ⟨w3.heap.size, 0, none⟩), .int .i64 0, .int .i64 0, .slice none 0 0, .slice none 0 0, .int .i64 0, .bool true, .bool false, .slice none 0 0, .int .i64 12, .int .u64 0, .slice none 0 0, .slice none 0 0]) := Lib.hid (by
          have h := RowBlk.new (wr.alloc (.cells #[.int .i64 (x.i : Int), .int .i64 (x.inv : Int), .int .i64 (x.resp : Int), .int .i64 (x.steps : Int), .int .i64 (er : Int), .int .u64 (vl : Int), .slice la 0 lc, .slice ka x.key.length kc] 50)) [.pointer (some ⟨w3.heap.size, 0, none⟩), .int .i64 0, .int .i64 0, .slice none 0 0, .slice none 0 0, .int .i64 0, .bool true, .bool false, .slice none 0 0, .int .i64 12, .int .u64 0, .slice none 0 0, .slice none 0 0] 53
          have hz : (wr.alloc (.cells #[.int .i64 (x.i : Int), .int .i64 (x.inv : Int), .int .i64 (x.resp : Int), .int .i64 (x.steps : Int), .int .i64 (er : Int), .int .u64 (vl : Int), .slice la 0 lc, .slice ka x.key.length kc] 50)).heap.size = wr.heap.size + 1 := by simp
          rw [hz] at h; exact h.drew)
        have HS6 : Hid ((((wr.alloc (.cells #[.int .i64 (x.i : Int), .int .i64 (x.inv : Int), .int .i64 (x.resp : Int), .int .i64 (x.steps : Int), .int .i64 (er : Int), .int .u64 (vl : Int), .slice la 0 lc, .slice ka x.key.length kc] 50)).alloc (.cells #[.pointer (some ⟨w3.heap.size, 0, none⟩), .int .i64 0, .int .i64 0, .slice none 0 0, .slice none 0 0, .int .i64 0, .bool true, .bool false, .slice none 0 0, .int .i64 12, .int .u64 0, .slice none 0 0, .slice none 0 0] 53)).drew).heap.size = wr.heap.size + 1 + 1) := Lib.hid (by show ((wr.alloc _).alloc _).heap.size = _; simp)
        generalize ((wr.alloc (.cells #[.int .i64 (x.i : Int), .int .i64 (x.inv : Int), .int .i64 (x.resp : Int), .int .i64 (x.steps : Int), .int .i64 (er : Int), .int .u64 (vl : Int), .slice la 0 lc, .slice ka x.key.length kc] 50)).alloc (.cells #[.pointer (some ⟨w3.heap.size, 0, none⟩), .int .i64 0, .int .i64 0, .slice none 0 0, .slice none 0 0, .int .i64 0, .bool true, .bool false, .slice none 0 0, .int .i64 12, .int .u64 0, .slice none 0 0, .slice none 0 0] 53)).drew = w6 at HB6 HE6 HT6 HS6 ⊢
        clear r0 r1 r2 o1 v0 v1 v2 v3 v4 v5 v6 v7 c0 c1 c2 c3 c4 c5
        have f4 : w6.cell? ⟨wr.heap.size, 4, none⟩ = some (.int .i64 (er : Int)) := HE6.out.cell (i := 4) rfl
        have f5 : w6.cell? ⟨wr.heap.size, 5, none⟩ = some (.int .u64 (vl : Int)) := HE6.out.cell (i := 5) rfl
        have f6 : w6.cell? ⟨wr.heap.size, 6, none⟩ = some (.slice la 0 lc) := HE6.out.cell (i := 6) rfl
        have f9 : w6.cell? ⟨wr.heap.size + 1, 9, none⟩ = some (.int .i64 (er : Int)) := by rw [HAP.out.1]; exact HT6.out.cell (i := 9) rfl
        have f10 : w6.cell? ⟨wr.heap.size + 1, 10, none⟩ = some (.int .u64 (vl : Int)) := by rw [HAP.out.2.1]; exact HT6.out.cell (i := 10) rfl
        refine wp_region_tail (S := fun w' => (w'.cell? ⟨wr.heap.size, 4, none⟩ = some (.int .i64 (er : Int)) ∧ w'.cell? ⟨wr.heap.size, 5, none⟩ = some (.int .u64 (vl : Int)) ∧ w'.cell? ⟨wr.heap.size, 6, none⟩ = some (.slice la 0 lc)) ∧ w'.cell? ⟨wr.heap.size + 1, 9, none⟩ = some (.int .i64 (er : Int)) ∧ w'.cell? ⟨wr.heap.size + 1, 10, none⟩ = some (.int .u64 (vl : Int))) 13 (by kernel_rfl) (by kernel_rfl) ?_ (fun hHeld => ?_)
        · first | with_reducible exact ⟨⟨f4, f5, f6⟩, f9, f10⟩ | go_keep
        simp only [List.take_succ_cons, List.take_zero]
        refine wpAnyH_take (i := 0) (oi := _) (v := ?vc0) rfl (by kernel_rfl) (by kernel_rfl) (by kernel_rfl) (fun _ _ _ h => h) (Or.inl ⟨by kernel_rfl, ?hyc0⟩) (by assumption) ?restc0
        case hyc0 => (intro w hSw; (try dsimp only at hSw); go_simp <;> with_reducible rfl)
        try simp only [Act.put, List.getElem_toArray, List.getElem_cons_zero, List.getElem_cons_succ, List.setIfInBounds_toArray, List.set_cons_zero, List.set_cons_succ]
        refine wpAnyH_take (i := 1) (oi := _) (v := ?vc1) rfl (by kernel_rfl) (by kernel_rfl) (by kernel_rfl) (fun _ _ _ h => h) (Or.inl ⟨by kernel_rfl, ?hyc1⟩) (by assumption) ?restc1
        case hyc1 => (intro w hSw; (try dsimp only at hSw); go_simp <;> with_reducible rfl)
        try simp only [Act.put, List.getElem_toArray, List.getElem_cons_zero, List.getElem_cons_succ, List.setIfInBounds_toArray, List.set_cons_zero, List.set_cons_succ]
        refine wpAnyH_take (i := 2) (oi := _) (v := ?vc2) rfl (by kernel_rfl) (by kernel_rfl) (by kernel_rfl) (fun _ _ _ h => h) (Or.inl ⟨by kernel_rfl, ?hyc2⟩) (by assumption) ?restc2
        case hyc2 => (intro w hSw; (try dsimp only at hSw); go_simp <;> with_reducible rfl)
        try simp only [Act.put, List.getElem_toArray, List.getElem_cons_zero, List.getElem_cons_succ, List.setIfInBounds_toArray, List.set_cons_zero, List.set_cons_succ]
        refine wpAnyH_take (i := 3) (oi := _) (v := ?vc3) rfl (by kernel_rfl) (by kernel_rfl) (by kernel_rfl) (fun _ _ _ h => h) (Or.inl ⟨by kernel_rfl, ?hyc3⟩) (by assumption) ?restc3
        case hyc3 => (intro w hSw; (try dsimp only at hSw); go_simp <;> with_reducible rfl)
        try simp only [Act.put, List.getElem_toArray, List.getElem_cons_zero, List.getElem_cons_succ, List.setIfInBounds_toArray, List.set_cons_zero, List.set_cons_succ]
        refine wpAnyH_take (i := 4) (oi := _) (v := ?vc4) rfl (by kernel_rfl) (by kernel_rfl) (by kernel_rfl) (fun _ _ _ h => h) (Or.inl ⟨by kernel_rfl, ?hyc4⟩) (by assumption) ?restc4
        case hyc4 => (intro w hSw; (try dsimp only at hSw); go_simp <;> with_reducible rfl)
        try simp only [Act.put, List.getElem_toArray, List.getElem_cons_zero, List.getElem_cons_succ, List.setIfInBounds_toArray, List.set_cons_zero, List.set_cons_succ]
        refine wpAnyH_take (i := 5) (oi := _) (v := ?vc5) rfl (by kernel_rfl) (by kernel_rfl) (by kernel_rfl) (fun _ _ _ h => h) (Or.inl ⟨by kernel_rfl, ?hyc5⟩) (by assumption) ?restc5
        case hyc5 => (intro w hSw; (try dsimp only at hSw); go_simp <;> with_reducible rfl)
        try simp only [Act.put, List.getElem_toArray, List.getElem_cons_zero, List.getElem_cons_succ, List.setIfInBounds_toArray, List.set_cons_zero, List.set_cons_succ]
        refine wpAnyH_take (i := 6) (oi := _) (v := ?vc6) rfl (by kernel_rfl) (by kernel_rfl) (by kernel_rfl) (fun _ _ _ h => h) (Or.inl ⟨by kernel_rfl, ?hyc6⟩) (by assumption) ?restc6
        case hyc6 => (intro w hSw; (try dsimp only at hSw); go_simp <;> with_reducible rfl)
        try simp only [Act.put, List.getElem_toArray, List.getElem_cons_zero, List.getElem_cons_succ, List.setIfInBounds_toArray, List.set_cons_zero, List.set_cons_succ]
        refine wpAnyH_take (i := 7) (oi := _) (v := ?vc7) rfl (by kernel_rfl) (by kernel_rfl) (by kernel_rfl) (fun _ _ _ h => h) (Or.inl ⟨by kernel_rfl, ?hyc7⟩) (by assumption) ?restc7
        case hyc7 => (intro w hSw; (try dsimp only at hSw); go_simp <;> with_reducible rfl)
        try simp only [Act.put, List.getElem_toArray, List.getElem_cons_zero, List.getElem_cons_succ, List.setIfInBounds_toArray, List.set_cons_zero, List.set_cons_succ]
        refine wpAnyH_take (i := 8) (oi := _) (v := ?vc8) rfl (by kernel_rfl) (by kernel_rfl) (by kernel_rfl) (fun _ _ _ h => h) (Or.inl ⟨by kernel_rfl, ?hyc8⟩) (by assumption) ?restc8
        case hyc8 => (intro w hSw; (try dsimp only at hSw); go_simp <;> with_reducible rfl)
        try simp only [Act.put, List.getElem_toArray, List.getElem_cons_zero, List.getElem_cons_succ, List.setIfInBounds_toArray, List.set_cons_zero, List.set_cons_succ]
        refine wpAnyH_take (i := 9) (oi := _) (v := ?vc9) rfl (by kernel_rfl) (by kernel_rfl) (by kernel_rfl) (fun _ _ _ h => h) (Or.inl ⟨by kernel_rfl, ?hyc9⟩) (by assumption) ?restc9
        case hyc9 => (intro w hSw; (try dsimp only at hSw); go_simp <;> with_reducible rfl)
        try simp only [Act.put, List.getElem_toArray, List.getElem_cons_zero, List.getElem_cons_succ, List.setIfInBounds_toArray, List.set_cons_zero, List.set_cons_succ]
        refine wpAnyH_take (i := 10) (oi := _) (v := ?vc10) rfl (by kernel_rfl) (by kernel_rfl) (by kernel_rfl) (fun _ _ _ h => h) (Or.inl ⟨by kernel_rfl, ?hyc10⟩) (by assumption) ?restc10
        case hyc10 => (intro w hSw; (try dsimp only at hSw); go_simp <;> with_reducible rfl)
        try simp only [Act.put, List.getElem_toArray, List.getElem_cons_zero, List.getElem_cons_succ, List.setIfInBounds_toArray, List.set_cons_zero, List.set_cons_succ]
        refine wpAnyH_ready (rs := [11]) (by kernel_rfl) (by simp) ?_
        refine AllReadyH.cons (o := _) rfl (fun K hK => ?_) AllReadyH.nil
        go_simp
        go_at_call 11
        refine (answerN er vl la lc _).mono ?_
        rintro e w8 ⟨rfl, hb8⟩
        have HB8 : Hid (Below w6.heap.size w6 w8) := Lib.hid ((below_drew (Below.refl _ _)).trans hb8)
        have s1 := World.block_lt_of_cell? w6 ⟨wr.heap.size, 4, none⟩ f4
        have s2 := World.block_lt_of_cell? w6 ⟨wr.heap.size + 1, 9, none⟩ f9
        clear hb8
        go_simp
        refine hK.out _ _ ?_ (fun hHeld2 => ?_)
        · exact ⟨⟨(HB8.out.cell (p := ⟨wr.heap.size, 4, none⟩) s1).trans f4, (HB8.out.cell (p := ⟨wr.heap.size, 5, none⟩) s1).trans f5, (HB8.out.cell (p := ⟨wr.heap.size, 6, none⟩) s1).trans f6⟩, (HB8.out.cell (p := ⟨wr.heap.size + 1, 9, none⟩) s2).trans f9, (HB8.out.cell (p := ⟨wr.heap.size + 1, 10, none⟩) s2).trans f10⟩
        clear hK K
        try simp only [Act.put, List.getElem_toArray, List.getElem_cons_zero, List.getElem_cons_succ, List.setIfInBounds_toArray, List.set_cons_zero, List.set_cons_succ]
        refine wpAnyH_take (i := 12) (oi := _) (v := ?vc12) rfl (by kernel_rfl) (by kernel_rfl) (by kernel_rfl) (fun _ _ _ h => h) (Or.inl ⟨by kernel_rfl, ?hyc12⟩) (by assumption) ?restc12
        case hyc12 => (intro w hSw; (try dsimp only at hSw); go_simp <;> with_reducible rfl)
        try simp only [Act.put, List.getElem_toArray, List.getElem_cons_zero, List.getElem_cons_succ, List.setIfInBounds_toArray, List.set_cons_zero, List.set_cons_succ]
        refine wpAnyH_done (by kernel_rfl) ?_ _
        dsimp only [tailQ]
        simp only [List.drop_succ_cons, List.drop_zero, List.take_succ_cons, List.take_zero, List.getElem_cons_succ, List.getElem_cons_zero, List.set_cons_zero, List.set_cons_succ, List.drop_nil]
        clear hHeld hHeld2
        go_wp2_with fail
        go_roundw
        case rel => exact ⟨j + 1, by omega, by go_num, by rw [HAP.out.2.2]; exact Lib.hid (((hT.out.keep HB6.out).keep HB8.out).succ), Lib.hid ((hB.out.trans (ButS.of_below HB6.out)).trans (ButS.of_below HB8.out))⟩
        case measure => simp [intOf]; omega
    · have hjn : j = R.evs.length := by omega
      subst hjn
      have hws : mFold (cellD q) cs ((R.evs.take R.evs.length).map EvR.i) = R.ws := by rw [List.take_length]; exact HLW.out.ws
      have hwl : R.ws.length = q := by rw [← hws]; exact mFold_len q cs _
      rw [hws] at hT
      obtain ⟨c, vM, vTr, vLog, nl, logs, h1, _⟩ := hT.out
      have m0 : wr.cell? ⟨w3.heap.size, 0, none⟩ = some (.slice (some ⟨gq, 0, none⟩) R.ws.length cq) := h1.c0
      have hwr := HRW.out.same (HB2r.out.block gw HRW.out.lt)
      have HSAME : Hid (∀ W : World, W.heap = wr.heap → Calls Try.prog 12 #[.slice (some ⟨gq, 0, none⟩) R.ws.length cq, .slice (some ⟨gw, 0, none⟩) R.ws.length R.ws.length] W fun e w' => e = .returned (.bool true) ∧ ∃ m, w' = W.drewN m) := Lib.hid (fun W hW =>
        same_yes (some ⟨gq, 0, none⟩) (some ⟨gw, 0, none⟩) gq 0 cq gw 0 R.ws.length R.ws W (by have := HQ.out; omega) (fun _ => rfl) (fun _ => rfl) (fun i x hx => by
          rw [Nat.zero_add]; exact (cell_same (congrArg (fun h => h[gq]?) hW)).trans (h1.word hx)) (fun i x hx => by
          rw [Nat.zero_add]; exact (cell_same (congrArg (fun h => h[gw]?) hW)).trans (hwr.cell (u64s_get hx))))
      have hnn : ¬ (R.evs.length : Int) < (R.evs.length : Int) := by omega
      have HWR : Hid (Below w.heap.size w wr) := HBwr
      have HDR : Hid (wr.drew.heap = wr.heap) := Lib.hid rfl
      clear h1 hwr hws hwl r2 e0 hT
      go_wp2_with fail
      go_region_held3 (fun w' => w'.cell? ⟨w2.heap.size, 0, none⟩ = some (.slice aoE R.evs.length capE) ∧ w'.cell? ⟨w2.heap.size, 1, none⟩ = some (.slice (some ⟨gw, 0, none⟩) R.ws.length R.ws.length) ∧ w'.cell? ⟨w3.heap.size, 0, none⟩ = some (.slice (some ⟨gq, 0, none⟩) R.ws.length cq)) (first | with_reducible exact ⟨r0, r1, m0⟩ | with_reducible exact ⟨s0, s1, s2⟩ | go_keep)
        (first
          | (with_reducible refine (HSAME.out wr.drew HDR.out).mono ?_
             rintro e w8 ⟨rfl, mm, rfl⟩
             go_simp)
          | (with_reducible refine (adds_any _).mono ?_
             rintro e w9 ⟨rfl, hb9⟩
             have s0 : w9.cell? ⟨w2.heap.size, 0, none⟩ = some (.slice aoE R.evs.length capE) := (hb9.cell (p := ⟨w2.heap.size, 0, none⟩) l1).trans r0
             have s1 : w9.cell? ⟨w2.heap.size, 1, none⟩ = some (.slice (some ⟨gw, 0, none⟩) R.ws.length R.ws.length) := (hb9.cell (p := ⟨w2.heap.size, 1, none⟩) l1).trans r1
             have s2 : w9.cell? ⟨w3.heap.size, 0, none⟩ = some (.slice (some ⟨gq, 0, none⟩) R.ws.length cq) := (hb9.cell (p := ⟨w3.heap.size, 0, none⟩) l3).trans m0
             have HB9 := Lib.hid hb9
             clear hb9
             go_simp))
      all_goals go_wp2_with fail
      all_goals go_ret
      all_goals exact ⟨rfl, (below_drewN HWR.out _).trans (HB9.out.mono HWR.out.size)⟩
theorem lwhole_all (q0 q1 : Int) (ao : Option Addr) (b o cap : Nat) (cs : List CallV) (ao3 : Option Addr) (b3 o3 cap3 : Nat) (picks : List Int) (w : World) (ha : 0 < cs.length → ao = some ⟨b, o, none⟩) (hb : 0 < cs.length → b < w.heap.size) (hc : CallsAt w b o cs) (hcap : ao = none → cap = 0)
    (ha3 : 0 < picks.length → ao3 = some ⟨b3, o3, none⟩) (hb3 : 0 < picks.length → b3 < w.heap.size) (hc3 : ICells w b3 o3 picks) (hnp : picks.length ≤ 9223372036854775807) :
    Calls Try.prog 3 #[.agg #[.int .i64 q0, .int .i64 q1], .slice ao cs.length cap, .slice ao3 picks.length cap3] w fun e w' => e = .returned (.bool true) ∧ Below w.heap.size w w' := by
  by_cases hl : longB6 cs.length picks.length
  · exact lwhole_long q0 q1 ao ao3 cs.length cap picks.length cap3 w hnp hl
  · by_cases he : playErr q0 cs picks.length (cellsEr q1) = 0
    · obtain ⟨k, rfl, _, _, hpl, hcl, her⟩ := play_threads he
      have hq : ¬ (q1 < 1 ∨ 64 < q1) := fun h => by unfold cellsEr at her; rw [if_pos h] at her; cases her
      obtain ⟨q, rfl⟩ : ∃ q : Nat, q1 = (q : Int) := ⟨q1.toNat, by omega⟩
      have hw1 : Below w.heap.size w (w.alloc (.cells #[.int .i64 (k : Int), .int .i64 (q : Int)] 22)) := (Below.refl _ _).alloc (Nat.le_refl _) _
      obtain ⟨sz, hsz, hP⟩ := cells_any (k : Int) (q : Int) ao b o cap cs ao3 b3 o3 cap3 picks (w.alloc (.cells #[.int .i64 (k : Int), .int .i64 (q : Int)] 22)) ha (fun h => by have := hb h; simp; omega) (hc.stays hw1 hb) hcap ha3 (fun h => by have := hb3 h; simp; omega) (hc3.stays hw1 hb3) hnp
      obtain ⟨hsz, _, _⟩ := hsz her
      have hsq : sz = q := by omega
      subst hsq
      have hevs := endM_evs (M := cellsM sz) cs (List.replicate sz 0) () picks
      have hel : (repOf (endM (M := cellsM sz) cs (List.replicate sz 0) () picks)).evs.length ≤ 70000 := by
        show ((endM (M := cellsM sz) cs (List.replicate sz 0) () picks).evs.map _).length ≤ _
        rw [List.length_map]; omega
      exact lwhole_good k sz ⟨by omega, by omega⟩ ao b o cap cs ao3 b3 o3 cap3 picks w hl ha hb hc hnp he _ (loomW_end sz cs (by omega) picks) hel (by omega) (hP.mono (fun e w' h => h.good he))
    · exact lwhole_bad q0 q1 ao b o cap cs ao3 b3 o3 cap3 picks w hl ha hb hc hcap ha3 hb3 hc3 hnp he
end Go.Proofs.Ytihhjbcphdnkhaa
