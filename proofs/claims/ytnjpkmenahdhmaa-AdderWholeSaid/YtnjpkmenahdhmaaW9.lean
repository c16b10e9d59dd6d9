/- Walk of the law AdderWhole. -/
import Derived.Test.YtnjpkmenahdhmaaQW
import Derived.Test.YtnjpkmenahdhmaaQR
import Derived.Test.YtnjpkmenahdhmaaZG
import Derived.Test.YtnjpkmenahdhmaaZE
import Derived.Test.YtnjpkmenahdhmaaQK
namespace Go.Proofs.Ytnjpkmenahdhmaa
open Go.RowKit
set_option linter.unusedVariables false
set_option linter.unusedSimpArgs false
set_option maxRecDepth 100000 in
set_option maxHeartbeats 2000000 in
theorem whole_yes {D : Mod} {Inv : List Nat → Prop} {n : Nat} {k p q : Int} (hM : ModelC D Inv (n : Int) k p q) (gs cS0 : Nat) (cs : List CallV) (r : RepR) (aoE : Option Addr) (gE capE gw : Nat) (ao : Option Addr) (b o cap B : Nat) (w : World)
    (hs0 : w.cell? ⟨gs, 0, none⟩ = some (.int .i64 k)) (hs1 : w.cell? ⟨gs, 1, none⟩ = some (.int .i64 p)) (hs2 : w.cell? ⟨gs, 2, none⟩ = some (.int .i64 q))
    (hR : RowsOk cs n r) (hao : 0 < r.evs.length → aoE = some ⟨gE, 0, none⟩) (hev : EvAllG B w gE r.evs) (hc : CallsAt w b o cs) (ha : 0 < cs.length → ao = some ⟨b, o, none⟩) (hcl : cs.length ≤ 9223372036854775807) (hel : r.evs.length ≤ 70000)
    (hall : ∀ (kk j : Nat) (x : EvR), (ordP r.evs r.evs.length)[kk]? = some j → r.evs[j]? = some x → ¬ x.resp = 0) (hWr : WrongOk D cs r.evs) :
    Calls Try.prog 21 #[.int .i64 (n : Int), .slice (some ⟨gs, 0, none⟩) 1 cS0, .slice ao cs.length cap, .agg (repVs (.slice aoE r.evs.length capE) gw r).toArray] w fun e w' => e = .returned (.bool true) ∧ Below w.heap.size w w' := by
  have hbl : ∀ h0 : 0 < cs.length, b < w.heap.size := fun h0 => by
    obtain ⟨x, hx⟩ : ∃ x, cs[0]? = some x := ⟨cs[0], List.getElem?_eq_getElem h0⟩
    exact World.block_lt_of_cell? w ⟨b, _, none⟩ (hc 0 x hx).1
  have hgl := World.block_lt_of_cell? w ⟨gs, 0, none⟩ hs0
  have HSP : Hid (∀ W, Below w.heap.size w W → W.cell? ⟨gs, 0, none⟩ = some (.int .i64 k) ∧ W.cell? ⟨gs, 1, none⟩ = some (.int .i64 p) ∧ W.cell? ⟨gs, 2, none⟩ = some (.int .i64 q)) := Lib.hid (fun W hW => ⟨(hW.cell (p := ⟨gs, 0, none⟩) hgl).trans hs0, (hW.cell (p := ⟨gs, 1, none⟩) hgl).trans hs1, (hW.cell (p := ⟨gs, 2, none⟩) hgl).trans hs2⟩)
  have hb0 : Below w.heap.size w (w.alloc (.cells (repVs (.slice aoE r.evs.length capE) gw r).toArray 32)) := (Below.refl _ _).alloc (Nat.le_refl _) _
  have H1 := Lib.hid (rows_yes cs n r aoE gE capE gw ao b o cap B (w.alloc (.cells (repVs (.slice aoE r.evs.length capE) gw r).toArray 32)) hR hao (hev.below hb0 (Nat.le_refl _)) (hc.stays hb0 hbl) ha hcl hel)
  have H2 : Hid (∀ W, Below w.heap.size w W → Calls Try.prog 40 #[.int .i64 (n : Int), .slice (some ⟨gs, 0, none⟩) 1 cS0, .slice ao cs.length cap, .slice aoE r.evs.length capE] W fun e w' => e = .returned (.int .i64 (-1)) ∧ Below W.heap.size W w') := Lib.hid (fun W hW => by
    obtain ⟨p0, p1, p2⟩ := HSP.out W hW
    refine wrong_yes hM hR.n1 gs cS0 ao b o cap cs aoE gE capE r.evs B W p0 p1 p2 hao (hev.below hW (Nat.le_refl _)) hel (hc.stays hW hbl) ha hcl (fun j x hx => ?_) (fun j x hx hr h0 => ?_) hall hWr
    · obtain ⟨y, h1, h2, h3⟩ := (hR.ev j x hx).call
      exact ⟨y, h1, h2, h3⟩
    · obtain ⟨_, _, _, a, ra, hk, _⟩ := (hR.ev j x hx).done hr
      rw [hk] at h0; simp at h0)
  have H3 : Hid (∀ W, Below w.heap.size w W → Calls Try.prog 41 #[.slice aoE r.evs.length capE] W fun e w' => e = .returned (.bool true) ∧ Below W.heap.size W w') := Lib.hid (fun W hW => aheadAll_yes aoE gE capE r.evs B W hao (hev.below hW (Nat.le_refl _)) (rows_ahead hR) hel)
  have HB0 := Lib.hid hb0
  have HRB := Lib.hid (RowBlk.new w (repVs (.slice aoE r.evs.length capE) gw r) 32)
  clear hM hs0 hs1 hs2 hR hao hev hc ha hall hWr hb0
  unfold repVs at *
  go_enter Try.func21, Try.ntmps21
  go_wp2_with fail
  refine H1.out.mono ?_
  rintro e w1 ⟨rfl, hb1⟩
  have hr1 := HRB.out.same (hb1.block _ (by simp))
  have c0 : w1.cell? ⟨w.heap.size, 0, none⟩ = some (.slice aoE r.evs.length capE) := hr1.cell rfl
  have HB1 : Hid (Below w.heap.size w w1) := Lib.hid (HB0.out.trans (hb1.mono (by simp)))
  have HR1 := Lib.hid hr1
  clear hb1 hr1
  go_wp2_with fail
  refine (H2.out w1 HB1.out).mono ?_
  rintro e w2 ⟨rfl, hb2⟩
  have hr2 := HR1.out.same (hb2.block _ HR1.out.lt)
  have c0' : w2.cell? ⟨w.heap.size, 0, none⟩ = some (.slice aoE r.evs.length capE) := hr2.cell rfl
  have HB2 : Hid (Below w.heap.size w w2) := Lib.hid (HB1.out.trans (hb2.mono HB1.out.size))
  clear hb2 hr2 c0
  go_wp2_with fail
  refine (H3.out w2 HB2.out).mono ?_
  rintro e w3 ⟨rfl, hb3⟩
  have HB3 : Hid (Below w.heap.size w w3) := Lib.hid (HB2.out.trans (hb3.mono HB2.out.size))
  clear hb3
  go_wp2_with fail
  go_ret
  exact ⟨rfl, HB3.out⟩
def twoCs : List CallV := [⟨0, 0, 2, 0, 0, 0⟩, ⟨1, 0, 2, 0, 0, 0⟩]
theorem two_end : repOf (endM (M := addM) twoCs [0] () [1, 0]) = ⟨[⟨1, 1, 1, 1, ⟨0, 0, []⟩, [2]⟩, ⟨0, 2, 2, 1, ⟨0, 1, []⟩, [4]⟩], [2], ⟨0, 0, 0, 2, 0⟩, 2, 0⟩ := by rfl
set_option maxRecDepth 100000 in
set_option maxHeartbeats 2000000 in
theorem two_any9 (w : World) : Calls Try.prog 26 #[] w fun e w' => e = .returned (.bool true) ∧ Below w.heap.size w w' := by
  go_enter Try.func26, Try.ntmps26
  go_wp2_with fail
  generalize hw2 : (w.alloc (.cells #[.int .i64 0, .int .i64 0, .int .i64 2, .int .u64 0, .int .u64 0, .int .u64 0, .int .i64 1, .int .i64 0, .int .i64 2, .int .u64 0, .int .u64 0, .int .u64 0] 55)).alloc (.cells #[.int .i64 1, .int .i64 0] 3) = w2
  have HB0 : Hid (Below w.heap.size w w2) := Lib.hid (by rw [← hw2]; exact ((Below.refl _ _).alloc (Nat.le_refl _) _).alloc (by simp) _)
  have hsz : w2.heap.size = w.heap.size + 2 := by rw [← hw2]; simp
  have hc : CallsAt w2 w.heap.size 0 twoCs := by
    have e : ∀ k, w2.cell? ⟨w.heap.size, k, none⟩ = (#[.int .i64 0, .int .i64 0, .int .i64 2, .int .u64 0, .int .u64 0, .int .u64 0, .int .i64 1, .int .i64 0, .int .i64 2, .int .u64 0, .int .u64 0, .int .u64 0] : Array Value)[k]? := fun k => by
      rw [← hw2, World.cell?_alloc_past _ _ _ (by simp), World.cell?_alloc_at _ _ _ _ rfl]
    intro i x hx
    match i, hx with
    | 0, hx => cases hx; refine ⟨e _, e _, e _, e _, e _, e _, ?_⟩; decide
    | 1, hx => cases hx; refine ⟨e _, e _, e _, e _, e _, e _, ?_⟩; decide
    | i + 2, hx => simp [twoCs] at hx
  have hp : ICells w2 (w.heap.size + 1) 0 [1, 0] := by
    have e : ∀ k, w2.cell? ⟨w.heap.size + 1, k, none⟩ = (#[.int .i64 1, .int .i64 0] : Array Value)[k]? := fun k => by
      rw [← hw2, World.cell?_alloc_at _ _ _ _ (by simp)]
    intro i x hx
    match i, hx with
    | 0, hx => cases hx; exact ⟨e _, by decide⟩
    | 1, hx => cases hx; exact ⟨e _, by decide⟩
    | i + 2, hx => simp at hx
  have HG := Lib.hid (add_play 2 (some ⟨w.heap.size, 0, none⟩) w.heap.size 0 2 twoCs (some ⟨w.heap.size + 1, 0, none⟩) (w.heap.size + 1) 0 2 [1, 0] w2 (fun _ => rfl) (fun _ => by omega) hc (fun h => by cases h) (fun _ => rfl) (fun _ => by omega) hp (by decide))
  clear hw2 hc hp
  refine (show Calls Try.prog 27 #[.int .i64 2, .slice (some ⟨w.heap.size, 0, none⟩) 2 2, .slice (some ⟨w.heap.size + 1, 0, none⟩) 2 2] w2 (PlayG addM 2 0 twoCs [0] () [1, 0] w2) from HG.out).mono ?_
  rintro e w3 hP
  obtain ⟨aoE, gE, capE, gw, rfl, hao, hev, hrw, _, hb3⟩ := hP.good (by decide)
  rw [two_end] at hao hev hrw ⊢
  obtain rfl := hao (by decide)
  have z := hb3.size
  have HB3 : Hid (Below w.heap.size w w3) := Lib.hid (HB0.out.trans (hb3.mono (by omega)))
  obtain ⟨_, la0, ka0, lc0, kc0, v0⟩ := hev 0 _ rfl
  obtain ⟨_, la1, ka1, lc1, kc1, v1⟩ := hev 1 _ rfl
  have r0 : w3.cell? ⟨gE, 0, none⟩ = some (.int .i64 1) := v0.c0
  have r5 : w3.cell? ⟨gE, 5, none⟩ = some (.int .u64 0) := v0.c5
  have r13 : w3.cell? ⟨gE, 13, none⟩ = some (.int .u64 1) := v1.c5
  have rw0 : w3.cell? ⟨gw, 0, none⟩ = some (.int .u64 2) := hrw.cell rfl
  have l1 := World.block_lt_of_cell? w3 ⟨gE, 0, none⟩ r0
  have l2 := hrw.lt
  clear hao hev hrw hb3 v0 v1 HG hP
  unfold repVs
  go_wp2_with fail
  go_ret
  exact ⟨rfl, HB3.out.alloc (by omega) _⟩

def longB9 (cl pl : Nat) : Prop := (60 < cl ∧ cl ≤ 1000) ∨ (600 < pl ∧ pl ≤ 65536) ∨ 1100 < cl
set_option maxRecDepth 20000 in
theorem awhole_long (q0 : Int) (ao ao3 : Option Addr) (cl cap pl cap3 : Nat) (w : World) (hp : pl ≤ 9223372036854775807) (h : longB9 cl pl) :
    Calls Try.prog 8 #[.int .i64 q0, .slice ao cl cap, .slice ao3 pl cap3] w fun e w' => e = .returned (.bool true) ∧ Below w.heap.size w w' := by
  have H := Lib.hid h
  clear h
  go_enter Try.func8, Try.ntmps8
  go_wp2_with fail
  refine (many_yes _ _ _ _ _ _ _ hp H.out).mono ?_
  rintro e w1 ⟨rfl, rfl⟩
  go_wp2_with fail
  refine (two_any9 _).mono ?_
  rintro e w2 ⟨rfl, hb⟩
  have HB : Hid (Below w.heap.size w w2) := Lib.hid hb
  clear hb
  go_wp2_with fail
  go_ret
  exact ⟨rfl, HB.out⟩

set_option maxRecDepth 100000 in
set_option maxHeartbeats 2000000 in
theorem awhole_bad (q0 : Int) (ao : Option Addr) (b o cap : Nat) (cs : List CallV) (ao3 : Option Addr) (b3 o3 cap3 : Nat) (picks : List Int) (w : World) (hl : ¬ longB9 cs.length picks.length) (ha : 0 < cs.length → ao = some ⟨b, o, none⟩) (hb : 0 < cs.length → b < w.heap.size) (hc : CallsAt w b o cs) (hcap : ao = none → cap = 0)
    (ha3 : 0 < picks.length → ao3 = some ⟨b3, o3, none⟩) (hb3 : 0 < picks.length → b3 < w.heap.size) (hc3 : ICells w b3 o3 picks) (hnp : picks.length ≤ 9223372036854775807) (he : playErr q0 cs picks.length 0 ≠ 0) :
    Calls Try.prog 8 #[.int .i64 q0, .slice ao cs.length cap, .slice ao3 picks.length cap3] w fun e w' => e = .returned (.bool true) ∧ Below w.heap.size w w' := by
  have hw1 : Below w.heap.size w w := Below.refl _ _
  have hP := add_play q0 ao b o cap cs ao3 b3 o3 cap3 picks w ha hb hc hcap ha3 hb3 hc3 hnp
  have HP := Lib.hid hP
  have HE := Lib.hid he
  have HL := Lib.hid hl
  have hne : ¬ ((playErr q0 cs picks.length 0 : Nat) : Int) = 0 := by omega
  clear ha hb hc hcap ha3 hb3 hc3 he hl hP
  go_enter Try.func8, Try.ntmps8
  go_wp2_with fail
  refine (many_no _ _ _ _ _ _ _ hnp HL.out).mono ?_
  rintro e w1 ⟨rfl, rfl⟩
  go_wp2_with fail
  refine HP.out.mono ?_
  rintro e w2 hP
  obtain ⟨rfl, hb2⟩ := hP.bad HE.out
  have HB2 : Hid (Below w.heap.size w w2) := Lib.hid (hw1.trans (hb2.mono (by simp)))
  clear hP hb2 HP hw1
  generalize playErr q0 cs picks.length 0 = er at *
  unfold zeroRep zeroVs
  go_wp2_with fail
  have hnz := none_zero (w2.alloc (.cells #[.slice none 0 0, .slice none 0 0, .int .i64 0, .int .i64 0, .int .i64 0, .int .i64 0, .int .i64 0, .int .i64 0, .int .i64 0] 32))
  unfold zeroRep zeroVs at hnz
  refine hnz.mono ?_
  rintro e w3 ⟨rfl, hb3⟩
  have z2 := HB2.out.size
  have HB3 : Hid (Below w.heap.size w w3) := Lib.hid ((HB2.out.alloc z2 _).trans (hb3.mono (by simp; omega)))
  clear hb3 hnz
  go_wp2_with fail
  refine (two_any9 _).mono ?_
  rintro e w4 ⟨rfl, hb4⟩
  have HB4 : Hid (Below w.heap.size w w4) := Lib.hid (HB3.out.trans (hb4.mono HB3.out.size))
  clear hb4
  go_wp2_with fail
  go_ret
  exact ⟨rfl, HB4.out⟩

set_option maxRecDepth 100000 in
set_option maxHeartbeats 2000000 in
theorem awhole_good (k : Nat) (ao : Option Addr) (b o cap : Nat) (cs : List CallV) (ao3 : Option Addr) (b3 o3 cap3 : Nat) (picks : List Int) (w : World) (hl : ¬ longB9 cs.length picks.length) (ha : 0 < cs.length → ao = some ⟨b, o, none⟩) (hb : 0 < cs.length → b < w.heap.size) (hc : CallsAt w b o cs) (hcap : ao = none → cap = 0)
    (ha3 : 0 < picks.length → ao3 = some ⟨b3, o3, none⟩) (hb3 : 0 < picks.length → b3 < w.heap.size) (hc3 : ICells w b3 o3 picks) (hnp : picks.length ≤ 9223372036854775807) (he : playErr (k : Int) cs picks.length 0 = 0) :
    Calls Try.prog 8 #[.int .i64 (k : Int), .slice ao cs.length cap, .slice ao3 picks.length cap3] w fun e w' => e = .returned (.bool true) ∧ Below w.heap.size w w' := by
  have hP := add_play (k : Int) ao b o cap cs ao3 b3 o3 cap3 picks w ha hb hc hcap ha3 hb3 hc3 hnp
  have HP := Lib.hid hP
  have HE := Lib.hid he
  have HL := Lib.hid hl
  have HA := Lib.hid ha
  have HB := Lib.hid hb
  have HC := Lib.hid hc
  obtain ⟨k', hk', hk1, hth, hpl, hcl, _⟩ := play_threads he
  have hkk : k' = k := by omega
  subst hkk
  have hevs := endM_evs (M := addM) cs [0] () picks
  have hrows : RowsOk cs k' (repOf (endM (M := addM) cs [0] () picks)) := rows_ok (rowI_end cs _ _ picks) hth hk1 (add_in cs picks) (endM_cn _ _ _ _) (by omega)
  have hwr := add_wrong cs picks
  have hone := oneI_end (M := addM) (fun s q r t => ⟨_, rfl⟩) cs [0] () picks
  have hall : ∀ (kk j : Nat) (x : EvR), (ordP (repOf (endM (M := addM) cs [0] () picks)).evs (repOf (endM (M := addM) cs [0] () picks)).evs.length)[kk]? = some j → (repOf (endM (M := addM) cs [0] () picks)).evs[j]? = some x → ¬ x.resp = 0 := fun kk j x _ hx => by
    have hx' : ((endM (M := addM) cs [0] () picks).evs.map (evR _))[j]? = some x := hx
    rw [List.getElem?_map] at hx'
    obtain ⟨v, hv, rfl⟩ := Option.map_eq_some_iff.1 hx'
    have := (hone.ev j v hv).2.1
    show ¬ v.resp = 0
    omega
  have hel : (repOf (endM (M := addM) cs [0] () picks)).evs.length ≤ 70000 := by
    show ((endM (M := addM) cs [0] () picks).evs.map _).length ≤ _
    rw [List.length_map]; omega
  obtain ⟨R, hR⟩ : ∃ R, repOf (endM (M := addM) cs [0] () picks) = R := ⟨_, rfl⟩
  rw [hR] at hrows hwr hall hel
  have HRO := Lib.hid hrows
  have HWR := Lib.hid hwr
  have HAL := Lib.hid hall
  have HEL := Lib.hid hel
  have HRR := Lib.hid hR
  clear ha hb hc hcap ha3 hb3 hc3 he hl hP hR hrows hevs hth hk' hwr hall hone
  go_enter Try.func8, Try.ntmps8
  go_wp2_with fail
  refine (many_no _ _ _ _ _ _ _ hnp HL.out).mono ?_
  rintro e w1 ⟨rfl, rfl⟩
  go_wp2_with fail
  refine HP.out.mono ?_
  rintro e w2 hP
  have hG := hP.good HE.out
  rw [HRR.out] at hG
  obtain ⟨aoE, gE, capE, gw, rfl, hao, hev, hrw, hgw, hb2⟩ := hG
  have HB2 : Hid (Below w.heap.size w w2) := Lib.hid hb2
  have HAO := Lib.hid hao
  have HEV := Lib.hid hev
  have z2 := HB2.out.size
  clear hP hb2 hev hrw hao HP
  unfold repVs
  go_wp2_with fail
  have hbx : Below w2.heap.size w2 ((w2.alloc (.cells (repVs (.slice aoE R.evs.length capE) gw R).toArray 32)).alloc (.cells #[.int .i64 3, .int .i64 0, .int .i64 0] 58)) := ((Below.refl _ _).alloc (Nat.le_refl _) _).alloc (by simp) _
  have hsp : RowBlk 58 ((w2.alloc (.cells (repVs (.slice aoE R.evs.length capE) gw R).toArray 32)).alloc (.cells #[.int .i64 3, .int .i64 0, .int .i64 0] 58)) (w2.heap.size + 1) [.int .i64 3, .int .i64 0, .int .i64 0] := by
    have h1 := RowBlk.new (w2.alloc (.cells (repVs (.slice aoE R.evs.length capE) gw R).toArray 32)) [.int .i64 3, .int .i64 0, .int .i64 0] 58
    have e : (w2.alloc (.cells (repVs (.slice aoE R.evs.length capE) gw R).toArray 32)).heap.size = w2.heap.size + 1 := by simp
    rw [e] at h1; exact h1
  have hRW := whole_yes (model_adder (k' : Int) 0 0) (w2.heap.size + 1) 1 cs R aoE gE capE gw ao b o cap w.heap.size _ (hsp.cell (i := 0) rfl) (hsp.cell (i := 1) rfl) (hsp.cell (i := 2) rfl) HRO.out HAO.out (HEV.out.below hbx (Nat.le_refl _)) (HC.out.stays (HB2.out.trans (hbx.mono z2)) HB.out) HA.out (by omega) HEL.out HAL.out HWR.out
  refine hRW.mono ?_
  rintro e w3 ⟨rfl, hb3⟩
  have HB3 : Hid (Below w.heap.size w w3) := Lib.hid ((HB2.out.trans (hbx.mono z2)).trans (hb3.mono (by have := hbx.size; omega)))
  clear hb3 hRW hbx hsp
  go_wp2_with fail
  refine (two_any9 _).mono ?_
  rintro e w4 ⟨rfl, hb4⟩
  have HB4 : Hid (Below w.heap.size w w4) := Lib.hid (HB3.out.trans (hb4.mono HB3.out.size))
  clear hb4
  go_wp2_with fail
  go_ret
  exact ⟨rfl, HB4.out⟩

theorem awhole_all (q0 : Int) (ao : Option Addr) (b o cap : Nat) (cs : List CallV) (ao3 : Option Addr) (b3 o3 cap3 : Nat) (picks : List Int) (w : World) (ha : 0 < cs.length → ao = some ⟨b, o, none⟩) (hb : 0 < cs.length → b < w.heap.size) (hc : CallsAt w b o cs) (hcap : ao = none → cap = 0)
    (ha3 : 0 < picks.length → ao3 = some ⟨b3, o3, none⟩) (hb3 : 0 < picks.length → b3 < w.heap.size) (hc3 : ICells w b3 o3 picks) (hnp : picks.length ≤ 9223372036854775807) (hcl : cs.length ≤ 9223372036854775807) :
    Calls Try.prog 8 #[.int .i64 q0, .slice ao cs.length cap, .slice ao3 picks.length cap3] w fun e w' => e = .returned (.bool true) ∧ Below w.heap.size w w' := by
  by_cases hl : longB9 cs.length picks.length
  · exact awhole_long q0 ao ao3 cs.length cap picks.length cap3 w hnp hl
  · by_cases he : playErr q0 cs picks.length 0 = 0
    · obtain ⟨k, rfl, _⟩ := play_threads he
      exact awhole_good k ao b o cap cs ao3 b3 o3 cap3 picks w hl ha hb hc hcap ha3 hb3 hc3 hnp he
    · exact awhole_bad q0 ao b o cap cs ao3 b3 o3 cap3 picks w hl ha hb hc hcap ha3 hb3 hc3 hnp he
end Go.Proofs.Ytnjpkmenahdhmaa
