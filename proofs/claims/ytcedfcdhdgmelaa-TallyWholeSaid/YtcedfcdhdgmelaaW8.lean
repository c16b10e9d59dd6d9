/- Walk of the law TallyWhole. -/
import Derived.Test.YtcedfcdhdgmelaaG8c
import Derived.Test.YtcedfcdhdgmelaaQW
import Derived.Test.YtcedfcdhdgmelaaQT
import Derived.Test.YtcedfcdhdgmelaaQR
import Derived.Test.YtcedfcdhdgmelaaZG
import Derived.Test.YtcedfcdhdgmelaaGZ3
import Derived.Test.YtcedfcdhdgmelaaGQ2
namespace Go.Proofs.Ytcedfcdhdgmelaa
open Go.RowKit
set_option linter.unusedVariables false
set_option linter.unusedSimpArgs false
set_option maxRecDepth 100000 in
set_option maxHeartbeats 2000000 in
theorem whole_yes8 {D : Mod} {Inv : List Nat → Prop} {n : Nat} {k p q : Int} (hM : ModelC D Inv (n : Int) k p q) (gs cS0 : Nat) (cs : List CallV) (r : RepR) (aoE : Option Addr) (gE capE gw : Nat) (ao : Option Addr) (b o cap B : Nat) (w : World)
    (hs0 : w.cell? ⟨gs, 0, none⟩ = some (.int .i64 k)) (hs1 : w.cell? ⟨gs, 1, none⟩ = some (.int .i64 p)) (hs2 : w.cell? ⟨gs, 2, none⟩ = some (.int .i64 q))
    (hR : RowsOk cs n r) (hao : 0 < r.evs.length → aoE = some ⟨gE, 0, none⟩) (hev : EvAllG B w gE r.evs) (hc : CallsAt w b o cs) (ha : 0 < cs.length → ao = some ⟨b, o, none⟩) (hcl : cs.length ≤ 9223372036854775807) (hel : r.evs.length ≤ 70000)
    (hall : ∀ (kk j : Nat) (x : EvR), (ordP r.evs r.evs.length)[kk]? = some j → r.evs[j]? = some x → ¬ x.resp = 0) (hWr : WrongOk D cs r.evs) :
    Calls Try.prog 13 #[.int .i64 (n : Int), .slice (some ⟨gs, 0, none⟩) 1 cS0, .slice ao cs.length cap, .agg (repVs (.slice aoE r.evs.length capE) gw r).toArray] w fun e w' => e = .returned (.bool true) ∧ Below w.heap.size w w' := by
  have hbl : ∀ h0 : 0 < cs.length, b < w.heap.size := fun h0 => by
    obtain ⟨x, hx⟩ : ∃ x, cs[0]? = some x := ⟨cs[0], List.getElem?_eq_getElem h0⟩
    exact World.block_lt_of_cell? w ⟨b, _, none⟩ (hc 0 x hx).1
  have hgl := World.block_lt_of_cell? w ⟨gs, 0, none⟩ hs0
  have HSP : Hid (∀ W, Below w.heap.size w W → W.cell? ⟨gs, 0, none⟩ = some (.int .i64 k) ∧ W.cell? ⟨gs, 1, none⟩ = some (.int .i64 p) ∧ W.cell? ⟨gs, 2, none⟩ = some (.int .i64 q)) := Lib.hid (fun W hW => ⟨(hW.cell (p := ⟨gs, 0, none⟩) hgl).trans hs0, (hW.cell (p := ⟨gs, 1, none⟩) hgl).trans hs1, (hW.cell (p := ⟨gs, 2, none⟩) hgl).trans hs2⟩)
  have hb0 : Below w.heap.size w (w.alloc (.cells (repVs (.slice aoE r.evs.length capE) gw r).toArray 31)) := (Below.refl _ _).alloc (Nat.le_refl _) _
  have H1 := Lib.hid (rows_yes cs n r aoE gE capE gw ao b o cap B (w.alloc (.cells (repVs (.slice aoE r.evs.length capE) gw r).toArray 31)) hR hao (hev.below hb0 (Nat.le_refl _)) (hc.stays hb0 hbl) ha hcl hel)
  have H2 : Hid (∀ W, Below w.heap.size w W → Calls Try.prog 26 #[.int .i64 (n : Int), .slice (some ⟨gs, 0, none⟩) 1 cS0, .slice ao cs.length cap, .slice aoE r.evs.length capE] W fun e w' => e = .returned (.int .i64 (-1)) ∧ Below W.heap.size W w') := Lib.hid (fun W hW => by
    obtain ⟨p0, p1, p2⟩ := HSP.out W hW
    refine wrong_yes hM hR.n1 gs cS0 ao b o cap cs aoE gE capE r.evs B W p0 p1 p2 hao (hev.below hW (Nat.le_refl _)) hel (hc.stays hW hbl) ha hcl (fun j x hx => ?_) (fun j x hx hr h0 => ?_) hall hWr
    · obtain ⟨y, h1, h2, h3⟩ := (hR.ev j x hx).call
      exact ⟨y, h1, h2, h3⟩
    · obtain ⟨_, _, _, a, ra, hk, _⟩ := (hR.ev j x hx).done hr
      rw [hk] at h0; simp at h0)
  have H3 : Hid (∀ W, Below w.heap.size w W → Calls Try.prog 27 #[.slice aoE r.evs.length capE] W fun e w' => e = .returned (.bool true) ∧ Below W.heap.size W w') := Lib.hid (fun W hW => aheadAll_yes aoE gE capE r.evs B W hao (hev.below hW (Nat.le_refl _)) (rows_ahead hR) hel)
  have HB0 := Lib.hid hb0
  have HRB := Lib.hid (RowBlk.new w (repVs (.slice aoE r.evs.length capE) gw r) 31)
  clear hM hs0 hs1 hs2 hR hao hev hc ha hall hWr hb0
  unfold repVs at *
  go_enter Try.func13, Try.ntmps13
  go_wp2_with fail
  refine H1.out.mono ?_
  rintro e w1 ⟨rfl, hb1⟩
  have hr1 := HRB.out.same (hb1.block _ (by simp))
  have c0 : w1.cell? ⟨w.heap.size, 0, none⟩ = some (.slice aoE r.evs.length capE) := hr1.cell rfl
  have HB1 : Hid (Below w.heap.size w w1) := Lib.hid (HB0.out.trans (hb1.mono (by simp)))
  have HR1 := Lib.hid hr1
  clear hb1 hr1
  go_wp2_with fail
  refine (H2.out w1 HB1.out).mono ?_
  rintro e w2 ⟨rfl, hb2⟩
  have hr2 := HR1.out.same (hb2.block _ HR1.out.lt)
  have c0' : w2.cell? ⟨w.heap.size, 0, none⟩ = some (.slice aoE r.evs.length capE) := hr2.cell rfl
  have HB2 : Hid (Below w.heap.size w w2) := Lib.hid (HB1.out.trans (hb2.mono HB1.out.size))
  clear hb2 hr2 c0
  go_wp2_with fail
  refine (H3.out w2 HB2.out).mono ?_
  rintro e w3 ⟨rfl, hb3⟩
  have HB3 : Hid (Below w.heap.size w w3) := Lib.hid (HB2.out.trans (hb3.mono HB2.out.size))
  clear hb3
  go_wp2_with fail
  go_ret
  exact ⟨rfl, HB3.out⟩
set_option maxRecDepth 100000 in
set_option maxHeartbeats 2000000 in
theorem twhole_good (k : Nat) (ao : Option Addr) (b o cap : Nat) (cs : List CallV) (ao3 : Option Addr) (b3 o3 cap3 : Nat) (picks : List Int) (w : World) (hl : ¬ longB8 cs.length picks.length) (ha : 0 < cs.length → ao = some ⟨b, o, none⟩) (hb : 0 < cs.length → b < w.heap.size) (hc : CallsAt w b o cs) (hcap : ao = none → cap = 0)
    (ha3 : 0 < picks.length → ao3 = some ⟨b3, o3, none⟩) (hb3 : 0 < picks.length → b3 < w.heap.size) (hc3 : ICells w b3 o3 picks) (hnp : picks.length ≤ 9223372036854775807) (he : playErr (k : Int) cs picks.length 0 = 0) (R : RepR) (hR : repOf (endM (M := talM (k : Int).toNat) cs (List.replicate (k : Int).toNat 0) [] picks) = R) (hrows : RowsOk cs k R) (hwr : WrongOk talD cs R.evs) (hall : ∀ (kk j : Nat) (x : EvR), (ordP R.evs R.evs.length)[kk]? = some j → R.evs[j]? = some x → ¬ x.resp = 0) (hel : R.evs.length ≤ 70000) (hcl : cs.length ≤ 9223372036854775807) :
    Calls Try.prog 5 #[.int .i64 (k : Int), .slice ao cs.length cap, .slice ao3 picks.length cap3] w fun e w' => e = .returned (.bool true) ∧ Below w.heap.size w w' := by
  have hP := tal_play (k : Int) ao b o cap cs ao3 b3 o3 cap3 picks w ha hb hc hcap ha3 hb3 hc3 hnp
  have HP := Lib.hid hP
  have HE := Lib.hid he
  have HL := Lib.hid hl
  have HA := Lib.hid ha
  have HB := Lib.hid hb
  have HC := Lib.hid hc
  have HRO := Lib.hid hrows
  have HWR := Lib.hid hwr
  have HAL := Lib.hid hall
  have HEL := Lib.hid hel
  have HRR := Lib.hid hR
  clear ha hb hc hcap ha3 hb3 hc3 he hl hP hR hrows hwr hall hel
  go_enter Try.func5, Try.ntmps5
  go_wp2_with fail
  refine (many_no _ _ _ _ _ _ _ hnp HL.out).mono ?_
  rintro e w1 ⟨rfl, rfl⟩
  go_wp2_with fail
  refine HP.out.mono ?_
  rintro e w2 hP
  have hG := hP.good HE.out
  rw [HRR.out] at hG
  obtain ⟨aoE, gE, capE, gw, rfl, hao, hev, hrw, hgw, hb2⟩ := hG
  have HB2 : Hid (Below w.heap.size w w2) := Lib.hid hb2
  have HAO := Lib.hid hao
  have HEV := Lib.hid hev
  have z2 := HB2.out.size
  clear hP hb2 hev hrw hao HP
  unfold repVs
  go_wp2_with fail
  have hbx : Below w2.heap.size w2 ((w2.alloc (.cells (repVs (.slice aoE R.evs.length capE) gw R).toArray 31)).alloc (.cells #[.int .i64 2, .int .i64 0, .int .i64 0] 38)) := ((Below.refl _ _).alloc (Nat.le_refl _) _).alloc (by simp) _
  have hsp : RowBlk 38 ((w2.alloc (.cells (repVs (.slice aoE R.evs.length capE) gw R).toArray 31)).alloc (.cells #[.int .i64 2, .int .i64 0, .int .i64 0] 38)) (w2.heap.size + 1) [.int .i64 2, .int .i64 0, .int .i64 0] := by
    have h1 := RowBlk.new (w2.alloc (.cells (repVs (.slice aoE R.evs.length capE) gw R).toArray 31)) [.int .i64 2, .int .i64 0, .int .i64 0] 38
    have e : (w2.alloc (.cells (repVs (.slice aoE R.evs.length capE) gw R).toArray 31)).heap.size = w2.heap.size + 1 := by simp
    rw [e] at h1; exact h1
  have hRW := whole_yes8 (model_tally k 0 0) (w2.heap.size + 1) 1 cs R aoE gE capE gw ao b o cap w.heap.size _ (hsp.cell (i := 0) rfl) (hsp.cell (i := 1) rfl) (hsp.cell (i := 2) rfl) HRO.out HAO.out (HEV.out.below hbx (Nat.le_refl _)) (HC.out.stays (HB2.out.trans (hbx.mono z2)) HB.out) HA.out hcl HEL.out HAL.out HWR.out
  refine hRW.mono ?_
  rintro e w3 ⟨rfl, hb3⟩
  have HB3 : Hid (Below w.heap.size w w3) := Lib.hid ((HB2.out.trans (hbx.mono z2)).trans (hb3.mono (by have := hbx.size; omega)))
  clear hb3 hRW hbx hsp
  go_wp2_with fail
  refine (one_any8 _).mono ?_
  rintro e w4 ⟨rfl, hb4⟩
  have HB4 : Hid (Below w.heap.size w w4) := Lib.hid (HB3.out.trans (hb4.mono HB3.out.size))
  clear hb4
  go_wp2_with fail
  go_ret
  exact ⟨rfl, HB4.out⟩

theorem twhole_all (q0 : Int) (ao : Option Addr) (b o cap : Nat) (cs : List CallV) (ao3 : Option Addr) (b3 o3 cap3 : Nat) (picks : List Int) (w : World) (ha : 0 < cs.length → ao = some ⟨b, o, none⟩) (hb : 0 < cs.length → b < w.heap.size) (hc : CallsAt w b o cs) (hcap : ao = none → cap = 0)
    (ha3 : 0 < picks.length → ao3 = some ⟨b3, o3, none⟩) (hb3 : 0 < picks.length → b3 < w.heap.size) (hc3 : ICells w b3 o3 picks) (hnp : picks.length ≤ 9223372036854775807) (hcl : cs.length ≤ 9223372036854775807) :
    Calls Try.prog 5 #[.int .i64 q0, .slice ao cs.length cap, .slice ao3 picks.length cap3] w fun e w' => e = .returned (.bool true) ∧ Below w.heap.size w w' := by
  by_cases hl : longB8 cs.length picks.length
  · exact twhole_long q0 ao ao3 cs.length cap picks.length cap3 w hnp hl
  · by_cases he : playErr q0 cs picks.length 0 = 0
    · obtain ⟨k, rfl, hk1, hth, hpl, _, _⟩ := play_threads he
      have hevs := endM_evs (M := talM k) cs (List.replicate k 0) [] picks
      have hR := rowI_end (M := talM k) cs (List.replicate k 0) [] picks
      have hL := tal_end hk1.1 hth picks (by omega)
      have hU := respI_end (M := talM k) cs (List.replicate k 0) [] picks
      have hRO := rows_ok hR hth hk1 (tal_in hL hR) (endM_cn (M := talM k) cs (List.replicate k 0) [] picks) (by omega)
      have hW := tal_wrong hL hR hU (by omega)
      have hel : (repOf (endM (M := talM k) cs (List.replicate k 0) [] picks)).evs.length ≤ 70000 := by
        show ((endM (M := talM k) cs (List.replicate k 0) [] picks).evs.map _).length ≤ _
        rw [List.length_map]; omega
      exact twhole_good k ao b o cap cs ao3 b3 o3 cap3 picks w hl ha hb hc hcap ha3 hb3 hc3 hnp he _ rfl hRO hW (fun kk j x hj hx hr => by
        have hx' : ((endM (M := talM k) cs (List.replicate k 0) [] picks).evs.map (evR _))[j]? = some x := hx
        rw [List.getElem?_map] at hx'
        obtain ⟨v, hv, rfl⟩ := Option.map_eq_some_iff.1 hx'
        have hm := (ordP_mem.1 (List.mem_of_getElem? hj)).2
        rw [keyAt_some hx] at hm
        have hr' : v.resp = 0 := hr
        have hk0 : (evR (endM (M := talM k) cs (List.replicate k 0) [] picks).s v).key = [] := by
          show (if v.resp = 0 then keyQ _ v.q else v.key) = []
          rw [if_pos hr']; exact (hL.pend j v hv hr').1
        have hm' : 0 < (evR (endM (M := talM k) cs (List.replicate k 0) [] picks).s v).key.length := hm
        rw [hk0] at hm'
        simp at hm') hel hcl
    · exact twhole_bad q0 ao b o cap cs ao3 b3 o3 cap3 picks w hl ha hb hc hcap ha3 hb3 hc3 hnp he
end Go.Proofs.Ytcedfcdhdgmelaa
