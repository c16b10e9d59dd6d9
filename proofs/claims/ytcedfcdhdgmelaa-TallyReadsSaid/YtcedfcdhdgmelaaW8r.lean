/- Walk of the law TallyReads. -/
import Derived.Test.YtcedfcdhdgmelaaG8c
import Derived.Test.YtcedfcdhdgmelaaQBt
namespace Go.Proofs.Ytcedfcdhdgmelaa
open Go.RowKit
set_option linter.unusedVariables false
set_option linter.unusedSimpArgs false
set_option maxRecDepth 100000 in
set_option maxHeartbeats 2000000 in
theorem treads_good1  (ao : Option Addr) (b o cap : Nat) (cs : List CallV) (ao3 : Option Addr) (b3 o3 cap3 : Nat) (picks : List Int) (w : World) (hl : ¬ longB8 cs.length picks.length) (ha : 0 < cs.length → ao = some ⟨b, o, none⟩) (hb : 0 < cs.length → b < w.heap.size) (hc : CallsAt w b o cs) (hcap : ao = none → cap = 0)
    (ha3 : 0 < picks.length → ao3 = some ⟨b3, o3, none⟩) (hb3 : 0 < picks.length → b3 < w.heap.size) (hc3 : ICells w b3 o3 picks) (hnp : picks.length ≤ 9223372036854775807) (he : playErr 1 cs picks.length 0 = 0) (R : RepR) (hR : repOf (endM (M := talM (1 : Int).toNat) cs (List.replicate (1 : Int).toNat 0) [] picks) = R) (hbt : BetweenOk cs R.evs) (hst : ∀ x ∈ R.evs, x.steps ≤ 2) (hel : R.evs.length ≤ 70000) (hcl : cs.length ≤ 9223372036854775807) :
    Calls Try.prog 4 #[.int .i64 1, .slice ao cs.length cap, .slice ao3 picks.length cap3] w fun e w' => e = .returned (.bool true) ∧ Below w.heap.size w w' := by
  have hP := tal_play 1 ao b o cap cs ao3 b3 o3 cap3 picks w ha hb hc hcap ha3 hb3 hc3 hnp
  have HP := Lib.hid hP
  have HE := Lib.hid he
  have HL := Lib.hid hl
  have HA := Lib.hid ha
  have HB := Lib.hid hb
  have HC := Lib.hid hc
  have HBT := Lib.hid hbt
  have HST := Lib.hid hst
  have HRR := Lib.hid hR
  clear ha hb hc hcap ha3 hb3 hc3 he hl hP hbt hst hR
  go_enter Try.func4, Try.ntmps4
  go_wp2_with fail
  refine (many_no _ _ _ _ _ _ _ hnp HL.out).mono ?_
  rintro e w1 ⟨rfl, rfl⟩
  go_wp2_with fail
  refine HP.out.mono ?_
  rintro e w2 hP
  have hG := hP.good HE.out
  rw [HRR.out] at hG
  obtain ⟨aoE, gE, capE, gw, rfl, hao, hev, hrw, hgw, hb2⟩ := hG
  have HB2 : Hid (Below w.heap.size w w2) := Lib.hid hb2
  have HAO := Lib.hid hao
  have HEV := Lib.hid hev
  have z2 := HB2.out.size
  have HRE : Hid (RowBlk 31 (w2.alloc (.cells (repVs (.slice aoE R.evs.length capE) gw R).toArray 31)) w2.heap.size (repVs (.slice aoE R.evs.length capE) gw R)) := Lib.hid (RowBlk.new _ _ _)
  have HB3 : Hid (Below w.heap.size w (w2.alloc (.cells (repVs (.slice aoE R.evs.length capE) gw R).toArray 31))) := Lib.hid (hb2.alloc z2 _)
  have HE3 : Hid (EvAllG w.heap.size (w2.alloc (.cells (repVs (.slice aoE R.evs.length capE) gw R).toArray 31)) gE R.evs) := Lib.hid (hev.below ((Below.refl _ _).alloc (Nat.le_refl _) _) (Nat.le_refl _))
  clear hP hb2 hev hrw hao HP
  unfold repVs
  rw [show (repVs (.slice aoE R.evs.length capE) gw R).toArray = #[.slice aoE R.evs.length capE, .slice (some ⟨gw, 0, none⟩) R.ws.length R.ws.length, .int .i64 (R.cn.r : Int), .int .i64 (R.cn.w : Int), .int .i64 (R.cn.s : Int), .int .i64 (R.cn.a : Int), .int .i64 (R.cn.f : Int), .int .i64 (R.ticks : Int), .int .i64 (R.idle : Int)] from rfl] at HRE HB3 HE3
  have HBET : Hid (∀ W : World, Below w.heap.size w W → EvAllG w.heap.size W gE R.evs → Calls Try.prog 16 #[.agg #[.slice aoE R.evs.length capE, .slice (some ⟨gw, 0, none⟩) R.ws.length R.ws.length, .int .i64 (R.cn.r : Int), .int .i64 (R.cn.w : Int), .int .i64 (R.cn.s : Int), .int .i64 (R.cn.a : Int), .int .i64 (R.cn.f : Int), .int .i64 (R.ticks : Int), .int .i64 (R.idle : Int)], .slice ao cs.length cap] W fun e w' => e = .returned (.bool true) ∧ Below W.heap.size W w') := Lib.hid (fun W hW hE => between_yes cs R aoE gE capE gw ao b o cap w.heap.size W HBT.out HAO.out hE (HC.out.stays hW HB.out) HA.out hcl hel)
  have HMOS : Hid (∀ W : World, EvAllG w.heap.size W gE R.evs → Calls Try.prog 17 #[.agg #[.slice aoE R.evs.length capE, .slice (some ⟨gw, 0, none⟩) R.ws.length R.ws.length, .int .i64 (R.cn.r : Int), .int .i64 (R.cn.w : Int), .int .i64 (R.cn.s : Int), .int .i64 (R.cn.a : Int), .int .i64 (R.cn.f : Int), .int .i64 (R.ticks : Int), .int .i64 (R.idle : Int)], .int .i64 2] W fun e w' => e = .returned (.bool true) ∧ Below W.heap.size W w') := Lib.hid (fun W hE => most_yes R aoE gE capE gw 2 w.heap.size W HAO.out hE HST.out hel)
  go_wp2_with fail
  generalize w2.alloc (.cells #[.slice aoE R.evs.length capE, .slice (some ⟨gw, 0, none⟩) R.ws.length R.ws.length, .int .i64 (R.cn.r : Int), .int .i64 (R.cn.w : Int), .int .i64 (R.cn.s : Int), .int .i64 (R.cn.a : Int), .int .i64 (R.cn.f : Int), .int .i64 (R.ticks : Int), .int .i64 (R.idle : Int)] 31) = w0 at HRE HB3 HE3 ⊢
  refine (HBET.out w0 HB3.out HE3.out).mono ?_
  rintro e w3 ⟨rfl, hb3⟩
  have hr3 := HRE.out.same (hb3.block _ HRE.out.lt)
  have k0 := hr3.cell (i := 0) rfl
  have k1 := hr3.cell (i := 1) rfl
  have k2 := hr3.cell (i := 2) rfl
  have k3 := hr3.cell (i := 3) rfl
  have k4 := hr3.cell (i := 4) rfl
  have k5 := hr3.cell (i := 5) rfl
  have k6 := hr3.cell (i := 6) rfl
  have k7 := hr3.cell (i := 7) rfl
  have k8 := hr3.cell (i := 8) rfl
  have HB4 : Hid (Below w.heap.size w w3) := Lib.hid (HB3.out.trans (hb3.mono HB3.out.size))
  have HE4 : Hid (EvAllG w.heap.size w3 gE R.evs) := Lib.hid (HE3.out.below hb3 (Nat.le_refl _))
  clear hb3 hr3
  go_wp2_with fail
  refine (HMOS.out w3 HE4.out).mono ?_
  rintro e w4 ⟨rfl, hb4⟩
  have HB5 : Hid (Below w.heap.size w w4) := Lib.hid (HB4.out.trans (hb4.mono HB4.out.size))
  clear hb4 k0 k1 k2 k3 k4 k5 k6 k7 k8
  go_wp2_with fail
  refine (one_any8 _).mono ?_
  rintro e w5 ⟨rfl, hb5⟩
  have HB6 : Hid (Below w.heap.size w w5) := Lib.hid (HB5.out.trans (hb5.mono HB5.out.size))
  clear hb5
  go_wp2_with fail
  go_ret
  exact ⟨rfl, HB6.out⟩
set_option maxRecDepth 100000 in
set_option maxHeartbeats 2000000 in
theorem treads_good2 (k : Nat) (hk2 : 2 ≤ k) (ao : Option Addr) (b o cap : Nat) (cs : List CallV) (ao3 : Option Addr) (b3 o3 cap3 : Nat) (picks : List Int) (w : World) (hl : ¬ longB8 cs.length picks.length) (ha : 0 < cs.length → ao = some ⟨b, o, none⟩) (hb : 0 < cs.length → b < w.heap.size) (hc : CallsAt w b o cs) (hcap : ao = none → cap = 0)
    (ha3 : 0 < picks.length → ao3 = some ⟨b3, o3, none⟩) (hb3 : 0 < picks.length → b3 < w.heap.size) (hc3 : ICells w b3 o3 picks) (hnp : picks.length ≤ 9223372036854775807) (he : playErr (k : Int) cs picks.length 0 = 0) (R : RepR) (hR : repOf (endM (M := talM (k : Int).toNat) cs (List.replicate (k : Int).toNat 0) [] picks) = R) (hbt : BetweenOk cs R.evs) (hst : ∀ x ∈ R.evs, x.steps ≤ k) (hel : R.evs.length ≤ 70000) (hcl : cs.length ≤ 9223372036854775807) (hk16 : k ≤ 16) :
    Calls Try.prog 4 #[.int .i64 (k : Int), .slice ao cs.length cap, .slice ao3 picks.length cap3] w fun e w' => e = .returned (.bool true) ∧ Below w.heap.size w w' := by
  have hP := tal_play (k : Int) ao b o cap cs ao3 b3 o3 cap3 picks w ha hb hc hcap ha3 hb3 hc3 hnp
  have HP := Lib.hid hP
  have HE := Lib.hid he
  have HL := Lib.hid hl
  have HA := Lib.hid ha
  have HB := Lib.hid hb
  have HC := Lib.hid hc
  have HBT := Lib.hid hbt
  have HST := Lib.hid hst
  have HRR := Lib.hid hR
  have kk1 : ¬ (k : Int) < 2 := by omega
  have kk2 : ¬ k < 2 := by omega
  have kk3 : (2 : Int) ≤ (k : Int) := by omega
  clear ha hb hc hcap ha3 hb3 hc3 he hl hP hbt hst hR
  go_enter Try.func4, Try.ntmps4
  go_wp2_with fail
  refine (many_no _ _ _ _ _ _ _ hnp HL.out).mono ?_
  rintro e w1 ⟨rfl, rfl⟩
  go_wp2_with fail
  refine HP.out.mono ?_
  rintro e w2 hP
  have hG := hP.good HE.out
  rw [HRR.out] at hG
  obtain ⟨aoE, gE, capE, gw, rfl, hao, hev, hrw, hgw, hb2⟩ := hG
  have HB2 : Hid (Below w.heap.size w w2) := Lib.hid hb2
  have HAO := Lib.hid hao
  have HEV := Lib.hid hev
  have z2 := HB2.out.size
  have HRE : Hid (RowBlk 31 (w2.alloc (.cells (repVs (.slice aoE R.evs.length capE) gw R).toArray 31)) w2.heap.size (repVs (.slice aoE R.evs.length capE) gw R)) := Lib.hid (RowBlk.new _ _ _)
  have HB3 : Hid (Below w.heap.size w (w2.alloc (.cells (repVs (.slice aoE R.evs.length capE) gw R).toArray 31))) := Lib.hid (hb2.alloc z2 _)
  have HE3 : Hid (EvAllG w.heap.size (w2.alloc (.cells (repVs (.slice aoE R.evs.length capE) gw R).toArray 31)) gE R.evs) := Lib.hid (hev.below ((Below.refl _ _).alloc (Nat.le_refl _) _) (Nat.le_refl _))
  clear hP hb2 hev hrw hao HP
  unfold repVs
  rw [show (repVs (.slice aoE R.evs.length capE) gw R).toArray = #[.slice aoE R.evs.length capE, .slice (some ⟨gw, 0, none⟩) R.ws.length R.ws.length, .int .i64 (R.cn.r : Int), .int .i64 (R.cn.w : Int), .int .i64 (R.cn.s : Int), .int .i64 (R.cn.a : Int), .int .i64 (R.cn.f : Int), .int .i64 (R.ticks : Int), .int .i64 (R.idle : Int)] from rfl] at HRE HB3 HE3
  have HBET : Hid (∀ W : World, Below w.heap.size w W → EvAllG w.heap.size W gE R.evs → Calls Try.prog 16 #[.agg #[.slice aoE R.evs.length capE, .slice (some ⟨gw, 0, none⟩) R.ws.length R.ws.length, .int .i64 (R.cn.r : Int), .int .i64 (R.cn.w : Int), .int .i64 (R.cn.s : Int), .int .i64 (R.cn.a : Int), .int .i64 (R.cn.f : Int), .int .i64 (R.ticks : Int), .int .i64 (R.idle : Int)], .slice ao cs.length cap] W fun e w' => e = .returned (.bool true) ∧ Below W.heap.size W w') := Lib.hid (fun W hW hE => between_yes cs R aoE gE capE gw ao b o cap w.heap.size W HBT.out HAO.out hE (HC.out.stays hW HB.out) HA.out hcl hel)
  have HMOS : Hid (∀ W : World, EvAllG w.heap.size W gE R.evs → Calls Try.prog 17 #[.agg #[.slice aoE R.evs.length capE, .slice (some ⟨gw, 0, none⟩) R.ws.length R.ws.length, .int .i64 (R.cn.r : Int), .int .i64 (R.cn.w : Int), .int .i64 (R.cn.s : Int), .int .i64 (R.cn.a : Int), .int .i64 (R.cn.f : Int), .int .i64 (R.ticks : Int), .int .i64 (R.idle : Int)], .int .i64 (k : Int)] W fun e w' => e = .returned (.bool true) ∧ Below W.heap.size W w') := Lib.hid (fun W hE => most_yes R aoE gE capE gw k w.heap.size W HAO.out hE HST.out hel)
  go_wp2_with fail
  generalize w2.alloc (.cells #[.slice aoE R.evs.length capE, .slice (some ⟨gw, 0, none⟩) R.ws.length R.ws.length, .int .i64 (R.cn.r : Int), .int .i64 (R.cn.w : Int), .int .i64 (R.cn.s : Int), .int .i64 (R.cn.a : Int), .int .i64 (R.cn.f : Int), .int .i64 (R.ticks : Int), .int .i64 (R.idle : Int)] 31) = w0 at HRE HB3 HE3 ⊢
  refine (HBET.out w0 HB3.out HE3.out).mono ?_
  rintro e w3 ⟨rfl, hb3⟩
  have hr3 := HRE.out.same (hb3.block _ HRE.out.lt)
  have k0 := hr3.cell (i := 0) rfl
  have k1 := hr3.cell (i := 1) rfl
  have k2 := hr3.cell (i := 2) rfl
  have k3 := hr3.cell (i := 3) rfl
  have k4 := hr3.cell (i := 4) rfl
  have k5 := hr3.cell (i := 5) rfl
  have k6 := hr3.cell (i := 6) rfl
  have k7 := hr3.cell (i := 7) rfl
  have k8 := hr3.cell (i := 8) rfl
  have HB4 : Hid (Below w.heap.size w w3) := Lib.hid (HB3.out.trans (hb3.mono HB3.out.size))
  have HE4 : Hid (EvAllG w.heap.size w3 gE R.evs) := Lib.hid (HE3.out.below hb3 (Nat.le_refl _))
  clear hb3 hr3
  go_wp2_with fail
  refine (HMOS.out w3 HE4.out).mono ?_
  rintro e w4 ⟨rfl, hb4⟩
  have HB5 : Hid (Below w.heap.size w w4) := Lib.hid (HB4.out.trans (hb4.mono HB4.out.size))
  clear hb4 k0 k1 k2 k3 k4 k5 k6 k7 k8
  go_wp2_with fail
  refine (one_any8 _).mono ?_
  rintro e w5 ⟨rfl, hb5⟩
  have HB6 : Hid (Below w.heap.size w w5) := Lib.hid (HB5.out.trans (hb5.mono HB5.out.size))
  clear hb5
  go_wp2_with fail
  go_ret
  exact ⟨rfl, HB6.out⟩
theorem treads_all (q0 : Int) (ao : Option Addr) (b o cap : Nat) (cs : List CallV) (ao3 : Option Addr) (b3 o3 cap3 : Nat) (picks : List Int) (w : World) (ha : 0 < cs.length → ao = some ⟨b, o, none⟩) (hb : 0 < cs.length → b < w.heap.size) (hc : CallsAt w b o cs) (hcap : ao = none → cap = 0)
    (ha3 : 0 < picks.length → ao3 = some ⟨b3, o3, none⟩) (hb3 : 0 < picks.length → b3 < w.heap.size) (hc3 : ICells w b3 o3 picks) (hnp : picks.length ≤ 9223372036854775807) (hcl : cs.length ≤ 9223372036854775807) :
    Calls Try.prog 4 #[.int .i64 q0, .slice ao cs.length cap, .slice ao3 picks.length cap3] w fun e w' => e = .returned (.bool true) ∧ Below w.heap.size w w' := by
  by_cases hl : longB8 cs.length picks.length
  · exact treads_long q0 ao ao3 cs.length cap picks.length cap3 w hnp hl
  · by_cases he : playErr q0 cs picks.length 0 = 0
    · obtain ⟨k, rfl, hk1, hth, hpl, _, _⟩ := play_threads he
      have hevs := endM_evs (M := talM k) cs (List.replicate k 0) [] picks
      have hR := rowI_end (M := talM k) cs (List.replicate k 0) [] picks
      have hL := tal_end hk1.1 hth picks (by omega)
      have hB := tal_between hL hR
      have hS := tal_steps (talS_end (cs := cs) hk1.1 picks (List.replicate k 0) [])
      have hel : (repOf (endM (M := talM k) cs (List.replicate k 0) [] picks)).evs.length ≤ 70000 := by
        show ((endM (M := talM k) cs (List.replicate k 0) [] picks).evs.map _).length ≤ _
        rw [List.length_map]; omega
      by_cases hk2 : 2 ≤ k
      · exact treads_good2 k hk2 ao b o cap cs ao3 b3 o3 cap3 picks w hl ha hb hc hcap ha3 hb3 hc3 hnp he _ rfl hB (fun x hx => by have := hS x hx; omega) hel hcl hk1.2
      · obtain rfl : k = 1 := by omega
        exact treads_good1 ao b o cap cs ao3 b3 o3 cap3 picks w hl ha hb hc hcap ha3 hb3 hc3 hnp he _ rfl hB (fun x hx => by have := hS x hx; omega) hel hcl
    · exact treads_bad q0 ao b o cap cs ao3 b3 o3 cap3 picks w hl ha hb hc hcap ha3 hb3 hc3 hnp he
end Go.Proofs.Ytcedfcdhdgmelaa
