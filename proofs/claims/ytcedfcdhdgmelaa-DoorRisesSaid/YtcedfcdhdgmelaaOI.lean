/- Walk of the law DoorRises. -/
import Derived.Test.YtcedfcdhdgmelaaOG
import Derived.Test.YtcedfcdhdgmelaaZE
namespace Go.Proofs.Ytcedfcdhdgmelaa
open Go.RowKit
set_option linter.unusedVariables false
set_option linter.unusedSimpArgs false

def sameCs : List CallV := [⟨0, 0, 0, 0, 0, 0⟩, ⟨1, 0, 0, 0, 0, 0⟩, ⟨0, 0, 0, 0, 0, 0⟩]
theorem same_end : repOf (endM (M := doorM (2 : Int).toNat) sameCs (List.replicate (2 : Int).toNat 0) () [0, 1, 0, 1, 0, 1, 0, 0, 0]) = ⟨[⟨0, 1, 5, 3, ⟨0, 1, []⟩, [10]⟩, ⟨1, 2, 6, 3, ⟨0, 1, []⟩, [12]⟩, ⟨2, 7, 9, 3, ⟨0, 2, []⟩, [18]⟩], [2, 1], ⟨6, 3, 0, 0, 0⟩, 9, 0⟩ := by rfl
set_option maxRecDepth 100000 in
set_option maxHeartbeats 4000000 in
theorem same_any (w : World) : Calls Try.prog 18 #[] w fun e w' => e = .returned (.bool true) ∧ Below w.heap.size w w' := by
  go_enter Try.func18, Try.ntmps18
  go_wp2_with fail
  generalize hw2 : (w.alloc (.cells #[.int .i64 0, .int .i64 0, .int .i64 0, .int .u64 0, .int .u64 0, .int .u64 0, .int .i64 1, .int .i64 0, .int .i64 0, .int .u64 0, .int .u64 0, .int .u64 0, .int .i64 0, .int .i64 0, .int .i64 0, .int .u64 0, .int .u64 0, .int .u64 0] 49)).alloc (.cells #[.int .i64 0, .int .i64 1, .int .i64 0, .int .i64 1, .int .i64 0, .int .i64 1, .int .i64 0, .int .i64 0, .int .i64 0] 3) = w2
  have HB0 : Hid (Below w.heap.size w w2) := Lib.hid (by rw [← hw2]; exact ((Below.refl _ _).alloc (Nat.le_refl _) _).alloc (by simp) _)
  have hsz : w2.heap.size = w.heap.size + 2 := by rw [← hw2]; simp
  have hc : CallsAt w2 w.heap.size 0 sameCs := by
    have e : ∀ k, w2.cell? ⟨w.heap.size, k, none⟩ = (#[.int .i64 0, .int .i64 0, .int .i64 0, .int .u64 0, .int .u64 0, .int .u64 0, .int .i64 1, .int .i64 0, .int .i64 0, .int .u64 0, .int .u64 0, .int .u64 0, .int .i64 0, .int .i64 0, .int .i64 0, .int .u64 0, .int .u64 0, .int .u64 0] : Array Value)[k]? := fun k => by
      rw [← hw2, World.cell?_alloc_past _ _ _ (by simp), World.cell?_alloc_at _ _ _ _ rfl]
    intro i x hx
    match i, hx with
    | 0, hx => cases hx; refine ⟨e _, e _, e _, e _, e _, e _, ?_⟩; decide
    | 1, hx => cases hx; refine ⟨e _, e _, e _, e _, e _, e _, ?_⟩; decide
    | 2, hx => cases hx; refine ⟨e _, e _, e _, e _, e _, e _, ?_⟩; decide
    | i + 3, hx => simp [sameCs] at hx
  have hp : ICells w2 (w.heap.size + 1) 0 [0, 1, 0, 1, 0, 1, 0, 0, 0] := by
    have e : ∀ k, w2.cell? ⟨w.heap.size + 1, k, none⟩ = (#[.int .i64 0, .int .i64 1, .int .i64 0, .int .i64 1, .int .i64 0, .int .i64 1, .int .i64 0, .int .i64 0, .int .i64 0] : Array Value)[k]? := fun k => by
      rw [← hw2, World.cell?_alloc_at _ _ _ _ (by simp)]
    intro i x hx
    match i, hx with
    | 0, hx => cases hx; exact ⟨e _, by decide⟩
    | 1, hx => cases hx; exact ⟨e _, by decide⟩
    | 2, hx => cases hx; exact ⟨e _, by decide⟩
    | 3, hx => cases hx; exact ⟨e _, by decide⟩
    | 4, hx => cases hx; exact ⟨e _, by decide⟩
    | 5, hx => cases hx; exact ⟨e _, by decide⟩
    | 6, hx => cases hx; exact ⟨e _, by decide⟩
    | 7, hx => cases hx; exact ⟨e _, by decide⟩
    | 8, hx => cases hx; exact ⟨e _, by decide⟩
    | i + 9, hx => simp at hx
  have HG := Lib.hid (door_play 2 (some ⟨w.heap.size, 0, none⟩) w.heap.size 0 3 sameCs (some ⟨w.heap.size + 1, 0, none⟩) (w.heap.size + 1) 0 9 [0, 1, 0, 1, 0, 1, 0, 0, 0] w2 (fun _ => rfl) (fun _ => by omega) hc (fun h => by cases h) (fun _ => rfl) (fun _ => by omega) hp (by decide))
  clear hw2 hc hp
  refine (show Calls Try.prog 19 #[.int .i64 2, .slice (some ⟨w.heap.size, 0, none⟩) 3 3, .slice (some ⟨w.heap.size + 1, 0, none⟩) 9 9] w2 (PlayG (doorM (2 : Int).toNat) 2 0 sameCs (List.replicate (2 : Int).toNat 0) () [0, 1, 0, 1, 0, 1, 0, 0, 0] w2) from HG.out).mono ?_
  rintro e w3 hP
  obtain ⟨aoE, gE, capE, gw, rfl, hao, hev, hrw, _, hb3⟩ := hP.good (by decide)
  rw [same_end] at hao hev hrw ⊢
  obtain rfl := hao (by decide)
  have z := hb3.size
  have HB3 : Hid (Below w.heap.size w w3) := Lib.hid (HB0.out.trans (hb3.mono (by omega)))
  obtain ⟨_, la0, ka0, lc0, kc0, v0⟩ := hev 0 _ rfl
  obtain ⟨_, la1, ka1, lc1, kc1, v1⟩ := hev 1 _ rfl
  obtain ⟨_, la2, ka2, lc2, kc2, v2⟩ := hev 2 _ rfl
  have r5 : w3.cell? ⟨gE, 5, none⟩ = some (.int .u64 1) := v0.c5
  have r13 : w3.cell? ⟨gE, 13, none⟩ = some (.int .u64 1) := v1.c5
  have r21 : w3.cell? ⟨gE, 21, none⟩ = some (.int .u64 2) := v2.c5
  have r19 : w3.cell? ⟨gE, 19, none⟩ = some (.int .i64 3) := v2.c3
  have l1 := World.block_lt_of_cell? w3 ⟨gE, 5, none⟩ r5
  clear hao hev hrw hb3 v0 v1 v2 HG hP
  unfold repVs
  go_wp2_with fail
  go_ret
  exact ⟨rfl, HB3.out.alloc (by omega) _⟩

def longB (cl pl : Nat) : Prop := (60 < cl ∧ cl ≤ 1000) ∨ (600 < pl ∧ pl ≤ 65536) ∨ 1100 < cl
set_option maxRecDepth 20000 in
theorem rises_long (q0 : Int) (ao ao3 : Option Addr) (cl cap pl cap3 : Nat) (w : World) (hp : pl ≤ 9223372036854775807) (h : longB cl pl) :
    Calls Try.prog 6 #[.int .i64 q0, .slice ao cl cap, .slice ao3 pl cap3] w fun e w' => e = .returned (.bool true) ∧ Below w.heap.size w w' := by
  have H := Lib.hid h
  clear h
  go_enter Try.func6, Try.ntmps6
  go_wp2_with fail
  refine (many_yes _ _ _ _ _ _ _ hp H.out).mono ?_
  rintro e w1 ⟨rfl, rfl⟩
  go_wp2_with fail
  refine (same_any _).mono ?_
  rintro e w2 ⟨rfl, hb⟩
  have HB : Hid (Below w.heap.size w w2) := Lib.hid hb
  clear hb
  go_wp2_with fail
  go_ret
  exact ⟨rfl, HB.out⟩
set_option maxRecDepth 100000 in
set_option maxHeartbeats 2000000 in
theorem rises_bad (q0 : Int) (ao : Option Addr) (b o cap : Nat) (cs : List CallV) (ao3 : Option Addr) (b3 o3 cap3 : Nat) (picks : List Int) (w : World) (hl : ¬ longB cs.length picks.length) (ha : 0 < cs.length → ao = some ⟨b, o, none⟩) (hb : 0 < cs.length → b < w.heap.size) (hc : CallsAt w b o cs) (hcap : ao = none → cap = 0)
    (ha3 : 0 < picks.length → ao3 = some ⟨b3, o3, none⟩) (hb3 : 0 < picks.length → b3 < w.heap.size) (hc3 : ICells w b3 o3 picks) (hnp : picks.length ≤ 9223372036854775807) (he : playErr q0 cs picks.length 0 ≠ 0) :
    Calls Try.prog 6 #[.int .i64 q0, .slice ao cs.length cap, .slice ao3 picks.length cap3] w fun e w' => e = .returned (.bool true) ∧ Below w.heap.size w w' := by
  have hw1 : Below w.heap.size w w := Below.refl _ _
  have hP := door_play q0 ao b o cap cs ao3 b3 o3 cap3 picks w ha hb hc hcap ha3 hb3 hc3 hnp
  have HP := Lib.hid hP
  have HE := Lib.hid he
  have HL := Lib.hid hl
  have hne : ¬ ((playErr q0 cs picks.length 0 : Nat) : Int) = 0 := by omega
  clear ha hb hc hcap ha3 hb3 hc3 he hl hP
  go_enter Try.func6, Try.ntmps6
  go_wp2_with fail
  refine (many_no _ _ _ _ _ _ _ hnp HL.out).mono ?_
  rintro e w1 ⟨rfl, rfl⟩
  go_wp2_with fail
  refine HP.out.mono ?_
  rintro e w2 hP
  obtain ⟨rfl, hb2⟩ := hP.bad HE.out
  have HB2 : Hid (Below w.heap.size w w2) := Lib.hid (hw1.trans (hb2.mono (by simp)))
  clear hP hb2 HP hw1
  generalize playErr q0 cs picks.length 0 = er at *
  unfold zeroRep zeroVs
  go_wp2_with fail
  have hnz := none_zero (w2.alloc (.cells #[.slice none 0 0, .slice none 0 0, .int .i64 0, .int .i64 0, .int .i64 0, .int .i64 0, .int .i64 0, .int .i64 0, .int .i64 0] 31))
  unfold zeroRep zeroVs at hnz
  refine hnz.mono ?_
  rintro e w3 ⟨rfl, hb3⟩
  have z2 := HB2.out.size
  have HB3 : Hid (Below w.heap.size w w3) := Lib.hid ((HB2.out.alloc z2 _).trans (hb3.mono (by simp; omega)))
  clear hb3 hnz
  go_wp2_with fail
  refine (same_any _).mono ?_
  rintro e w4 ⟨rfl, hb4⟩
  have HB4 : Hid (Below w.heap.size w w4) := Lib.hid (HB3.out.trans (hb4.mono HB3.out.size))
  clear hb4
  go_wp2_with fail
  go_ret
  exact ⟨rfl, HB4.out⟩
theorem begun_snoc {cs : List CallV} {evs : List EvR} {x y : EvR} {j : Nat} (h : evs[j]? = some y) : (evs.take (j + 1)).countP (begunD cs x) = (evs.take j).countP (begunD cs x) + (if begunD cs x y = true then 1 else 0) := by
  rw [take_snoc h, List.countP_append, List.countP_singleton]
theorem begunD_eq {cs : List CallV} {x y : EvR} {z : CallV} (hz : cs[y.i]? = some z) : begunD cs x y = (decide (z.o = 0 ∧ z.k = 0) && decide (y.inv < x.resp)) := by unfold begunD; rw [isEntC_some hz]

set_option maxRecDepth 100000 in
set_option maxHeartbeats 8000000 in
theorem rises_good (k : Nat) (ao : Option Addr) (b o cap : Nat) (cs : List CallV) (ao3 : Option Addr) (b3 o3 cap3 : Nat) (picks : List Int) (w : World) (hl : ¬ longB cs.length picks.length) (ha : 0 < cs.length → ao = some ⟨b, o, none⟩) (hb : 0 < cs.length → b < w.heap.size) (hc : CallsAt w b o cs) (hcap : ao = none → cap = 0)
    (ha3 : 0 < picks.length → ao3 = some ⟨b3, o3, none⟩) (hb3 : 0 < picks.length → b3 < w.heap.size) (hc3 : ICells w b3 o3 picks) (hnp : picks.length ≤ 9223372036854775807) (hcl : cs.length ≤ 9223372036854775807) (he : playErr (k : Int) cs picks.length 0 = 0) (hk : k ≤ 16)
    (R : RepR) (hR : repOf (endM (M := doorM (k : Int).toNat) cs (List.replicate (k : Int).toNat 0) () picks) = R) (hA : RisesOk k cs R.evs) (hel : R.evs.length ≤ 70000) :
    Calls Try.prog 6 #[.int .i64 (k : Int), .slice ao cs.length cap, .slice ao3 picks.length cap3] w fun e w' => e = .returned (.bool true) ∧ Below w.heap.size w w' := by
  have HP := Lib.hid (door_play (k : Int) ao b o cap cs ao3 b3 o3 cap3 picks w ha hb hc hcap ha3 hb3 hc3 hnp)
  have HE := Lib.hid he
  have HL := Lib.hid hl
  have HA := Lib.hid ha
  have HB := Lib.hid hb
  have HC := Lib.hid hc
  have HAG := Lib.hid hA
  have HRR := Lib.hid hR
  clear ha hb hc hcap ha3 hb3 hc3 he hl hA hR
  go_enter Try.func6, Try.ntmps6
  go_wp2_with fail
  refine (many_no _ _ _ _ _ _ _ hnp HL.out).mono ?_
  rintro e w1 ⟨rfl, rfl⟩
  go_wp2_with fail
  refine HP.out.mono ?_
  rintro e w2 hP
  have hG := hP.good HE.out
  rw [HRR.out] at hG
  obtain ⟨aoE, gE, capE, gw, rfl, hao, hev, hrw, hgw, hb2⟩ := hG
  have HAO := Lib.hid hao
  have z2 := hb2.size
  have HEV : Hid (EvAllG w.heap.size (w2.alloc (.cells (repVs (.slice aoE R.evs.length capE) gw R).toArray 31)) gE R.evs) := Lib.hid (hev.below ((Below.refl _ _).alloc (Nat.le_refl _) _) (Nat.le_refl _))
  have HRE : Hid (RowBlk 31 (w2.alloc (.cells (repVs (.slice aoE R.evs.length capE) gw R).toArray 31)) w2.heap.size (repVs (.slice aoE R.evs.length capE) gw R)) := Lib.hid (RowBlk.new _ _ _)
  have HB3 : Hid (Below w.heap.size w (w2.alloc (.cells (repVs (.slice aoE R.evs.length capE) gw R).toArray 31))) := Lib.hid (hb2.alloc z2 _)
  clear hP hb2 hev hrw hao HP
  unfold repVs
  rw [show (repVs (.slice aoE R.evs.length capE) gw R).toArray = #[.slice aoE R.evs.length capE, .slice (some ⟨gw, 0, none⟩) R.ws.length R.ws.length, .int .i64 (R.cn.r : Int), .int .i64 (R.cn.w : Int), .int .i64 (R.cn.s : Int), .int .i64 (R.cn.a : Int), .int .i64 (R.cn.f : Int), .int .i64 (R.ticks : Int), .int .i64 (R.idle : Int)] from rfl] at HEV HRE HB3
  go_wp2_with fail
  generalize w2.alloc (.cells #[.slice aoE R.evs.length capE, .slice (some ⟨gw, 0, none⟩) R.ws.length R.ws.length, .int .i64 (R.cn.r : Int), .int .i64 (R.cn.w : Int), .int .i64 (R.cn.s : Int), .int .i64 (R.cn.a : Int), .int .i64 (R.cn.f : Int), .int .i64 (R.ticks : Int), .int .i64 (R.idle : Int)] 31) = w0 at HEV HRE HB3 ⊢
  have HCALL : Hid (∀ W, Below w0.heap.size w0 W → CallsAt W b o cs) := Lib.hid (fun W hW => HC.out.stays (HB3.out.trans (hW.mono HB3.out.size)) HB.out)
  go_loopw [35] (fun kv wr => ∃ (j : Nat), j ≤ R.evs.length ∧ kv = .int .i64 j ∧ Hid (Below w0.heap.size w0 wr)) (fun kv _ => R.evs.length - (intOf kv).toNat)
  case atStart => exact ⟨0, Nat.zero_le _, rfl, Lib.hid (Below.refl _ _)⟩
  case round =>
    obtain ⟨j, hj, rfl, hBr⟩ := hrel
    have z0 := hBr.out.size
    by_cases hlt : j < R.evs.length
    · obtain rfl := HAO.out (by omega)
      obtain ⟨x, hx⟩ : ∃ x, R.evs[j]? = some x := ⟨R.evs[j], List.getElem?_eq_getElem (by omega)⟩
      have hxm := List.mem_of_getElem? hx
      obtain ⟨hb1, hb2⟩ := HAG.out.1 x hxm
      obtain ⟨y, hy⟩ : ∃ y, cs[x.i]? = some y := ⟨cs[x.i], List.getElem?_eq_getElem hb1⟩
      have HXM := Lib.hid hxm
      have HY := Lib.hid hy
      obtain ⟨hgB, la, ka, lc, kc, hv⟩ := (HEV.out.below hBr.out (Nat.le_refl _)) j x hx
      have v0 := hv.c0
      have v1 := hv.c1
      have v2 := hv.c2
      have v3 := hv.c3
      have v4 := hv.c4
      have v5 := hv.c5
      have v6 := hv.c6
      have v7 := hv.c7
      have hgl := World.block_lt_of_cell? wr ⟨gE, j * 8, none⟩ v0
      have r0 : wr.cell? ⟨w2.heap.size, 0, none⟩ = some (.slice (some ⟨gE, 0, none⟩) R.evs.length capE) := (HRE.out.same (hBr.out.block _ HRE.out.lt)).cell rfl
      obtain rfl := HA.out (by omega)
      obtain ⟨c0, c1, c2, c3, c4, c5, _⟩ := HCALL.out wr hBr.out x.i y hy
      have hi0 : (0 : Int) ≤ (j : Int) := Int.natCast_nonneg _
      have hi1 : (j : Int) < (R.evs.length : Int) := by omega
      have hk0 : (0 : Int) ≤ (x.i : Int) := Int.natCast_nonneg _
      have hk1 : (x.i : Int) < (cs.length : Int) := by omega
      have b1 : ¬ (x.i : Int) < 0 := by omega
      have b2 : ¬ (cs.length : Int) ≤ (x.i : Int) := by omega
      have b3 : ¬ (k : Int) + 1 < (x.steps : Int) := by omega
      have hrl := HRE.out.lt
      have nr : w2.heap.size ≠ wr.heap.size := by omega
      have nr2 : w2.heap.size < wr.heap.size := by omega
      have hbl : b < wr.heap.size := World.block_lt_of_cell? wr ⟨b, o + x.i * 6, none⟩ c0
      have nb : b ≠ wr.heap.size := by omega
      clear hv hx hy hxm
      by_cases q1 : y.o = 0
      · rw [q1] at c1
        by_cases q2 : y.k = 0
        · rw [q2] at c2
          by_cases h1 : x.resp = 0
          · have v2' : wr.cell? ⟨gE, j * 8 + 2, none⟩ = some (.int .i64 0) := by rw [h1] at v2; exact v2
            clear v2 h1 q1 q2
            go_wp2_with fail
            go_roundw
            case rel => exact ⟨j + 1, by omega, by go_num, Lib.hid (hBr.out.alloc z0 _)⟩
            case measure => simp [intOf]; omega
          · have h1' : ¬ (x.resp : Int) = 0 := by omega
            have h1a : ((x.resp : Int) == 0) = false := by rw [beq_eq_false_iff_ne]; exact h1'
            have HEX : Hid (RisesE cs R.evs x) := Lib.hid (HAG.out.2 x HXM.out (by rw [isEntC_some HY.out]; exact decide_eq_true ⟨q1, q2⟩) h1)
            clear h1 q1 q2
            go_wp2_with fail
            have HXR : Hid (RowBlk 47 (wr.alloc (.cells #[.int .i64 (x.i : Int), .int .i64 (x.inv : Int), .int .i64 (x.resp : Int), .int .i64 (x.steps : Int), .int .i64 (x.ans.err : Int), .int .u64 (x.ans.val : Int), .slice la x.ans.list.length lc, .slice ka x.key.length kc] 47)) wr.heap.size [.int .i64 (x.i : Int), .int .i64 (x.inv : Int), .int .i64 (x.resp : Int), .int .i64 (x.steps : Int), .int .i64 (x.ans.err : Int), .int .u64 (x.ans.val : Int), .slice la x.ans.list.length lc, .slice ka x.key.length kc]) := Lib.hid (RowBlk.new _ _ _)
            have HBx : Hid (Below w0.heap.size w0 (wr.alloc (.cells #[.int .i64 (x.i : Int), .int .i64 (x.inv : Int), .int .i64 (x.resp : Int), .int .i64 (x.steps : Int), .int .i64 (x.ans.err : Int), .int .u64 (x.ans.val : Int), .slice la x.ans.list.length lc, .slice ka x.key.length kc] 47))) := Lib.hid (hBr.out.alloc z0 _)
            have hsx : (wr.alloc (.cells #[.int .i64 (x.i : Int), .int .i64 (x.inv : Int), .int .i64 (x.resp : Int), .int .i64 (x.steps : Int), .int .i64 (x.ans.err : Int), .int .u64 (x.ans.val : Int), .slice la x.ans.list.length lc, .slice ka x.key.length kc] 47)).heap.size = wr.heap.size + 1 := by simp
            have HSX := Lib.hid hsx
            generalize wr.alloc (.cells #[.int .i64 (x.i : Int), .int .i64 (x.inv : Int), .int .i64 (x.resp : Int), .int .i64 (x.steps : Int), .int .i64 (x.ans.err : Int), .int .u64 (x.ans.val : Int), .slice la x.ans.list.length lc, .slice ka x.key.length kc] 47) = wx at HXR HBx HSX ⊢
            generalize wr.heap.size = N0 at *
            clear hsx v0 v1 v2 v3 v4 v5 v6 v7 c0 c1 c2 c3 c4 c5 r0
            go_loopw [11, 84] (fun cv kv wq => ∃ (j2 c : Nat), j2 ≤ R.evs.length ∧ kv = .int .i64 j2 ∧ cv = .int .u64 c ∧ Hid (c = (R.evs.take j2).countP (begunD cs x)) ∧ Hid (Below wx.heap.size wx wq)) (fun _ kv _ => R.evs.length - (intOf kv).toNat)
            case atStart => exact ⟨0, 0, Nat.zero_le _, rfl, rfl, Lib.hid rfl, Lib.hid (Below.refl _ _)⟩
            case round =>
              obtain ⟨j2, c, hj2, rfl, rfl, hC, hBq⟩ := hrel
              have zq := hBq.out.size
              have zx := HSX.out
              have hxr := HXR.out.same (hBq.out.block _ HXR.out.lt)
              have x1 : wr.cell? ⟨N0, 1, none⟩ = some (.int .i64 (x.inv : Int)) := hxr.cell rfl
              have x2 : wr.cell? ⟨N0, 2, none⟩ = some (.int .i64 (x.resp : Int)) := hxr.cell rfl
              have x5 : wr.cell? ⟨N0, 5, none⟩ = some (.int .u64 (x.ans.val : Int)) := hxr.cell rfl
              have nx : N0 < wr.heap.size := hxr.lt
              have HBQ : Hid (Below w0.heap.size w0 wr) := Lib.hid (HBx.out.trans (hBq.out.mono (by omega)))
              clear hxr
              by_cases hlt2 : j2 < R.evs.length
              · obtain ⟨u, hu⟩ : ∃ u, R.evs[j2]? = some u := ⟨R.evs[j2], List.getElem?_eq_getElem (by omega)⟩
                have hum := List.mem_of_getElem? hu
                have hub := (HAG.out.1 u hum).1
                obtain ⟨z, hz⟩ : ∃ z, cs[u.i]? = some z := ⟨cs[u.i], List.getElem?_eq_getElem hub⟩
                have HU := Lib.hid hu
                have HUM := Lib.hid hum
                have HZ := Lib.hid hz
                obtain ⟨_, la2, ka2, lc2, kc2, hv⟩ := (HEV.out.below HBQ.out (Nat.le_refl _)) j2 u hu
                have u0 := hv.c0
                have u1 := hv.c1
                have u2 := hv.c2
                have u3 := hv.c3
                have u4 := hv.c4
                have u5 := hv.c5
                have u6 := hv.c6
                have u7 := hv.c7
                have r0 : wr.cell? ⟨w2.heap.size, 0, none⟩ = some (.slice (some ⟨gE, 0, none⟩) R.evs.length capE) := (HRE.out.same (HBQ.out.block _ HRE.out.lt)).cell rfl
                obtain ⟨c0, c1, c2, c3, c4, c5, _⟩ := HCALL.out wr HBQ.out u.i z hz
                have ki0 : (0 : Int) ≤ (j2 : Int) := Int.natCast_nonneg _
                have ki1 : (j2 : Int) < (R.evs.length : Int) := by omega
                have kk0 : (0 : Int) ≤ (u.i : Int) := Int.natCast_nonneg _
                have kk1 : (u.i : Int) < (cs.length : Int) := by omega
                have kb1 : ¬ (u.i : Int) < 0 := by omega
                have kb2 : ¬ (cs.length : Int) ≤ (u.i : Int) := by omega
                have m1 : gE < wr.heap.size := World.block_lt_of_cell? wr ⟨gE, j2 * 8, none⟩ u0
                have m2 : b < wr.heap.size := World.block_lt_of_cell? wr ⟨b, o + u.i * 6, none⟩ c0
                have m3 : w2.heap.size < wr.heap.size := World.block_lt_of_cell? wr ⟨w2.heap.size, 0, none⟩ r0
                have hc70 : c ≤ 70000 := by rw [hC.out]; exact Nat.le_trans (Nat.le_trans List.countP_le_length (by rw [List.length_take]; exact Nat.min_le_right _ _)) hel
                clear hv hu hz hum
                by_cases p1 : z.o = 0
                · by_cases p2 : z.k = 0
                  · have HZ2 : Hid (z.o = 0 ∧ z.k = 0) := Lib.hid ⟨p1, p2⟩
                    rw [p1] at c1
                    rw [p2] at c2
                    by_cases hin : u.inv < x.resp
                    · have HIN := Lib.hid hin
                      have hina : (u.inv : Int) < (x.resp : Int) := by omega
                      clear p1 p2 hin
                      by_cases g1 : u.resp = 0
                      · have u2' : wr.cell? ⟨gE, j2 * 8 + 2, none⟩ = some (.int .i64 0) := by rw [g1] at u2; exact u2
                        clear u2 g1
                        go_wp2_with fail
                        go_roundw
                        case rel => exact ⟨j2 + 1, c + 1, by omega, by go_num, by go_num, Lib.hid (by rw [begun_snoc HU.out, begunD_eq HZ.out, decide_eq_true HZ2.out, decide_eq_true HIN.out, ← hC.out]; rfl), Lib.hid (hBq.out.alloc zq _)⟩
                        case measure => simp [intOf]; omega
                      · have g1' : ¬ (u.resp : Int) = 0 := by omega
                        have g1a : ((u.resp : Int) != 0) = true := by rw [bne_iff_ne]; exact g1'
                        have g1b : ((u.resp : Int) == 0) = false := by rw [beq_eq_false_iff_ne]; exact g1'
                        by_cases g2 : u.resp < x.inv
                        · have hri := HEX.out.rise u HUM.out (by rw [isEntC_some HZ.out]; exact decide_eq_true HZ2.out) g1 g2
                          have g2a : (u.resp : Int) < (x.inv : Int) := by omega
                          have g3 : ¬ (x.ans.val : Int) ≤ (u.ans.val : Int) := by omega
                          clear g1
                          go_wp2_with fail
                          go_roundw
                          case rel => exact ⟨j2 + 1, c + 1, by omega, by go_num, by go_num, Lib.hid (by rw [begun_snoc HU.out, begunD_eq HZ.out, decide_eq_true HZ2.out, decide_eq_true HIN.out, ← hC.out]; rfl), Lib.hid (hBq.out.alloc zq _)⟩
                          case measure => simp [intOf]; omega
                        · have g2a : ¬ (u.resp : Int) < (x.inv : Int) := by omega
                          have g2b : decide ((u.resp : Int) < (x.inv : Int)) = false := decide_eq_false g2a
                          clear g1
                          go_wp2_with fail
                          go_roundw
                          case rel => exact ⟨j2 + 1, c + 1, by omega, by go_num, by go_num, Lib.hid (by rw [begun_snoc HU.out, begunD_eq HZ.out, decide_eq_true HZ2.out, decide_eq_true HIN.out, ← hC.out]; rfl), Lib.hid (hBq.out.alloc zq _)⟩
                          case measure => simp [intOf]; omega
                    · have HIN := Lib.hid hin
                      have hina : ¬ (u.inv : Int) < (x.resp : Int) := by omega
                      clear p1 p2 hin
                      by_cases g1 : u.resp = 0
                      · have u2' : wr.cell? ⟨gE, j2 * 8 + 2, none⟩ = some (.int .i64 0) := by rw [g1] at u2; exact u2
                        clear u2 g1
                        go_wp2_with fail
                        go_roundw
                        case rel => exact ⟨j2 + 1, c, by omega, by go_num, rfl, Lib.hid (by rw [begun_snoc HU.out, begunD_eq HZ.out, decide_eq_true HZ2.out, decide_eq_false HIN.out, ← hC.out]; rfl), Lib.hid (hBq.out.alloc zq _)⟩
                        case measure => simp [intOf]; omega
                      · have g1' : ¬ (u.resp : Int) = 0 := by omega
                        have g1a : ((u.resp : Int) != 0) = true := by rw [bne_iff_ne]; exact g1'
                        have g1b : ((u.resp : Int) == 0) = false := by rw [beq_eq_false_iff_ne]; exact g1'
                        by_cases g2 : u.resp < x.inv
                        · have hri := HEX.out.rise u HUM.out (by rw [isEntC_some HZ.out]; exact decide_eq_true HZ2.out) g1 g2
                          have g2a : (u.resp : Int) < (x.inv : Int) := by omega
                          have g3 : ¬ (x.ans.val : Int) ≤ (u.ans.val : Int) := by omega
                          clear g1
                          go_wp2_with fail
                          go_roundw
                          case rel => exact ⟨j2 + 1, c, by omega, by go_num, rfl, Lib.hid (by rw [begun_snoc HU.out, begunD_eq HZ.out, decide_eq_true HZ2.out, decide_eq_false HIN.out, ← hC.out]; rfl), Lib.hid (hBq.out.alloc zq _)⟩
                          case measure => simp [intOf]; omega
                        · have g2a : ¬ (u.resp : Int) < (x.inv : Int) := by omega
                          have g2b : decide ((u.resp : Int) < (x.inv : Int)) = false := decide_eq_false g2a
                          clear g1
                          go_wp2_with fail
                          go_roundw
                          case rel => exact ⟨j2 + 1, c, by omega, by go_num, rfl, Lib.hid (by rw [begun_snoc HU.out, begunD_eq HZ.out, decide_eq_true HZ2.out, decide_eq_false HIN.out, ← hC.out]; rfl), Lib.hid (hBq.out.alloc zq _)⟩
                          case measure => simp [intOf]; omega
                  · have p2b : (z.k == 0) = false := by simpa using p2
                    have p2c : decide (z.k = 0) = false := decide_eq_false p2
                    have p2d : (z.k != 0) = true := by simpa using p2
                    rw [p1] at c1
                    have P2 := Lib.hid p2
                    clear p1
                    go_wp2_with fail
                    go_roundw
                    case rel => exact ⟨j2 + 1, c, by omega, by go_num, rfl, Lib.hid (by rw [begun_snoc HU.out, begunD_eq HZ.out, decide_eq_false (fun h => P2.out h.2), Bool.false_and]; exact hC.out), Lib.hid (hBq.out.alloc zq _)⟩
                    case measure => simp [intOf]; omega
                · have p1b : (z.o == 0) = false := by simpa using p1
                  have p1c : decide (z.o = 0) = false := decide_eq_false p1
                  have p1d : (z.o != 0) = true := by simpa using p1
                  have P1 := Lib.hid p1
                  go_wp2_with fail
                  go_roundw
                  case rel => exact ⟨j2 + 1, c, by omega, by go_num, rfl, Lib.hid (by rw [begun_snoc HU.out, begunD_eq HZ.out, decide_eq_false (fun h => P1.out h.1), Bool.false_and]; exact hC.out), Lib.hid (hBq.out.alloc zq _)⟩
                  case measure => simp [intOf]; omega
              · have hjn : ¬ (j2 : Int) < (R.evs.length : Int) := by omega
                have hcc : c = R.evs.countP (begunD cs x) := by rw [hC.out, List.take_of_length_le (by omega)]
                have hlo := HEX.out.lo
                have hhi := HEX.out.hi
                rw [← hcc] at hhi
                have f1 : ¬ (x.ans.val : Int) < 1 := by omega
                have f2 : ¬ (c : Int) < (x.ans.val : Int) := by omega
                clear hcc hlo hhi
                go_wp2_with fail
                go_roundw
                case rel => exact ⟨j + 1, by omega, by go_num, HBQ⟩
                case measure => simp [intOf]; omega
        · have q2b : (y.k == 0) = false := by simpa using q2
          have q2c : decide (y.k = 0) = false := decide_eq_false q2
          have q2d : (y.k != 0) = true := by simpa using q2
          clear q1
          go_wp2_with fail
          go_roundw
          case rel => exact ⟨j + 1, by omega, by go_num, Lib.hid (hBr.out.alloc z0 _)⟩
          case measure => simp [intOf]; omega
      · have q1b : (y.o == 0) = false := by simpa using q1
        have q1c : decide (y.o = 0) = false := decide_eq_false q1
        have q1d : (y.o != 0) = true := by simpa using q1
        go_wp2_with fail
        go_roundw
        case rel => exact ⟨j + 1, by omega, by go_num, Lib.hid (hBr.out.alloc z0 _)⟩
        case measure => simp [intOf]; omega
    · have HB4 : Hid (Below w.heap.size w wr) := Lib.hid (HB3.out.trans (hBr.out.mono HB3.out.size))
      have hjn : ¬ (j : Int) < (R.evs.length : Int) := by omega
      go_wp2_with fail
      refine (same_any _).mono ?_
      rintro e w4 ⟨rfl, hb4⟩
      have HB5 : Hid (Below w.heap.size w w4) := Lib.hid (HB4.out.trans (hb4.mono HB4.out.size))
      clear hb4
      go_wp2_with fail
      go_ret
      exact ⟨rfl, HB5.out⟩
theorem rises_all (q0 : Int) (ao : Option Addr) (b o cap : Nat) (cs : List CallV) (ao3 : Option Addr) (b3 o3 cap3 : Nat) (picks : List Int) (w : World) (ha : 0 < cs.length → ao = some ⟨b, o, none⟩) (hb : 0 < cs.length → b < w.heap.size) (hc : CallsAt w b o cs) (hcap : ao = none → cap = 0)
    (ha3 : 0 < picks.length → ao3 = some ⟨b3, o3, none⟩) (hb3 : 0 < picks.length → b3 < w.heap.size) (hc3 : ICells w b3 o3 picks) (hnp : picks.length ≤ 9223372036854775807) (hcl : cs.length ≤ 9223372036854775807) :
    Calls Try.prog 6 #[.int .i64 q0, .slice ao cs.length cap, .slice ao3 picks.length cap3] w fun e w' => e = .returned (.bool true) ∧ Below w.heap.size w w' := by
  by_cases hl : longB cs.length picks.length
  · exact rises_long q0 ao ao3 cs.length cap picks.length cap3 w hnp hl
  · by_cases he : playErr q0 cs picks.length 0 = 0
    · obtain ⟨k, rfl, hk1, hth, hpl, _, _⟩ := play_threads he
      have hevs := endM_evs (M := doorM k) cs (List.replicate k 0) () picks
      have hcn := endM_cn (M := doorM k) cs (List.replicate k 0) () picks
      have hF := doorI_end hth picks (by have := hcn.1; omega)
      have hR := rowI_end (M := doorM k) cs (List.replicate k 0) () picks
      refine rises_good k ao b o cap cs ao3 b3 o3 cap3 picks w hl ha hb hc hcap ha3 hb3 hc3 hnp hcl he hk1.2 _ rfl (door_rises hk1.1 hF hR) ?_
      show ((endM (M := doorM k) cs (List.replicate k 0) () picks).evs.map _).length ≤ _
      rw [List.length_map]; omega
    · exact rises_bad q0 ao b o cap cs ao3 b3 o3 cap3 picks w hl ha hb hc hcap ha3 hb3 hc3 hnp he
end Go.Proofs.Ytcedfcdhdgmelaa
