/- Walks of the laws on pools: what both call. -/
import Derived.Test.YtebfkkgemccbfaaPO6
import Derived.Test.YtebfkkgemccbfaaPO7
import Derived.Test.YtebfkkgemccbfaaZE
namespace Go.Proofs.Ytebfkkgemccbfaa
open Go.RowKit
set_option linter.unusedVariables false
set_option linter.unusedSimpArgs false
def oneCs : List CallV := [⟨0, 0, 0, 0, 0, 0⟩, ⟨0, 0, 0, 0, 0, 0⟩, ⟨0, 0, 1, 1026, 0, 0⟩, ⟨0, 0, 0, 0, 0, 0⟩]
theorem one_end : repOf (endM (M := poolM (1 : Int).toNat (1 : Int).toNat) oneCs (List.replicate (poolSz 1 1) 0) () [0, 0, 0, 0, 0, 0]) = ⟨[⟨0, 1, 2, 2, ⟨0, 1026, []⟩, [4]⟩, ⟨1, 3, 3, 1, ⟨6, 0, []⟩, [6]⟩, ⟨2, 4, 4, 1, ⟨0, 0, []⟩, [8]⟩, ⟨3, 5, 6, 2, ⟨0, 2050, []⟩, [12]⟩], [5], ⟨3, 2, 1, 0, 0⟩, 6, 0⟩ := by rfl
set_option maxRecDepth 100000 in
set_option maxHeartbeats 4000000 in
theorem one_any (w : World) : Calls Try.prog 15 #[] w fun e w' => e = .returned (.bool true) ∧ Below w.heap.size w w' := by
  go_enter Try.func15, Try.ntmps15
  go_wp2_with fail
  generalize hw2 : (w.alloc (.cells #[.int .i64 0, .int .i64 0, .int .i64 0, .int .u64 0, .int .u64 0, .int .u64 0, .int .i64 0, .int .i64 0, .int .i64 0, .int .u64 0, .int .u64 0, .int .u64 0, .int .i64 0, .int .i64 0, .int .i64 1, .int .u64 1026, .int .u64 0, .int .u64 0, .int .i64 0, .int .i64 0, .int .i64 0, .int .u64 0, .int .u64 0, .int .u64 0] 43)).alloc (.cells #[.int .i64 0, .int .i64 0, .int .i64 0, .int .i64 0, .int .i64 0, .int .i64 0] 3) = w2
  have HB0 : Hid (Below w.heap.size w w2) := Lib.hid (by rw [← hw2]; exact ((Below.refl _ _).alloc (Nat.le_refl _) _).alloc (by simp) _)
  have hsz : w2.heap.size = w.heap.size + 2 := by rw [← hw2]; simp
  have hc : CallsAt w2 w.heap.size 0 oneCs := by
    have e : ∀ k, w2.cell? ⟨w.heap.size, k, none⟩ = (#[.int .i64 0, .int .i64 0, .int .i64 0, .int .u64 0, .int .u64 0, .int .u64 0, .int .i64 0, .int .i64 0, .int .i64 0, .int .u64 0, .int .u64 0, .int .u64 0, .int .i64 0, .int .i64 0, .int .i64 1, .int .u64 1026, .int .u64 0, .int .u64 0, .int .i64 0, .int .i64 0, .int .i64 0, .int .u64 0, .int .u64 0, .int .u64 0] : Array Value)[k]? := fun k => by
      rw [← hw2, World.cell?_alloc_past _ _ _ (by simp), World.cell?_alloc_at _ _ _ _ rfl]
    intro i x hx
    match i, hx with
    | 0, hx => cases hx; refine ⟨e _, e _, e _, e _, e _, e _, ?_⟩; decide
    | 1, hx => cases hx; refine ⟨e _, e _, e _, e _, e _, e _, ?_⟩; decide
    | 2, hx => cases hx; refine ⟨e _, e _, e _, e _, e _, e _, ?_⟩; decide
    | 3, hx => cases hx; refine ⟨e _, e _, e _, e _, e _, e _, ?_⟩; decide
    | i + 4, hx => simp [oneCs] at hx
  have hp : ICells w2 (w.heap.size + 1) 0 [0, 0, 0, 0, 0, 0] := by
    have e : ∀ k, w2.cell? ⟨w.heap.size + 1, k, none⟩ = (#[.int .i64 0, .int .i64 0, .int .i64 0, .int .i64 0, .int .i64 0, .int .i64 0] : Array Value)[k]? := fun k => by
      rw [← hw2, World.cell?_alloc_at _ _ _ _ (by simp)]
    intro i x hx
    match i, hx with
    | 0, hx => cases hx; exact ⟨e _, by decide⟩
    | 1, hx => cases hx; exact ⟨e _, by decide⟩
    | 2, hx => cases hx; exact ⟨e _, by decide⟩
    | 3, hx => cases hx; exact ⟨e _, by decide⟩
    | 4, hx => cases hx; exact ⟨e _, by decide⟩
    | 5, hx => cases hx; exact ⟨e _, by decide⟩
    | i + 6, hx => simp at hx
  have HG := Lib.hid (pool_play 1 1 (some ⟨w.heap.size, 0, none⟩) w.heap.size 0 4 oneCs (some ⟨w.heap.size + 1, 0, none⟩) (w.heap.size + 1) 0 6 [0, 0, 0, 0, 0, 0] w2 (fun _ => rfl) (fun _ => by omega) hc (fun h => by cases h) (fun _ => rfl) (fun _ => by omega) hp (by decide))
  clear hw2 hc hp
  refine (show Calls Try.prog 16 #[.int .i64 1, .int .i64 1, .slice (some ⟨w.heap.size, 0, none⟩) 4 4, .slice (some ⟨w.heap.size + 1, 0, none⟩) 6 6] w2 (PlayG (poolM (1 : Int).toNat (1 : Int).toNat) 1 (poolErr 1) oneCs (List.replicate (poolSz 1 1) 0) () [0, 0, 0, 0, 0, 0] w2) from HG.out).mono ?_
  rintro e w3 hP
  obtain ⟨aoE, gE, capE, gw, rfl, hao, hev, hrw, _, hb3⟩ := hP.good (by decide)
  rw [one_end] at hao hev hrw ⊢
  obtain rfl := hao (by decide)
  have z := hb3.size
  have HB3 : Hid (Below w.heap.size w w3) := Lib.hid (HB0.out.trans (hb3.mono (by omega)))
  obtain ⟨_, la0, ka0, lc0, kc0, v0⟩ := hev 0 _ rfl
  obtain ⟨_, la1, ka1, lc1, kc1, v1⟩ := hev 1 _ rfl
  obtain ⟨_, la2, ka2, lc2, kc2, v2⟩ := hev 2 _ rfl
  obtain ⟨_, la3, ka3, lc3, kc3, v3⟩ := hev 3 _ rfl
  have r5 : w3.cell? ⟨gE, 5, none⟩ = some (.int .u64 1026) := v0.c5
  have r12 : w3.cell? ⟨gE, 12, none⟩ = some (.int .i64 6) := v1.c4
  have r20 : w3.cell? ⟨gE, 20, none⟩ = some (.int .i64 0) := v2.c4
  have r29 : w3.cell? ⟨gE, 29, none⟩ = some (.int .u64 2050) := v3.c5
  have l1 := World.block_lt_of_cell? w3 ⟨gE, 5, none⟩ r5
  clear hao hev hrw hb3 v0 v1 v2 v3 HG hP
  unfold repVs
  go_wp2_with fail
  go_ret
  exact ⟨rfl, HB3.out.alloc (by omega) _⟩
set_option maxRecDepth 100000 in
set_option maxHeartbeats 2000000 in
theorem is_any (κ : Int) (x : EvR) (z : CallV) (la ka : Option Addr) (ll lc kl kc b o cap : Nat) (cs : List CallV) (W : World) (hc : CallsAt W b o cs) (hz : cs[x.i]? = some z) (hcl : cs.length ≤ 9223372036854775807) :
    Calls Try.prog 17 #[.slice (some ⟨b, o, none⟩) cs.length cap, .agg #[.int .i64 (x.i : Int), .int .i64 (x.inv : Int), .int .i64 (x.resp : Int), .int .i64 (x.steps : Int), .int .i64 (x.ans.err : Int), .int .u64 (x.ans.val : Int), .slice la ll lc, .slice ka kl kc], .int .i64 κ] W fun e w' => e = .returned (.bool (isB cs κ x)) ∧ Below W.heap.size W w' := by
  obtain ⟨c0, c1, c2, c3, c4, c5, _⟩ := hc x.i z hz
  have hil := (List.getElem?_eq_some_iff.1 hz).1
  have hbl : b < W.heap.size := World.block_lt_of_cell? W ⟨b, o + x.i * 6, none⟩ c0
  have i0 : (0 : Int) ≤ (x.i : Int) := Int.natCast_nonneg _
  have i1 : (x.i : Int) < (cs.length : Int) := by omega
  have HBW : Hid (∀ u, Below W.heap.size W (W.alloc u)) := Lib.hid (fun u => (Below.refl _ _).alloc (Nat.le_refl _) _)
  have heq : isB cs κ x = (decide (¬ x.resp = 0 ∧ x.ans.err = 0) && decide (z.o = 0 ∧ z.k = κ)) := by unfold isB; rw [isKC_some hz]
  by_cases p1 : z.o = 0
  · by_cases p2 : z.k = κ
    · by_cases p3 : x.resp = 0
      · have hv : isB cs κ x = false := by rw [heq, decide_eq_false (by omega)]; rfl
        rw [hv]
        rw [p1] at c1
        rw [p2] at c2
        rw [p3]
        clear heq hv hc hz p1 p2 p3
        go_enter Try.func17, Try.ntmps17
        go_wp2_with fail
        go_ret
        exact ⟨rfl, HBW.out _⟩
      · have q3 : ¬ (x.resp : Int) = 0 := by omega
        have q3b : ((x.resp : Int) != 0) = true := by rw [bne_iff_ne]; exact q3
        by_cases p4 : x.ans.err = 0
        · have hv : isB cs κ x = true := by rw [heq, decide_eq_true ⟨p3, p4⟩, decide_eq_true ⟨p1, p2⟩]; rfl
          rw [hv]
          rw [p1] at c1
          rw [p2] at c2
          rw [p4]
          clear heq hv hc hz p1 p2 p3 p4
          go_enter Try.func17, Try.ntmps17
          go_wp2_with fail
          go_ret
          exact ⟨rfl, HBW.out _⟩
        · have hv : isB cs κ x = false := by rw [heq, decide_eq_false (by omega)]; rfl
          rw [hv]
          rw [p1] at c1
          rw [p2] at c2
          have q4 : ¬ (x.ans.err : Int) = 0 := by omega
          have q4b : ((x.ans.err : Int) == 0) = false := by rw [beq_eq_false_iff_ne]; exact q4
          clear heq hv hc hz p1 p2 p3 p4
          go_enter Try.func17, Try.ntmps17
          go_wp2_with fail
          go_ret
          exact ⟨rfl, HBW.out _⟩
    · have hv : isB cs κ x = false := by rw [heq, decide_eq_false (fun h => p2 h.2 : ¬ (z.o = 0 ∧ z.k = κ)), Bool.and_false]
      rw [hv]
      rw [p1] at c1
      have q2b : (z.k == κ) = false := by rw [beq_eq_false_iff_ne]; exact p2
      clear heq hv hc hz p1
      go_enter Try.func17, Try.ntmps17
      go_wp2_with fail
      go_ret
      exact ⟨rfl, HBW.out _⟩
  · have hv : isB cs κ x = false := by rw [heq, decide_eq_false (fun h => p1 h.1 : ¬ (z.o = 0 ∧ z.k = κ)), Bool.and_false]
    rw [hv]
    have q1b : (z.o == 0) = false := by rw [beq_eq_false_iff_ne]; exact p1
    clear heq hv hc hz
    go_enter Try.func17, Try.ntmps17
    go_wp2_with fail
    go_ret
    exact ⟨rfl, HBW.out _⟩
def longB (cl pl : Nat) : Prop := (60 < cl ∧ cl ≤ 1000) ∨ (600 < pl ∧ pl ≤ 65536) ∨ 1100 < cl
set_option maxRecDepth 20000 in
theorem pfull_long (q0 q1 : Int) (ao ao3 : Option Addr) (cl cap pl cap3 : Nat) (w : World) (hp : pl ≤ 9223372036854775807) (h : longB cl pl) :
    Calls Try.prog 6 #[.agg #[.int .i64 q0, .int .i64 q1], .slice ao cl cap, .slice ao3 pl cap3] w fun e w' => e = .returned (.bool true) ∧ Below w.heap.size w w' := by
  have H := Lib.hid h
  clear h
  go_enter Try.func6, Try.ntmps6
  go_wp2_with fail
  refine (many_yes _ _ _ _ _ _ _ hp H.out).mono ?_
  rintro e w1 ⟨rfl, rfl⟩
  go_wp2_with fail
  refine (one_any _).mono ?_
  rintro e w2 ⟨rfl, hb⟩
  have HB : Hid (Below w.heap.size w w2) := Lib.hid (((Below.refl w.heap.size w).alloc (Nat.le_refl _) (.cells #[.int .i64 q0, .int .i64 q1] 22)).trans (hb.mono (by simp)))
  clear hb
  go_wp2_with fail
  go_ret
  exact ⟨rfl, HB.out⟩
set_option maxRecDepth 100000 in
set_option maxHeartbeats 2000000 in
theorem pfull_bad (q0 q1 : Int) (ao : Option Addr) (b o cap : Nat) (cs : List CallV) (ao3 : Option Addr) (b3 o3 cap3 : Nat) (picks : List Int) (w : World) (hl : ¬ longB cs.length picks.length) (ha : 0 < cs.length → ao = some ⟨b, o, none⟩) (hb : 0 < cs.length → b < w.heap.size) (hc : CallsAt w b o cs) (hcap : ao = none → cap = 0)
    (ha3 : 0 < picks.length → ao3 = some ⟨b3, o3, none⟩) (hb3 : 0 < picks.length → b3 < w.heap.size) (hc3 : ICells w b3 o3 picks) (hnp : picks.length ≤ 9223372036854775807) (he : playErr q0 cs picks.length (poolErr q1) ≠ 0) :
    Calls Try.prog 6 #[.agg #[.int .i64 q0, .int .i64 q1], .slice ao cs.length cap, .slice ao3 picks.length cap3] w fun e w' => e = .returned (.bool true) ∧ Below w.heap.size w w' := by
  have hw1 : Below w.heap.size w (w.alloc (.cells #[.int .i64 q0, .int .i64 q1] 22)) := (Below.refl _ _).alloc (Nat.le_refl _) _
  have hP := pool_play q0 q1 ao b o cap cs ao3 b3 o3 cap3 picks (w.alloc (.cells #[.int .i64 q0, .int .i64 q1] 22)) ha (fun h => by have := hb h; simp; omega) (hc.stays hw1 hb) hcap ha3 (fun h => by have := hb3 h; simp; omega) (hc3.stays hw1 hb3) hnp
  have HP := Lib.hid hP
  have HE := Lib.hid he
  have HL := Lib.hid hl
  have hne : ¬ ((playErr q0 cs picks.length (poolErr q1) : Nat) : Int) = 0 := by omega
  have HW1 := Lib.hid hw1
  clear ha hb hc hcap ha3 hb3 hc3 he hl hP hw1
  go_enter Try.func6, Try.ntmps6
  go_wp2_with fail
  refine (many_no _ _ _ _ _ _ _ hnp HL.out).mono ?_
  rintro e w1 ⟨rfl, rfl⟩
  go_wp2_with fail
  refine HP.out.mono ?_
  rintro e w2 hP
  obtain ⟨rfl, hb2⟩ := hP.bad HE.out
  have HB2 : Hid (Below w.heap.size w w2) := Lib.hid (HW1.out.trans (hb2.mono (by simp)))
  clear hP hb2 HP
  generalize playErr q0 cs picks.length (poolErr q1) = er at *
  unfold zeroRep zeroVs
  go_wp2_with fail
  have hnz := none_zero (w2.alloc (.cells #[.slice none 0 0, .slice none 0 0, .int .i64 0, .int .i64 0, .int .i64 0, .int .i64 0, .int .i64 0, .int .i64 0, .int .i64 0] 32))
  unfold zeroRep zeroVs at hnz
  refine hnz.mono ?_
  rintro e w3 ⟨rfl, hb3⟩
  have z2 := HB2.out.size
  have HB3 : Hid (Below w.heap.size w w3) := Lib.hid ((HB2.out.alloc z2 _).trans (hb3.mono (by simp; omega)))
  clear hb3 hnz
  go_wp2_with fail
  refine (one_any _).mono ?_
  rintro e w4 ⟨rfl, hb4⟩
  have HB4 : Hid (Below w.heap.size w w4) := Lib.hid (HB3.out.trans (hb4.mono HB3.out.size))
  clear hb4
  go_wp2_with fail
  go_ret
  exact ⟨rfl, HB4.out⟩
set_option maxRecDepth 20000 in
theorem ponce_long (q0 q1 : Int) (ao ao3 : Option Addr) (cl cap pl cap3 : Nat) (w : World) (hp : pl ≤ 9223372036854775807) (h : longB cl pl) :
    Calls Try.prog 5 #[.agg #[.int .i64 q0, .int .i64 q1], .slice ao cl cap, .slice ao3 pl cap3] w fun e w' => e = .returned (.bool true) ∧ Below w.heap.size w w' := by
  have H := Lib.hid h
  clear h
  go_enter Try.func5, Try.ntmps5
  go_wp2_with fail
  refine (many_yes _ _ _ _ _ _ _ hp H.out).mono ?_
  rintro e w1 ⟨rfl, rfl⟩
  go_wp2_with fail
  refine (one_any _).mono ?_
  rintro e w2 ⟨rfl, hb⟩
  have HB : Hid (Below w.heap.size w w2) := Lib.hid (((Below.refl w.heap.size w).alloc (Nat.le_refl _) (.cells #[.int .i64 q0, .int .i64 q1] 22)).trans (hb.mono (by simp)))
  clear hb
  go_wp2_with fail
  go_ret
  exact ⟨rfl, HB.out⟩
set_option maxRecDepth 100000 in
set_option maxHeartbeats 2000000 in
theorem ponce_bad (q0 q1 : Int) (ao : Option Addr) (b o cap : Nat) (cs : List CallV) (ao3 : Option Addr) (b3 o3 cap3 : Nat) (picks : List Int) (w : World) (hl : ¬ longB cs.length picks.length) (ha : 0 < cs.length → ao = some ⟨b, o, none⟩) (hb : 0 < cs.length → b < w.heap.size) (hc : CallsAt w b o cs) (hcap : ao = none → cap = 0)
    (ha3 : 0 < picks.length → ao3 = some ⟨b3, o3, none⟩) (hb3 : 0 < picks.length → b3 < w.heap.size) (hc3 : ICells w b3 o3 picks) (hnp : picks.length ≤ 9223372036854775807) (he : playErr q0 cs picks.length (poolErr q1) ≠ 0) :
    Calls Try.prog 5 #[.agg #[.int .i64 q0, .int .i64 q1], .slice ao cs.length cap, .slice ao3 picks.length cap3] w fun e w' => e = .returned (.bool true) ∧ Below w.heap.size w w' := by
  have hw1 : Below w.heap.size w (w.alloc (.cells #[.int .i64 q0, .int .i64 q1] 22)) := (Below.refl _ _).alloc (Nat.le_refl _) _
  have hP := pool_play q0 q1 ao b o cap cs ao3 b3 o3 cap3 picks (w.alloc (.cells #[.int .i64 q0, .int .i64 q1] 22)) ha (fun h => by have := hb h; simp; omega) (hc.stays hw1 hb) hcap ha3 (fun h => by have := hb3 h; simp; omega) (hc3.stays hw1 hb3) hnp
  have HP := Lib.hid hP
  have HE := Lib.hid he
  have HL := Lib.hid hl
  have hne : ¬ ((playErr q0 cs picks.length (poolErr q1) : Nat) : Int) = 0 := by omega
  have HW1 := Lib.hid hw1
  clear ha hb hc hcap ha3 hb3 hc3 he hl hP hw1
  go_enter Try.func5, Try.ntmps5
  go_wp2_with fail
  refine (many_no _ _ _ _ _ _ _ hnp HL.out).mono ?_
  rintro e w1 ⟨rfl, rfl⟩
  go_wp2_with fail
  refine HP.out.mono ?_
  rintro e w2 hP
  obtain ⟨rfl, hb2⟩ := hP.bad HE.out
  have HB2 : Hid (Below w.heap.size w w2) := Lib.hid (HW1.out.trans (hb2.mono (by simp)))
  clear hP hb2 HP
  generalize playErr q0 cs picks.length (poolErr q1) = er at *
  unfold zeroRep zeroVs
  go_wp2_with fail
  have hnz := none_zero (w2.alloc (.cells #[.slice none 0 0, .slice none 0 0, .int .i64 0, .int .i64 0, .int .i64 0, .int .i64 0, .int .i64 0, .int .i64 0, .int .i64 0] 32))
  unfold zeroRep zeroVs at hnz
  refine hnz.mono ?_
  rintro e w3 ⟨rfl, hb3⟩
  have z2 := HB2.out.size
  have HB3 : Hid (Below w.heap.size w w3) := Lib.hid ((HB2.out.alloc z2 _).trans (hb3.mono (by simp; omega)))
  clear hb3 hnz
  go_wp2_with fail
  refine (one_any _).mono ?_
  rintro e w4 ⟨rfl, hb4⟩
  have HB4 : Hid (Below w.heap.size w w4) := Lib.hid (HB3.out.trans (hb4.mono HB3.out.size))
  clear hb4
  go_wp2_with fail
  go_ret
  exact ⟨rfl, HB4.out⟩
theorem wrap_small {x : Int} (h1 : -9223372036854775808 ≤ x) (h2 : x ≤ 9223372036854775807) : IntKind.i64.wrap x = x := by unfold IntKind.wrap; simp [IntKind.bits, IntKind.signed]; omega
theorem tk_snoc {cs : List CallV} {evs : List EvR} {k : Nat} {t : Int} {w0 : Nat} {y : EvR} {j : Nat} (h : evs[j]? = some y) : (((evs.take (j + 1)).countP (tkA cs t w0) : Nat) : Int) - ((evs.take (j + 1)).countP (tkR cs k t w0) : Nat) = (((evs.take j).countP (tkA cs t w0) : Nat) : Int) - ((evs.take j).countP (tkR cs k t w0) : Nat) + (if tkA cs t w0 y = true then 1 else 0) - (if tkR cs k t w0 y = true then 1 else 0) := by
  rw [take_snoc h, List.countP_append, List.countP_append, List.countP_singleton, List.countP_singleton]
  split <;> split <;> omega
theorem isB_excl {cs : List CallV} {y : EvR} (h : isB cs 0 y = true) : isB cs 1 y = false := by
  obtain ⟨_, _, h1⟩ := isB_ok h
  obtain ⟨z, hz, _, hk⟩ := isKC_ex h1
  unfold isB
  rw [isKC_some hz, decide_eq_false (show ¬ (z.o = 0 ∧ z.k = 1) by omega), Bool.and_false]
end Go.Proofs.Ytebfkkgemccbfaa
