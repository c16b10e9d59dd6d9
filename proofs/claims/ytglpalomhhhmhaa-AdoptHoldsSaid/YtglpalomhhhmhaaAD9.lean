/- The laws of layer 40: the example, done; refusals. -/
import Derived.Test.YtglpalomhhhmhaaAD7
import Derived.Test.YtglpalomhhhmhaaZE
import Derived.Test.YtglpalomhhhmhaaK7
import Derived.Deep.Cut
namespace Go.Proofs.Ytglpalomhhhmhaa
open Go.RowKit
set_option linter.unusedVariables false
set_option linter.unusedSimpArgs false
def lateCs : List CallV := [⟨0, 0, 0, 4, 0, 0⟩, ⟨1, 0, 0, 6, 0, 0⟩]
theorem late_end : repOf (endM (M := (adM (2 : Int).toNat)) lateCs (List.replicate (2 * (2 : Int).toNat) 0) ad0 [0, 0, 0, 0, 0, 0, 1, 1, 1, 1, 1, 1]) = ⟨[⟨0, 1, 6, 6, ⟨0, 9, []⟩, [12]⟩, ⟨1, 7, 12, 6, ⟨0, 8, []⟩, [24]⟩], [5, 7, 11, 14], ⟨8, 4, 0, 0, 0⟩, 12, 0⟩ := by rfl
set_option maxRecDepth 100000 in
set_option maxHeartbeats 4000000 in
theorem late_any (w : World) : Calls Try.prog 10 #[] w fun e w' => e = .returned (.bool true) ∧ Below w.heap.size w w' := by
  go_enter Try.func10, Try.ntmps10
  go_wp2_with fail
  generalize hw2 : (w.alloc (.cells #[.int .i64 0, .int .i64 0, .int .i64 0, .int .u64 4, .int .u64 0, .int .u64 0, .int .i64 1, .int .i64 0, .int .i64 0, .int .u64 6, .int .u64 0, .int .u64 0] 43)).alloc (.cells #[.int .i64 0, .int .i64 0, .int .i64 0, .int .i64 0, .int .i64 0, .int .i64 0, .int .i64 1, .int .i64 1, .int .i64 1, .int .i64 1, .int .i64 1, .int .i64 1] 3) = w2
  have HB0 : Hid (Below w.heap.size w w2) := Lib.hid (by rw [← hw2]; exact ((Below.refl _ _).alloc (Nat.le_refl _) _).alloc (by simp) _)
  have hsz : w2.heap.size = w.heap.size + 2 := by rw [← hw2]; simp
  have hc : CallsAt w2 w.heap.size 0 lateCs := by
    have e : ∀ k, w2.cell? ⟨w.heap.size, k, none⟩ = (#[.int .i64 0, .int .i64 0, .int .i64 0, .int .u64 4, .int .u64 0, .int .u64 0, .int .i64 1, .int .i64 0, .int .i64 0, .int .u64 6, .int .u64 0, .int .u64 0] : Array Value)[k]? := fun k => by
      rw [← hw2, World.cell?_alloc_past _ _ _ (by simp), World.cell?_alloc_at _ _ _ _ rfl]
    intro i x hx
    match i, hx with
    | 0, hx => cases hx; refine ⟨e _, e _, e _, e _, e _, e _, ?_⟩; decide
    | 1, hx => cases hx; refine ⟨e _, e _, e _, e _, e _, e _, ?_⟩; decide
    | i + 2, hx => simp [lateCs] at hx
  have hp : ICells w2 (w.heap.size + 1) 0 [0, 0, 0, 0, 0, 0, 1, 1, 1, 1, 1, 1] := by
    have e : ∀ k, w2.cell? ⟨w.heap.size + 1, k, none⟩ = (#[.int .i64 0, .int .i64 0, .int .i64 0, .int .i64 0, .int .i64 0, .int .i64 0, .int .i64 1, .int .i64 1, .int .i64 1, .int .i64 1, .int .i64 1, .int .i64 1] : Array Value)[k]? := fun k => by
      rw [← hw2, World.cell?_alloc_at _ _ _ _ (by simp)]
    intro i x hx
    match i, hx with
    | 0, hx => cases hx; exact ⟨e _, by decide⟩
    | 1, hx => cases hx; exact ⟨e _, by decide⟩
    | 2, hx => cases hx; exact ⟨e _, by decide⟩
    | 3, hx => cases hx; exact ⟨e _, by decide⟩
    | 4, hx => cases hx; exact ⟨e _, by decide⟩
    | 5, hx => cases hx; exact ⟨e _, by decide⟩
    | 6, hx => cases hx; exact ⟨e _, by decide⟩
    | 7, hx => cases hx; exact ⟨e _, by decide⟩
    | 8, hx => cases hx; exact ⟨e _, by decide⟩
    | 9, hx => cases hx; exact ⟨e _, by decide⟩
    | 10, hx => cases hx; exact ⟨e _, by decide⟩
    | 11, hx => cases hx; exact ⟨e _, by decide⟩
    | i + 12, hx => simp at hx
  have HG := Lib.hid (ad_play 2 (some ⟨w.heap.size, 0, none⟩) w.heap.size 0 2 lateCs (some ⟨w.heap.size + 1, 0, none⟩) (w.heap.size + 1) 0 12 [0, 0, 0, 0, 0, 0, 1, 1, 1, 1, 1, 1] w2 (fun _ => rfl) (fun _ => by omega) hc (fun h => by cases h) (fun _ => rfl) (fun _ => by omega) hp (by decide))
  clear hw2 hc hp
  refine (show Calls Try.prog 11 #[.int .i64 2, .slice (some ⟨w.heap.size, 0, none⟩) 2 2, .slice (some ⟨w.heap.size + 1, 0, none⟩) 12 12] w2 (PlayG (adM (2 : Int).toNat) 2 0 lateCs (List.replicate (2 * (2 : Int).toNat) 0) ad0 [0, 0, 0, 0, 0, 0, 1, 1, 1, 1, 1, 1] w2) from HG.out).mono ?_
  rintro e w3 hP
  obtain ⟨aoE, gE, capE, gw, rfl, hao, hev, hrw, _, hb3⟩ := hP.good (by decide)
  rw [late_end] at hao hev hrw ⊢
  obtain rfl := hao (by decide)
  have z := hb3.size
  have HB3 : Hid (Below w.heap.size w w3) := Lib.hid (HB0.out.trans (hb3.mono (by omega)))
  obtain ⟨_, la0, ka0, lc0, kc0, v0⟩ := hev 0 _ rfl
  obtain ⟨_, la1, ka1, lc1, kc1, v1⟩ := hev 1 _ rfl
  have r05 : w3.cell? ⟨gE, 5, none⟩ = some (.int .u64 9) := v0.c5
  have r03 : w3.cell? ⟨gE, 3, none⟩ = some (.int .i64 6) := v0.c3
  have r15 : w3.cell? ⟨gE, 13, none⟩ = some (.int .u64 8) := v1.c5
  have l1 := World.block_lt_of_cell? w3 ⟨gE, 5, none⟩ r05
  have w_3 : w3.cell? ⟨gw, 3, none⟩ = some (.int .u64 14) := hrw.cell rfl
  have lw := hrw.lt
  clear hao hev hrw hb3 v0 v1 HG hP
  unfold repVs
  go_wp2_with fail
  go_ret
  exact ⟨rfl, HB3.out.alloc (by omega) _⟩
set_option maxRecDepth 100000 in
set_option maxHeartbeats 4000000 in
theorem ad_done (x : EvR) (la ka : Option Addr) (lc kc b o cap : Nat) (cs : List CallV) (y : CallV) (w : World) (hy : cs[x.i]? = some y) (hc : CallsAt w b o cs) (hcl : cs.length ≤ 9223372036854775807) :
    Calls Try.prog 12 #[.slice (some ⟨b, o, none⟩) cs.length cap, .agg #[.int .i64 (x.i : Int), .int .i64 (x.inv : Int), .int .i64 (x.resp : Int), .int .i64 (x.steps : Int), .int .i64 (x.ans.err : Int), .int .u64 (x.ans.val : Int), .slice la x.ans.list.length lc, .slice ka x.key.length kc]] w fun e w' => e = .returned (.bool (adDone cs x)) ∧ Below w.heap.size w w' := by
  rw [adDone_some hy]
  have hi := (List.getElem?_eq_some_iff.1 hy).1
  obtain ⟨c0, c1, c2, c3, c4, c5, _⟩ := hc x.i y hy
  have hk0 : (0 : Int) ≤ (x.i : Int) := Int.natCast_nonneg _
  have hk1 : (x.i : Int) < (cs.length : Int) := by omega
  have hbl : b < w.heap.size := World.block_lt_of_cell? w ⟨b, o + x.i * 6, none⟩ c0
  have nb : b ≠ w.heap.size := by omega
  by_cases p1 : y.o = 0
  · by_cases p2 : y.k = 0
    · by_cases p3 : x.resp = 0
      · rw [decide_eq_false (fun h => h.2.2.1 p3)]
        rw [p1] at c1
        rw [p2] at c2
        rw [p3]
        clear p1 p2 p3 hy hc
        go_enter Try.func12, Try.ntmps12
        go_wp2
        go_ret
        exact ⟨rfl, (Below.refl _ _).alloc (Nat.le_refl _) _⟩
      · have r1 : ¬ (x.resp : Int) = 0 := by omega
        have r2 : ((x.resp : Int) == 0) = false := by rw [beq_eq_false_iff_ne]; exact r1
        have r3 : ((x.resp : Int) != 0) = true := by rw [bne_iff_ne]; exact r1
        by_cases p4 : x.ans.err = 0
        · rw [decide_eq_true ⟨p1, p2, p3, p4⟩]
          rw [p1] at c1
          rw [p2] at c2
          rw [p4]
          clear p1 p2 p3 p4 hy hc
          go_enter Try.func12, Try.ntmps12
          go_wp2
          go_ret
          exact ⟨rfl, (Below.refl _ _).alloc (Nat.le_refl _) _⟩
        · rw [decide_eq_false (fun h => p4 h.2.2.2)]
          have s1 : ¬ (x.ans.err : Int) = 0 := by omega
          have s2 : ((x.ans.err : Int) == 0) = false := by rw [beq_eq_false_iff_ne]; exact s1
          have s3 : ((x.ans.err : Int) != 0) = true := by rw [bne_iff_ne]; exact s1
          rw [p1] at c1
          rw [p2] at c2
          clear p1 p2 p3 p4 hy hc
          go_enter Try.func12, Try.ntmps12
          go_wp2
          go_ret
          exact ⟨rfl, (Below.refl _ _).alloc (Nat.le_refl _) _⟩
    · rw [decide_eq_false (fun h => p2 h.2.1)]
      have s2 : (y.k == 0) = false := by rw [beq_eq_false_iff_ne]; exact p2
      have s3 : (y.k != 0) = true := by rw [bne_iff_ne]; exact p2
      have s4 : decide (y.k = 0) = false := decide_eq_false p2
      rw [p1] at c1
      clear p1 hy hc
      go_enter Try.func12, Try.ntmps12
      go_wp2
      go_ret
      exact ⟨rfl, (Below.refl _ _).alloc (Nat.le_refl _) _⟩
  · rw [decide_eq_false (fun h => p1 h.1)]
    have s2 : (y.o == 0) = false := by rw [beq_eq_false_iff_ne]; exact p1
    have s3 : (y.o != 0) = true := by rw [bne_iff_ne]; exact p1
    have s4 : decide (y.o = 0) = false := decide_eq_false p1
    clear hy hc
    go_enter Try.func12, Try.ntmps12
    go_wp2
    go_ret
    exact ⟨rfl, (Below.refl _ _).alloc (Nat.le_refl _) _⟩
def longB (cl pl : Nat) : Prop := (60 < cl ∧ cl ≤ 1000) ∨ (600 < pl ∧ pl ≤ 65536) ∨ 1100 < cl
set_option maxRecDepth 20000 in
theorem holds_long (q0 : Int) (ao ao3 : Option Addr) (cl cap pl cap3 : Nat) (w : World) (hp : pl ≤ 9223372036854775807) (h : longB cl pl) :
    Calls Try.prog 4 #[.int .i64 q0, .slice ao cl cap, .slice ao3 pl cap3] w fun e w' => e = .returned (.bool true) ∧ Below w.heap.size w w' := by
  have H := Lib.hid h
  clear h
  go_enter Try.func4, Try.ntmps4
  go_wp2_with fail
  refine (many_yes _ _ _ _ _ _ _ hp H.out).mono ?_
  rintro e w1 ⟨rfl, rfl⟩
  go_wp2_with fail
  refine (late_any _).mono ?_
  rintro e w2 ⟨rfl, hb⟩
  have HB : Hid (Below w.heap.size w w2) := Lib.hid hb
  clear hb
  go_wp2_with fail
  go_ret
  exact ⟨rfl, HB.out⟩
set_option maxRecDepth 100000 in
set_option maxHeartbeats 2000000 in
theorem holds_bad (q0 : Int) (ao : Option Addr) (b o cap : Nat) (cs : List CallV) (ao3 : Option Addr) (b3 o3 cap3 : Nat) (picks : List Int) (w : World) (hl : ¬ longB cs.length picks.length) (ha : 0 < cs.length → ao = some ⟨b, o, none⟩) (hb : 0 < cs.length → b < w.heap.size) (hc : CallsAt w b o cs) (hcap : ao = none → cap = 0)
    (ha3 : 0 < picks.length → ao3 = some ⟨b3, o3, none⟩) (hb3 : 0 < picks.length → b3 < w.heap.size) (hc3 : ICells w b3 o3 picks) (hnp : picks.length ≤ 9223372036854775807) (he : playErr q0 cs picks.length 0 ≠ 0) :
    Calls Try.prog 4 #[.int .i64 q0, .slice ao cs.length cap, .slice ao3 picks.length cap3] w fun e w' => e = .returned (.bool true) ∧ Below w.heap.size w w' := by
  have hw1 : Below w.heap.size w w := Below.refl _ _
  have hP := ad_play q0 ao b o cap cs ao3 b3 o3 cap3 picks w ha hb hc hcap ha3 hb3 hc3 hnp
  have HP := Lib.hid hP
  have HE := Lib.hid he
  have HL := Lib.hid hl
  have hne : ¬ ((playErr q0 cs picks.length 0 : Nat) : Int) = 0 := by omega
  clear ha hb hc hcap ha3 hb3 hc3 he hl hP
  go_enter Try.func4, Try.ntmps4
  go_wp2_with fail
  refine (many_no _ _ _ _ _ _ _ hnp HL.out).mono ?_
  rintro e w1 ⟨rfl, rfl⟩
  go_wp2_with fail
  refine HP.out.mono ?_
  rintro e w2 hP
  obtain ⟨rfl, hb2⟩ := hP.bad HE.out
  have HB2 : Hid (Below w.heap.size w w2) := Lib.hid (hw1.trans (hb2.mono (by simp)))
  clear hP hb2 HP hw1
  generalize playErr q0 cs picks.length 0 = er at *
  unfold zeroRep zeroVs
  go_wp2_with fail
  have hnz := none_zero (w2.alloc (.cells #[.slice none 0 0, .slice none 0 0, .int .i64 0, .int .i64 0, .int .i64 0, .int .i64 0, .int .i64 0, .int .i64 0, .int .i64 0] 31))
  unfold zeroRep zeroVs at hnz
  refine hnz.mono ?_
  rintro e w3 ⟨rfl, hb3⟩
  have z2 := HB2.out.size
  have HB3 : Hid (Below w.heap.size w w3) := Lib.hid ((HB2.out.alloc z2 _).trans (hb3.mono (by simp; omega)))
  clear hb3 hnz
  go_wp2_with fail
  refine (late_any _).mono ?_
  rintro e w4 ⟨rfl, hb4⟩
  have HB4 : Hid (Below w.heap.size w w4) := Lib.hid (HB3.out.trans (hb4.mono HB3.out.size))
  clear hb4
  go_wp2_with fail
  go_ret
  exact ⟨rfl, HB4.out⟩
end Go.Proofs.Ytglpalomhhhmhaa
