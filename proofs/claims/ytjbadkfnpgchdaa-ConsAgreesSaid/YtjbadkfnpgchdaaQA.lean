/- Walk of the law ConsAgrees. -/
import Derived.Test.YtjbadkfnpgchdaaP7
import Derived.Test.YtjbadkfnpgchdaaZE
namespace Go.Proofs.Ytjbadkfnpgchdaa
open Go.RowKit
set_option linter.unusedVariables false

def bothCs : List CallV := [⟨0, 0, 0, 5, 0, 0⟩, ⟨1, 0, 0, 6, 0, 0⟩]
theorem both_end : repOf (endM (M := consM) bothCs [0] () [0, 1, 1, 0]) = ⟨[⟨0, 1, 4, 2, ⟨0, 5, []⟩, [2]⟩, ⟨1, 2, 3, 2, ⟨0, 5, []⟩, [4]⟩], [6], ⟨2, 0, 2, 0, 0⟩, 4, 0⟩ := by rfl
theorem consPlay_good (n : Int) (ao : Option Addr) (b o cap : Nat) (cs : List CallV) (ao3 : Option Addr) (b3 o3 cap3 : Nat) (picks : List Int) (w : World) (ha : 0 < cs.length → ao = some ⟨b, o, none⟩) (hb : 0 < cs.length → b < w.heap.size) (hc : CallsAt w b o cs) (hcap : ao = none → cap = 0)
    (ha3 : 0 < picks.length → ao3 = some ⟨b3, o3, none⟩) (hb3 : 0 < picks.length → b3 < w.heap.size) (hc3 : ICells w b3 o3 picks) (hnp : picks.length ≤ 9223372036854775807) :
    Calls Try.prog 20 #[.int .i64 n, .slice ao cs.length cap, .slice ao3 picks.length cap3] w (PlayG consM n 0 cs [0] () picks w) :=
  consPlay_any ConsI n 1 0 ao b o cap cs ao3 b3 o3 cap3 picks w ha hb hc hcap ha3 hb3 hc3 hnp (fun _ => consSizeC n) (fun _ _ => ⟨consNotFilled, consPlaceC cs n, Nat.le_refl _, by omega, consI_first cs⟩)

set_option maxRecDepth 100000 in
set_option maxHeartbeats 2000000 in
theorem both_any (w : World) : Calls Try.prog 19 #[] w fun e w' => e = .returned (.bool true) ∧ Below w.heap.size w w' := by
  go_enter Try.func19, Try.ntmps19
  go_wp2_with fail
  generalize hw2 : (w.alloc (.cells #[.int .i64 0, .int .i64 0, .int .i64 0, .int .u64 5, .int .u64 0, .int .u64 0, .int .i64 1, .int .i64 0, .int .i64 0, .int .u64 6, .int .u64 0, .int .u64 0] 57)).alloc (.cells #[.int .i64 0, .int .i64 1, .int .i64 1, .int .i64 0] 3) = w2
  have HB0 : Hid (Below w.heap.size w w2) := Lib.hid (by rw [← hw2]; exact ((Below.refl _ _).alloc (Nat.le_refl _) _).alloc (by simp) _)
  have hsz : w2.heap.size = w.heap.size + 2 := by rw [← hw2]; simp
  have hc : CallsAt w2 w.heap.size 0 bothCs := by
    have e : ∀ k, w2.cell? ⟨w.heap.size, k, none⟩ = (#[.int .i64 0, .int .i64 0, .int .i64 0, .int .u64 5, .int .u64 0, .int .u64 0, .int .i64 1, .int .i64 0, .int .i64 0, .int .u64 6, .int .u64 0, .int .u64 0] : Array Value)[k]? := fun k => by
      rw [← hw2, World.cell?_alloc_past _ _ _ (by simp), World.cell?_alloc_at _ _ _ _ rfl]
    intro i x hx
    match i, hx with
    | 0, hx => cases hx; refine ⟨e _, e _, e _, e _, e _, e _, ?_⟩; decide
    | 1, hx => cases hx; refine ⟨e _, e _, e _, e _, e _, e _, ?_⟩; decide
    | i + 2, hx => simp [bothCs] at hx
  have hp : ICells w2 (w.heap.size + 1) 0 [0, 1, 1, 0] := by
    have e : ∀ k, w2.cell? ⟨w.heap.size + 1, k, none⟩ = (#[.int .i64 0, .int .i64 1, .int .i64 1, .int .i64 0] : Array Value)[k]? := fun k => by
      rw [← hw2, World.cell?_alloc_at _ _ _ _ (by simp)]
    intro i x hx
    match i, hx with
    | 0, hx => cases hx; exact ⟨e _, by decide⟩
    | 1, hx => cases hx; exact ⟨e _, by decide⟩
    | 2, hx => cases hx; exact ⟨e _, by decide⟩
    | 3, hx => cases hx; exact ⟨e _, by decide⟩
    | i + 4, hx => simp at hx
  have HG := Lib.hid (consPlay_good 2 (some ⟨w.heap.size, 0, none⟩) w.heap.size 0 2 bothCs (some ⟨w.heap.size + 1, 0, none⟩) (w.heap.size + 1) 0 4 [0, 1, 1, 0] w2 (fun _ => rfl) (fun _ => by omega) hc (fun h => by cases h) (fun _ => rfl) (fun _ => by omega) hp (by decide))
  clear hw2 hc hp
  refine (show Calls Try.prog 20 #[.int .i64 2, .slice (some ⟨w.heap.size, 0, none⟩) 2 2, .slice (some ⟨w.heap.size + 1, 0, none⟩) 4 4] w2 (PlayG consM 2 0 bothCs [0] () [0, 1, 1, 0] w2) from HG.out).mono ?_
  rintro e w3 hP
  obtain ⟨aoE, gE, capE, gw, rfl, hao, hev, hrw, _, hb3⟩ := hP.good (by decide)
  rw [both_end] at hao hev hrw ⊢
  obtain rfl := hao (by decide)
  have z := hb3.size
  have HB3 : Hid (Below w.heap.size w w3) := Lib.hid (HB0.out.trans (hb3.mono (by omega)))
  obtain ⟨_, la0, ka0, lc0, kc0, v0⟩ := hev 0 _ rfl
  obtain ⟨_, la1, ka1, lc1, kc1, v1⟩ := hev 1 _ rfl
  have r5 : w3.cell? ⟨gE, 5, none⟩ = some (.int .u64 5) := v0.c5
  have r13 : w3.cell? ⟨gE, 13, none⟩ = some (.int .u64 5) := v1.c5
  have r10 : w3.cell? ⟨gE, 10, none⟩ = some (.int .i64 3) := v1.c2
  have rw0 : w3.cell? ⟨gw, 0, none⟩ = some (.int .u64 6) := hrw.cell rfl
  have l1 := World.block_lt_of_cell? w3 ⟨gE, 5, none⟩ r5
  have l2 := hrw.lt
  clear hao hev hrw hb3 v0 v1 HG hP
  unfold repVs
  go_wp2_with fail
  go_ret
  exact ⟨rfl, HB3.out.alloc (by omega) _⟩

def longB (cl pl : Nat) : Prop := (60 < cl ∧ cl ≤ 1000) ∨ (600 < pl ∧ pl ≤ 65536) ∨ 1100 < cl
set_option maxRecDepth 20000 in
theorem agrees_long (n : Int) (ao ao3 : Option Addr) (cl cap pl cap3 : Nat) (w : World) (hp : pl ≤ 9223372036854775807) (h : longB cl pl) :
    Calls Try.prog 5 #[.int .i64 n, .slice ao cl cap, .slice ao3 pl cap3] w fun e w' => e = .returned (.bool true) ∧ Below w.heap.size w w' := by
  have H := Lib.hid h
  clear h
  go_enter Try.func5, Try.ntmps5
  go_wp2_with fail
  refine (many_yes _ _ _ _ _ _ _ hp H.out).mono ?_
  rintro e w1 ⟨rfl, rfl⟩
  go_wp2_with fail
  refine (both_any _).mono ?_
  rintro e w2 ⟨rfl, hb⟩
  go_wp2_with fail
  go_ret
  exact ⟨rfl, hb⟩

def goodE (x : EvR) : Prop := ¬ x.resp = 0 ∧ x.ans.err = 0
structure Agreed (cs : List CallV) (evs : List EvR) (D : Nat) : Prop where
  bnd : ∀ x ∈ evs, x.i < cs.length ∧ x.steps ≤ 2
  same : ∀ x ∈ evs, goodE x → x.ans.val = D
  prop : (∃ x ∈ evs, goodE x) → ∃ (k : Nat) (x : EvR) (y : CallV), evs[k]? = some x ∧ cs[x.i]? = some y ∧ y.o = 0 ∧ y.k = 0 ∧ y.a = D

set_option maxRecDepth 100000 in
set_option maxHeartbeats 2000000 in
theorem agrees_bad (n : Int) (ao : Option Addr) (b o cap : Nat) (cs : List CallV) (ao3 : Option Addr) (b3 o3 cap3 : Nat) (picks : List Int) (w : World) (hl : ¬ longB cs.length picks.length) (ha : 0 < cs.length → ao = some ⟨b, o, none⟩) (hb : 0 < cs.length → b < w.heap.size) (hc : CallsAt w b o cs) (hcap : ao = none → cap = 0)
    (ha3 : 0 < picks.length → ao3 = some ⟨b3, o3, none⟩) (hb3 : 0 < picks.length → b3 < w.heap.size) (hc3 : ICells w b3 o3 picks) (hnp : picks.length ≤ 9223372036854775807) (he : playErr n cs picks.length 0 ≠ 0) :
    Calls Try.prog 5 #[.int .i64 n, .slice ao cs.length cap, .slice ao3 picks.length cap3] w fun e w' => e = .returned (.bool true) ∧ Below w.heap.size w w' := by
  have HP := Lib.hid (consPlay_good n ao b o cap cs ao3 b3 o3 cap3 picks w ha hb hc hcap ha3 hb3 hc3 hnp)
  have HE := Lib.hid he
  have HL := Lib.hid hl
  have hne : ¬ ((playErr n cs picks.length 0 : Nat) : Int) = 0 := by omega
  clear ha hb hc hcap ha3 hb3 hc3 he hl
  go_enter Try.func5, Try.ntmps5
  go_wp2_with fail
  refine (many_no _ _ _ _ _ _ _ hnp HL.out).mono ?_
  rintro e w1 ⟨rfl, rfl⟩
  go_wp2_with fail
  refine HP.out.mono ?_
  rintro e w2 hP
  obtain ⟨rfl, hb2⟩ := hP.bad HE.out
  have HB2 := Lib.hid hb2
  clear hP hb2 HP
  generalize playErr n cs picks.length 0 = er at *
  unfold zeroRep zeroVs
  go_wp2_with fail
  have hnz := none_zero (w2.alloc (.cells #[.slice none 0 0, .slice none 0 0, .int .i64 0, .int .i64 0, .int .i64 0, .int .i64 0, .int .i64 0, .int .i64 0, .int .i64 0] 32))
  unfold zeroRep zeroVs at hnz
  refine hnz.mono ?_
  rintro e w3 ⟨rfl, hb3⟩
  have z2 := HB2.out.size
  have HB3 : Hid (Below w.heap.size w w3) := Lib.hid ((HB2.out.alloc z2 _).trans (hb3.mono (by simp; omega)))
  clear hb3 hnz
  go_wp2_with fail
  refine (both_any _).mono ?_
  rintro e w4 ⟨rfl, hb4⟩
  have HB4 : Hid (Below w.heap.size w w4) := Lib.hid (HB3.out.trans (hb4.mono HB3.out.size))
  clear hb4
  go_wp2_with fail
  go_ret
  exact ⟨rfl, HB4.out⟩
end Go.Proofs.Ytjbadkfnpgchdaa
