/- Walk of the law ConsAgrees. -/
import Derived.Test.YtcedfcdhdgmelaaP7
import Derived.Test.YtcedfcdhdgmelaaZE
namespace Go.Proofs.Ytcedfcdhdgmelaa
open Go.RowKit
set_option linter.unusedVariables false

def bothCs : List CallV := [⟨0, 0, 0, 5, 0, 0⟩, ⟨1, 0, 0, 6, 0, 0⟩]
theorem both_end : repOf (endM (M := consM) bothCs [0] () [0, 1, 1, 0]) = ⟨[⟨0, 1, 4, 2, ⟨0, 5, []⟩, [2]⟩, ⟨1, 2, 3, 2, ⟨0, 5, []⟩, [4]⟩], [6], ⟨2, 0, 2, 0, 0⟩, 4, 0⟩ := by rfl
theorem consPlay_good (n : Int) (ao : Option Addr) (b o cap : Nat) (cs : List CallV) (ao3 : Option Addr) (b3 o3 cap3 : Nat) (picks : List Int) (w : World) (ha : 0 < cs.length → ao = some ⟨b, o, none⟩) (hb : 0 < cs.length → b < w.heap.size) (hc : CallsAt w b o cs) (hcap : ao = none → cap = 0)
    (ha3 : 0 < picks.length → ao3 = some ⟨b3, o3, none⟩) (hb3 : 0 < picks.length → b3 < w.heap.size) (hc3 : ICells w b3 o3 picks) (hnp : picks.length ≤ 9223372036854775807) :
    Calls Try.prog 11 #[.int .i64 n, .slice ao cs.length cap, .slice ao3 picks.length cap3] w (PlayG consM n 0 cs [0] () picks w) :=
  consPlay_any ConsI n 1 0 ao b o cap cs ao3 b3 o3 cap3 picks w ha hb hc hcap ha3 hb3 hc3 hnp (fun _ => consSizeC n) (fun _ _ => ⟨consNotFilled, consPlaceC cs n, Nat.le_refl _, by omega, consI_first cs⟩)

set_option maxRecDepth 100000 in
set_option maxHeartbeats 2000000 in
theorem both_any (w : World) : Calls Try.prog 10 #[] w fun e w' => e = .returned (.bool true) ∧ Below w.heap.size w w' := by
  go_enter Try.func10, Try.ntmps10
  go_wp2_with fail
  generalize hw2 : (w.alloc (.cells #[.int .i64 0, .int .i64 0, .int .i64 0, .int .u64 5, .int .u64 0, .int .u64 0, .int .i64 1, .int .i64 0, .int .i64 0, .int .u64 6, .int .u64 0, .int .u64 0] 49)).alloc (.cells #[.int .i64 0, .int .i64 1, .int .i64 1, .int .i64 0] 3) = w2
  have HB0 : Hid (Below w.heap.size w w2) := Lib.hid (by rw [← hw2]; exact ((Below.refl _ _).alloc (Nat.le_refl _) _).alloc (by simp) _)
  have hsz : w2.heap.size = w.heap.size + 2 := by rw [← hw2]; simp
  have hc : CallsAt w2 w.heap.size 0 bothCs := by
    have e : ∀ k, w2.cell? ⟨w.heap.size, k, none⟩ = (#[.int .i64 0, .int .i64 0, .int .i64 0, .int .u64 5, .int .u64 0, .int .u64 0, .int .i64 1, .int .i64 0, .int .i64 0, .int .u64 6, .int .u64 0, .int .u64 0] : Array Value)[k]? := fun k => by
      rw [← hw2, World.cell?_alloc_past _ _ _ (by simp), World.cell?_alloc_at _ _ _ _ rfl]
    intro i x hx
    match i, hx with
    | 0, hx => cases hx; refine ⟨e _, e _, e _, e _, e _, e _, ?_⟩; decide
    | 1, hx => cases hx; refine ⟨e _, e _, e _, e _, e _, e _, ?_⟩; decide
    | i + 2, hx => simp [bothCs] at hx
  have hp : ICells w2 (w.heap.size + 1) 0 [0, 1, 1, 0] := by
    have e : ∀ k, w2.cell? ⟨w.heap.size + 1, k, none⟩ = (#[.int .i64 0, .int .i64 1, .int .i64 1, .int .i64 0] : Array Value)[k]? := fun k => by
      rw [← hw2, World.cell?_alloc_at _ _ _ _ (by simp)]
    intro i x hx
    match i, hx with
    | 0, hx => cases hx; exact ⟨e _, by decide⟩
    | 1, hx => cases hx; exact ⟨e _, by decide⟩
    | 2, hx => cases hx; exact ⟨e _, by decide⟩
    | 3, hx => cases hx; exact ⟨e _, by decide⟩
    | i + 4, hx => simp at hx
  have HG := Lib.hid (consPlay_good 2 (some ⟨w.heap.size, 0, none⟩) w.heap.size 0 2 bothCs (some ⟨w.heap.size + 1, 0, none⟩) (w.heap.size + 1) 0 4 [0, 1, 1, 0] w2 (fun _ => rfl) (fun _ => by omega) hc (fun h => by cases h) (fun _ => rfl) (fun _ => by omega) hp (by decide))
  clear hw2 hc hp
  refine (show Calls Try.prog 11 #[.int .i64 2, .slice (some ⟨w.heap.size, 0, none⟩) 2 2, .slice (some ⟨w.heap.size + 1, 0, none⟩) 4 4] w2 (PlayG consM 2 0 bothCs [0] () [0, 1, 1, 0] w2) from HG.out).mono ?_
  rintro e w3 hP
  obtain ⟨aoE, gE, capE, gw, rfl, hao, hev, hrw, _, hb3⟩ := hP.good (by decide)
  rw [both_end] at hao hev hrw ⊢
  obtain rfl := hao (by decide)
  have z := hb3.size
  have HB3 : Hid (Below w.heap.size w w3) := Lib.hid (HB0.out.trans (hb3.mono (by omega)))
  obtain ⟨_, la0, ka0, lc0, kc0, v0⟩ := hev 0 _ rfl
  obtain ⟨_, la1, ka1, lc1, kc1, v1⟩ := hev 1 _ rfl
  have r5 : w3.cell? ⟨gE, 5, none⟩ = some (.int .u64 5) := v0.c5
  have r13 : w3.cell? ⟨gE, 13, none⟩ = some (.int .u64 5) := v1.c5
  have r10 : w3.cell? ⟨gE, 10, none⟩ = some (.int .i64 3) := v1.c2
  have rw0 : w3.cell? ⟨gw, 0, none⟩ = some (.int .u64 6) := hrw.cell rfl
  have l1 := World.block_lt_of_cell? w3 ⟨gE, 5, none⟩ r5
  have l2 := hrw.lt
  clear hao hev hrw hb3 v0 v1 HG hP
  unfold repVs
  go_wp2_with fail
  go_ret
  exact ⟨rfl, HB3.out.alloc (by omega) _⟩

end Go.Proofs.Ytcedfcdhdgmelaa
