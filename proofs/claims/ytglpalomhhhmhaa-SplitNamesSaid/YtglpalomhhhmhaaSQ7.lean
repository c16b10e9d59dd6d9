/- Walk of the splitters' Play. -/
import Derived.Test.YtglpalomhhhmhaaSQ3
import Derived.Test.YtglpalomhhhmhaaZC
namespace Go.Proofs.Ytglpalomhhhmhaa
open Go.RowKit
set_option linter.unusedVariables false
theorem spPlay_any_new (w : World) : Calls Try.prog 14 #[] w fun e w' => e = .returned (.iface 61 (.agg #[])) ∧ w = w' := by
  go_enter Try.func14, Try.ntmps14
  go_wp2
  go_ret
  exact ⟨rfl, rfl⟩
set_option maxRecDepth 100000 in
set_option maxHeartbeats 4000000 in
theorem spPlay_any (n : Int) (I : St (spM) → Prop) (size er : Nat) (ao : Option Addr) (b o cap : Nat) (cs : List CallV) (ao3 : Option Addr) (b3 o3 cap3 : Nat) (picks : List Int) (w : World) (ha : 0 < cs.length → ao = some ⟨b, o, none⟩) (hb : 0 < cs.length → b < w.heap.size) (hc : CallsAt w b o cs) (hcap : ao = none → cap = 0)
    (ha3 : 0 < picks.length → ao3 = some ⟨b3, o3, none⟩) (hb3 : 0 < picks.length → b3 < w.heap.size) (hc3 : ICells w b3 o3 picks) (hnp : picks.length ≤ 9223372036854775807)
    (hS : checkL n (thr cs) picks.length = 0 → SizeC 61 (.agg #[]) n size er) (hP : checkL n (thr cs) picks.length = 0 → er = 0 → NotFilled 61 (.agg #[]) ∧ PlaceC cs I sp0 61 (.agg #[]) n ∧ 1 ≤ size ∧ size ≤ 65536 ∧ I (stM cs (List.replicate size 0) sp0)) :
    Calls Try.prog 8 #[.int .i64 n, .slice ao cs.length cap, .slice ao3 picks.length cap3] w (PlayG (spM) n er cs (List.replicate size 0) sp0 picks w) := by
  have HA := Lib.hid ha
  have HB := Lib.hid hb
  have HC := Lib.hid hc
  have HA3 := Lib.hid ha3
  have HB3 := Lib.hid hb3
  have HC3 := Lib.hid hc3
  have HCP := Lib.hid hcap
  have HS := Lib.hid hS
  have HP := Lib.hid hP
  clear ha hb hc ha3 hb3 hc3 hcap hS hP
  go_enter Try.func8, Try.ntmps8
  go_wp2_with fail
  refine (spPlay_any_new _).mono ?_
  rintro e w1 ⟨rfl, rfl⟩
  go_wp2_with fail
  generalize hw2 : (w.alloc (.cells #[.slice none 0 0, .slice none 0 0, .int .i64 0, .int .i64 0, .int .i64 0, .int .i64 0, .int .i64 0, .int .i64 0, .int .i64 0] 31)).alloc (.cells #[.iface 61 (.agg #[])] 50) = w2
  have HBa : Hid (Below w.heap.size w w2) := Lib.hid (by rw [← hw2]; exact ((Below.refl w.heap.size w).alloc (Nat.le_refl _) _).alloc (by simp) _)
  have hsz2 : w2.heap.size = w.heap.size + 2 := by rw [← hw2]; simp
  have hz2 : RowBlk 31 w2 w.heap.size zeroVs := by rw [← hw2]; exact (RowBlk.new w zeroVs 31).alloc _
  have hob2 : w2.cell? ⟨w.heap.size + 1, 0, none⟩ = some (.iface 61 (.agg #[])) := by rw [← hw2, World.cell?_alloc_at _ _ _ _ (by simp)]; rfl
  have HZ2 := Lib.hid hz2
  clear hz2 hw2
  refine (play_any I sp0 61 (.agg #[]) n size er ao b o cap cs ao3 b3 o3 cap3 picks (w.heap.size + 1) 1 w2 HA.out (fun h => by have := HB.out h; omega) (HC.out.stays HBa.out HB.out) HCP.out HA3.out (fun h => by have := HB3.out h; omega) (HC3.out.stays HBa.out HB3.out) hnp hob2 HS.out HP.out).mono ?_
  rintro e w3 ⟨a1, n1, c1, a2, n2, c2, i0, i1, i2, i3, i4, i5, i6, v, rfl, rfl, hv1, hv2, hb3⟩
  have hz := HZ2.out.same (hb3.block _ (by omega))
  have HB3' : Hid (Below w.heap.size w w3) := Lib.hid (HBa.out.trans (hb3.mono (by omega)))
  have HV1 := Lib.hid hv1
  have HV2 := Lib.hid hv2
  have r0 := hz.cell (i := 0) rfl
  have r1 := hz.cell (i := 1) rfl
  have r2 := hz.cell (i := 2) rfl
  have r3 := hz.cell (i := 3) rfl
  have r4 := hz.cell (i := 4) rfl
  have r5 := hz.cell (i := 5) rfl
  have r6 := hz.cell (i := 6) rfl
  have r7 := hz.cell (i := 7) rfl
  have r8 := hz.cell (i := 8) rfl
  have fr : ∀ k, w3.frozen? ⟨w.heap.size, k, none⟩ = false := fun k => hz.free
  have HZ3 := Lib.hid hz
  clear hb3 hz hob2 hv1 hv2
  go_wp2_with fail
  have H7 : Hid (RowBlk 31 (((((((((w3.setCell ⟨w.heap.size, 0, none⟩ (.slice a1 n1 c1)).setCell ⟨w.heap.size, 1, none⟩ (.slice a2 n2 c2)).setCell ⟨w.heap.size, 2, none⟩ (.int .i64 i0)).setCell ⟨w.heap.size, 3, none⟩ (.int .i64 i1)).setCell ⟨w.heap.size, 4, none⟩ (.int .i64 i2)).setCell ⟨w.heap.size, 5, none⟩ (.int .i64 i3)).setCell ⟨w.heap.size, 6, none⟩ (.int .i64 i4)).setCell ⟨w.heap.size, 7, none⟩ (.int .i64 i5)).setCell ⟨w.heap.size, 8, none⟩ (.int .i64 i6)) w.heap.size [.slice a1 n1 c1, .slice a2 n2 c2, .int .i64 i0, .int .i64 i1, .int .i64 i2, .int .i64 i3, .int .i64 i4, .int .i64 i5, .int .i64 i6] ∧
      (playErr n cs picks.length er = 0 → RepG w.heap.size (((((((((w3.setCell ⟨w.heap.size, 0, none⟩ (.slice a1 n1 c1)).setCell ⟨w.heap.size, 1, none⟩ (.slice a2 n2 c2)).setCell ⟨w.heap.size, 2, none⟩ (.int .i64 i0)).setCell ⟨w.heap.size, 3, none⟩ (.int .i64 i1)).setCell ⟨w.heap.size, 4, none⟩ (.int .i64 i2)).setCell ⟨w.heap.size, 5, none⟩ (.int .i64 i3)).setCell ⟨w.heap.size, 6, none⟩ (.int .i64 i4)).setCell ⟨w.heap.size, 7, none⟩ (.int .i64 i5)).setCell ⟨w.heap.size, 8, none⟩ (.int .i64 i6)) (.agg #[.slice a1 n1 c1, .slice a2 n2 c2, .int .i64 i0, .int .i64 i1, .int .i64 i2, .int .i64 i3, .int .i64 i4, .int .i64 i5, .int .i64 i6]) (repOf (endM (M := (spM)) cs (List.replicate size 0) sp0 picks))) ∧ Below w.heap.size w (((((((((w3.setCell ⟨w.heap.size, 0, none⟩ (.slice a1 n1 c1)).setCell ⟨w.heap.size, 1, none⟩ (.slice a2 n2 c2)).setCell ⟨w.heap.size, 2, none⟩ (.int .i64 i0)).setCell ⟨w.heap.size, 3, none⟩ (.int .i64 i1)).setCell ⟨w.heap.size, 4, none⟩ (.int .i64 i2)).setCell ⟨w.heap.size, 5, none⟩ (.int .i64 i3)).setCell ⟨w.heap.size, 6, none⟩ (.int .i64 i4)).setCell ⟨w.heap.size, 7, none⟩ (.int .i64 i5)).setCell ⟨w.heap.size, 8, none⟩ (.int .i64 i6))) := Lib.hid
    ⟨(((((((((HZ3.out.put 0 _).put 1 _).put 2 _).put 3 _).put 4 _).put 5 _).put 6 _).put 7 _).put 8 _),
     fun h => ((HV2.out h).mono (by omega)).other HZ3.out (fun k _ hk => by rw [heap_far hk, heap_far hk, heap_far hk, heap_far hk, heap_far hk, heap_far hk, heap_far hk, heap_far hk, heap_far hk]),
     (((((((((HB3'.out.setCell (Nat.le_refl _) _).setCell (Nat.le_refl _) _).setCell (Nat.le_refl _) _).setCell (Nat.le_refl _) _).setCell (Nat.le_refl _) _).setCell (Nat.le_refl _) _).setCell (Nat.le_refl _) _).setCell (Nat.le_refl _) _).setCell (Nat.le_refl _) _)⟩
  generalize ((((((((w3.setCell ⟨w.heap.size, 0, none⟩ (.slice a1 n1 c1)).setCell ⟨w.heap.size, 1, none⟩ (.slice a2 n2 c2)).setCell ⟨w.heap.size, 2, none⟩ (.int .i64 i0)).setCell ⟨w.heap.size, 3, none⟩ (.int .i64 i1)).setCell ⟨w.heap.size, 4, none⟩ (.int .i64 i2)).setCell ⟨w.heap.size, 5, none⟩ (.int .i64 i3)).setCell ⟨w.heap.size, 6, none⟩ (.int .i64 i4)).setCell ⟨w.heap.size, 7, none⟩ (.int .i64 i5)).setCell ⟨w.heap.size, 8, none⟩ (.int .i64 i6) = W7 at H7 ⊢
  have q0 := H7.out.1.cell (i := 0) rfl
  have q1 := H7.out.1.cell (i := 1) rfl
  have q2 := H7.out.1.cell (i := 2) rfl
  have q3 := H7.out.1.cell (i := 3) rfl
  have q4 := H7.out.1.cell (i := 4) rfl
  have q5 := H7.out.1.cell (i := 5) rfl
  have q6 := H7.out.1.cell (i := 6) rfl
  have q7 := H7.out.1.cell (i := 7) rfl
  have q8 := H7.out.1.cell (i := 8) rfl
  exact bodyPost_ret (v := .tuple #[.agg #[.slice a1 n1 c1, .slice a2 n2 c2, .int .i64 i0, .int .i64 i1, .int .i64 i2, .int .i64 i3, .int .i64 i4, .int .i64 i5, .int .i64 i6], .int .i64 (playErr n cs picks.length er : Nat)]) (by simp [results, Try.results8, go_sem, q0, q1, q2, q3, q4, q5, q6, q7, q8]) rfl
    ⟨_, _, _, _, _, _, _, _, _, _, _, _, _, _, rfl, rfl, HV1.out, H7.out.2.1, H7.out.2.2⟩
end Go.Proofs.Ytglpalomhhhmhaa
