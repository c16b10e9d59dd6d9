/- Walks of door: all, Invoke, and a look's step. -/
import Derived.Test.YtcedfcdhdgmelaaOD
import Derived.Test.YtcedfcdhdgmelaaOA
namespace Go.Proofs.Ytcedfcdhdgmelaa
open Go.ChangeShapes Go.WideShapes Go.ChangeAt Go.RowKit
set_option linter.unusedVariables false

set_option maxRecDepth 100000 in
set_option maxHeartbeats 1000000 in
theorem door_all (n : Nat) (hn : 1 ≤ n ∧ n ≤ 16) (w : World) : Calls Try.prog 119 #[.agg #[.int .i64 (n : Int), .int .i64 0]] w fun e w' => ∃ v, e = .returned v ∧ w'.ownsRow w.heap.size 3 1 v n (nums (List.range n)) ∧ Below w.heap.size w w' := by
  obtain ⟨iI, ia, ib, ic, id⟩ := info_parts infoIu
  go_enter Try.func119, Try.ntmps119
  go_wp2_with fail
  have HRB : Hid (RowBlk 191 (w.alloc (.cells #[.int .i64 (n : Int), .int .i64 0] 191)) w.heap.size [.int .i64 (n : Int), .int .i64 0]) := Lib.hid (RowBlk.new _ _ _)
  have HB0 : Hid (Below w.heap.size w (w.alloc (.cells #[.int .i64 (n : Int), .int .i64 0] 191))) := Lib.hid ((Below.refl _ _).alloc (Nat.le_refl _) _)
  have hs0 : (w.alloc (.cells #[.int .i64 (n : Int), .int .i64 0] 191)).heap.size = w.heap.size + 1 := by simp
  have HS0 := Lib.hid hs0
  generalize w.alloc (.cells #[.int .i64 (n : Int), .int .i64 0] 191) = w0 at HRB HB0 HS0 ⊢
  clear hs0
  go_loopw [3, 7] (fun v k wr => ∃ j : Nat, j ≤ n ∧ k = .int .i64 j ∧ Hid (wr.ownsRow (w.heap.size + 1) 3 1 v j (nums (List.range j))) ∧ Hid (Below w0.heap.size w0 wr)) (fun _ k _ => n - (intOf k).toNat)
  case atStart => exact ⟨0, Nat.zero_le _, rfl, Lib.hid (World.ownsRow_nil _ _ _ _), Lib.hid (Below.refl _ _)⟩
  case round =>
    obtain ⟨j, hj, rfl, ho, hB⟩ := hrel
    have hr := HRB.out.same (hB.out.block _ HRB.out.lt)
    have c1 : wr.cell? ⟨w.heap.size, 1, none⟩ = some (.int .i64 0) := hr.cell rfl
    have hsz := hB.out.size
    have hl := hr.lt
    have z0 := HS0.out
    clear hr
    by_cases hjn : j < n
    · have i1 : (j : Int) < (n : Int) := by omega
      go_wp2_with (at_builtin; refine append_new rfl _ _ 23 rfl (w.heap.size + 1) 3 iI (.int .i64 0) 1 8 Try.underlying23 ia ib ic id rfl (by decide) (by decide) _ j _ rfl ho.out [.int .i64 (j : Int)] rfl rfl rfl (by omega) (by omega) ?_)
      intro v2 w2 ho2 hb2 _ _
      have HO2 : Hid (w2.ownsRow (w.heap.size + 1) 3 1 v2 (j + 1) (nums (List.range (j + 1)))) := Lib.hid (by
        have e : nums (List.range (j + 1)) = nums (List.range j) ++ [.int .i64 (j : Int)] := by rw [List.range_succ]; unfold nums; rw [List.map_append]; rfl
        rw [e]; exact ho2)
      have HB2 : Hid (Below w0.heap.size w0 w2) := Lib.hid (hB.out.trans (hb2.mono (by omega)))
      clear ho2 hb2
      go_wp2_with fail
      go_roundw
      case rel => exact ⟨j + 1, by omega, by go_num, HO2, HB2⟩
      case measure => simp [intOf]; omega
    · have i1 : ¬ (j : Int) < (n : Int) := by omega
      obtain rfl : j = n := by omega
      go_wp2_with fail
      go_ret
      refine ⟨_, rfl, ?_, HB0.out.trans (hB.out.mono (by omega))⟩
      obtain ⟨o1, o2 | ⟨g, cap, cur, e1, e2, e3⟩⟩ := ho.out
      · exact ⟨o1, .inl o2⟩
      · exact ⟨o1, .inr ⟨g, cap, cur, e1, by omega, e3⟩⟩

set_option maxRecDepth 100000 in
theorem door_bad (n : Nat) (x : CallV) (W : World) (hk : ¬ x.k = 0) (hk1 : ¬ x.k = 1) : Calls Try.prog 118 #[.agg #[.int .i64 (n : Int), .int .i64 0], callAgg x] W fun en w' => en = .returned (.tuple #[.nilIface, .int .i64 9]) ∧ Below W.heap.size W w' := by
  unfold callAgg
  go_enter Try.func118, Try.ntmps118
  go_wp2
  go_ret2
  exact ⟨rfl, ((Below.refl _ _).alloc (Nat.le_refl _) _).alloc (by simp) _⟩
set_option maxRecDepth 100000 in
theorem door_range (n : Nat) (x : CallV) (W : World) (hn : n ≤ 16) (hk : x.k = 1) (ha : n ≤ x.a) : Calls Try.prog 118 #[.agg #[.int .i64 (n : Int), .int .i64 0], callAgg x] W fun en w' => en = .returned (.tuple #[.nilIface, .int .i64 10]) ∧ Below W.heap.size W w' := by
  unfold callAgg
  rw [hk]
  have h2 : (n : Int) % 18446744073709551616 = n := by omega
  have h3 : (n : Int) ≤ (x.a : Int) := by omega
  go_enter Try.func118, Try.ntmps118
  go_wp2
  go_ret2
  exact ⟨rfl, ((Below.refl _ _).alloc (Nat.le_refl _) _).alloc (by simp) _⟩
set_option maxRecDepth 100000 in
theorem door_looks (n : Nat) (x : CallV) (W : World) (hn : n ≤ 16) (hk : x.k = 1) (ha : x.a < n) : Calls Try.prog 118 #[.agg #[.int .i64 (n : Int), .int .i64 0], callAgg x] W fun en w' => en = .returned (.tuple #[.iface 214 (.agg #[.int .i64 (x.a : Int)]), .int .i64 0]) ∧ Below W.heap.size W w' := by
  unfold callAgg
  rw [hk]
  have h2 : (n : Int) % 18446744073709551616 = n := by omega
  have h3 : (x.a : Int) < (n : Int) := by omega
  have h4 : x.a ≤ 64 := by omega
  go_enter Try.func118, Try.ntmps118
  go_wp2
  go_ret2
  exact ⟨rfl, ((Below.refl _ _).alloc (Nat.le_refl _) _).alloc (by simp) _⟩
/-- an entry made -/
def DoorMade (n own : Nat) (W : World) (en : Ending) (w' : World) : Prop := ∃ g gl cap, en = .returned (.tuple #[.iface 210 (.pointer (some ⟨g, 0, none⟩)), .int .i64 0]) ∧ RowBlk 212 w' g [.slice (some ⟨gl, 0, none⟩) n cap, .int .i64 (own : Int), .int .u64 0] ∧ (∀ j < n, w'.cell? ⟨gl, j, none⟩ = some (.int .i64 (j : Int))) ∧ BlkT w' gl 3 ∧ n ≤ cap ∧ W.heap.size ≤ g ∧ W.heap.size ≤ gl ∧ Below W.heap.size W w'
set_option maxRecDepth 100000 in
set_option maxHeartbeats 2000000 in
theorem door_entry (n : Nat) (hn : 1 ≤ n ∧ n ≤ 16) (x : CallV) (own : Nat) (W : World) (hk : x.k = 0) (ht : x.t = (own : Int)) (ho : own ≤ 16) : Calls Try.prog 118 #[.agg #[.int .i64 (n : Int), .int .i64 0], callAgg x] W (DoorMade n own W) := by
  unfold callAgg
  rw [hk, ht]
  have HN := Lib.hid hn
  have HALL : Hid (∀ W' : World, Calls Try.prog 119 #[.agg #[.int .i64 (n : Int), .int .i64 0]] W' fun e w' => ∃ gl cap, e = .returned (.slice (some ⟨gl, 0, none⟩) n cap) ∧ (∀ j < n, w'.cell? ⟨gl, j, none⟩ = some (.int .i64 (j : Int))) ∧ BlkT w' gl 3 ∧ n ≤ cap ∧ W'.heap.size ≤ gl ∧ Below W'.heap.size W' w') := Lib.hid (fun W' => (door_all n hn W').mono fun e w' ⟨v, he, hv, hb⟩ => by
    obtain ⟨_, ⟨_, h0⟩ | ⟨gl, cap, cur, rfl, h1, h2, h3, h4, h5, h6⟩⟩ := hv
    · exact absurd h0 (by omega)
    · refine ⟨gl, cap, he, fun j hj => ?_, ⟨cur, h2⟩, h3, h1, hb⟩
      refine cell_of_heap h2 ?_
      have e1 : (cur.toList.take (n * 1))[j]? = some (.int .i64 (j : Int)) := by
        rw [h6]; unfold nums; rw [List.getElem?_map, List.getElem?_range hj]; rfl
      rw [List.getElem?_take_of_lt (by omega)] at e1
      simpa using e1)
  have hwr : IntKind.i64.wrap (own : Int) = (own : Int) := by unfold IntKind.wrap; simp [IntKind.bits, IntKind.signed]; omega
  have c0 : ((W.alloc (.cells #[.int .i64 (n : Int), .int .i64 0] 191)).alloc (.cells #[.int .i64 (own : Int), .int .i64 x.o, .int .i64 0, .int .u64 (x.a : Int), .int .u64 (x.b : Int), .int .u64 (x.c : Int)] 49)).heap.size = W.heap.size + 2 := by simp
  have HR1 : Hid (RowBlk 191 ((W.alloc (.cells #[.int .i64 (n : Int), .int .i64 0] 191)).alloc (.cells #[.int .i64 (own : Int), .int .i64 x.o, .int .i64 0, .int .u64 (x.a : Int), .int .u64 (x.b : Int), .int .u64 (x.c : Int)] 49)) W.heap.size [.int .i64 (n : Int), .int .i64 0]) := Lib.hid ((RowBlk.new _ _ _).alloc _)
  have HR2 : Hid (RowBlk 49 ((W.alloc (.cells #[.int .i64 (n : Int), .int .i64 0] 191)).alloc (.cells #[.int .i64 (own : Int), .int .i64 x.o, .int .i64 0, .int .u64 (x.a : Int), .int .u64 (x.b : Int), .int .u64 (x.c : Int)] 49)) (W.heap.size + 1) [.int .i64 (own : Int), .int .i64 x.o, .int .i64 0, .int .u64 (x.a : Int), .int .u64 (x.b : Int), .int .u64 (x.c : Int)]) := Lib.hid (by
    have h := RowBlk.new (W.alloc (.cells #[.int .i64 (n : Int), .int .i64 0] 191)) [.int .i64 (own : Int), .int .i64 x.o, .int .i64 0, .int .u64 (x.a : Int), .int .u64 (x.b : Int), .int .u64 (x.c : Int)] 49
    have e : (W.alloc (.cells #[.int .i64 (n : Int), .int .i64 0] 191)).heap.size = W.heap.size + 1 := by simp
    rw [e] at h; exact h)
  have HBa : Hid (Below W.heap.size W ((W.alloc (.cells #[.int .i64 (n : Int), .int .i64 0] 191)).alloc (.cells #[.int .i64 (own : Int), .int .i64 x.o, .int .i64 0, .int .u64 (x.a : Int), .int .u64 (x.b : Int), .int .u64 (x.c : Int)] 49))) := Lib.hid (((Below.refl _ _).alloc (Nat.le_refl _) _).alloc (by simp) _)
  have HC0 := Lib.hid c0
  clear c0 hn ht hk
  go_enter Try.func118, Try.ntmps118
  go_wp2_with fail
  generalize (W.alloc (.cells #[.int .i64 (n : Int), .int .i64 0] 191)).alloc (.cells #[.int .i64 (own : Int), .int .i64 x.o, .int .i64 0, .int .u64 (x.a : Int), .int .u64 (x.b : Int), .int .u64 (x.c : Int)] 49) = wa at HR1 HR2 HBa HC0 ⊢
  have r0 : wa.cell? ⟨W.heap.size, 0, none⟩ = some (.int .i64 (n : Int)) := HR1.out.cell rfl
  have r1 : wa.cell? ⟨W.heap.size, 1, none⟩ = some (.int .i64 0) := HR1.out.cell rfl
  have s0 : wa.cell? ⟨W.heap.size + 1, 0, none⟩ = some (.int .i64 (own : Int)) := HR2.out.cell rfl
  go_region_held3 (fun w' => w'.cell? ⟨W.heap.size, 0, none⟩ = some (.int .i64 (n : Int)) ∧ w'.cell? ⟨W.heap.size, 1, none⟩ = some (.int .i64 0) ∧ w'.cell? ⟨W.heap.size + 1, 0, none⟩ = some (.int .i64 (own : Int)))
    (first | with_reducible exact ⟨r0, r1, s0⟩ | go_keep)
    (first
      | (go_at_call 119
         refine (HALL.out _).mono ?_
         rintro e w4 ⟨gl, cap, rfl, hcl, hbt, hcap, hgl, hb4⟩
         have hr1 := (HR1.out.drew).same (hb4.block _ HR1.out.lt)
         have hr2 := (HR2.out.drew).same (hb4.block _ HR2.out.lt)
         have r0 : w4.cell? ⟨W.heap.size, 0, none⟩ = some (.int .i64 (n : Int)) := hr1.cell rfl
         have r1 : w4.cell? ⟨W.heap.size, 1, none⟩ = some (.int .i64 0) := hr1.cell rfl
         have s0 : w4.cell? ⟨W.heap.size + 1, 0, none⟩ = some (.int .i64 (own : Int)) := hr2.cell rfl
         have HCL := Lib.hid hcl
         have HBT := Lib.hid hbt
         have HGL : Hid (W.heap.size ≤ gl) := Lib.hid (by have := HC0.out; have h2 : wa.drew.heap.size = wa.heap.size := rfl; omega)
         have HB4 : Hid (Below W.heap.size W w4) := Lib.hid ((below_drew HBa.out).trans (hb4.mono (by have := HC0.out; have h2 : wa.drew.heap.size = wa.heap.size := rfl; omega)))
         have HCP := Lib.hid hcap
         clear hr1 hr2 hcl hbt hcap hgl hb4))
  go_wp2_with fail
  go_ret2
  refine ⟨w4.heap.size, gl, cap, rfl, RowBlk.new w4 [.slice (some ⟨gl, 0, none⟩) n cap, .int .i64 (own : Int), .int .u64 0] _, fun j hj => ?_, ?_, HCP.out, HB4.out.size, HGL.out, HB4.out.alloc HB4.out.size _⟩
  · rw [World.cell?_alloc_past _ _ _ (by have := HBT.out.lt; exact this)]; exact HCL.out j hj
  · exact BlkT.same HBT.out (Below.heap_alloc _ _ _ (BlkT.lt HBT.out))
end Go.Proofs.Ytcedfcdhdgmelaa
