/- Walks of adopters: New, Size, Place, Invoke. -/
import Derived.Test.YtglpalomhhhmhaaAD3
import Derived.Test.YtglpalomhhhmhaaU6b
import Derived.Deep.Cut
namespace Go.Proofs.Ytglpalomhhhmhaa
open Go.ChangeShapes Go.WideShapes Go.ChangeAt Go.RowKit
set_option linter.unusedVariables false
set_option linter.unusedSimpArgs false
/-- who has done it, as it lies -/
def prVs (n : Nat) (f : Nat → Bool) : List Value := (List.range n).map fun t => .bool (f t)
theorem prVs_get {n t : Nat} {f : Nat → Bool} (h : t < n) : (prVs n f)[t]? = some (.bool (f t)) := by unfold prVs; rw [List.getElem?_map, List.getElem?_range h]; rfl
theorem prVs_put {n t : Nat} {f : Nat → Bool} (h : t < n) : (prVs n f).set t (.bool true) = prVs n (setB f t) := by
  apply List.ext_getElem?
  intro i
  by_cases hi : i < n
  · rw [prVs_get hi]
    by_cases hit : i = t
    · subst hit
      rw [List.getElem?_set_self (by unfold prVs; simpa using h), setB_same]
    · rw [List.getElem?_set_ne (fun e => hit e.symm), prVs_get hi, setB_other _ hit]
  · rw [List.getElem?_eq_none (by unfold prVs; simp; omega), List.getElem?_eq_none (by unfold prVs; simp; omega)]
theorem prVs_first (n : Nat) : boolVs (List.replicate n false) = prVs n (fun _ => false) := by
  apply List.ext_getElem?
  intro i
  by_cases hi : i < n
  · rw [prVs_get hi, boolVs_get (by rw [List.getElem?_replicate, if_pos hi])]
  · rw [List.getElem?_eq_none (by unfold boolVs; simp; omega), List.getElem?_eq_none (by unfold prVs; simp; omega)]
set_option maxHeartbeats 400000 in
theorem adSize (n : Nat) (hn : n ≤ 16) (W : World) : Calls Try.prog 65 #[.agg #[], .int .i64 (n : Int)] W fun e w' => e = .returned (.tuple #[.int .i64 ((2 * n : Nat) : Int), .int .i64 0]) ∧ Below W.heap.size W w' := by
  have hw : IntKind.i64.wrap (2 * (n : Int)) = ((2 * n : Nat) : Int) := by unfold IntKind.wrap; simp [IntKind.bits, IntKind.signed]; omega
  go_enter Try.func65, Try.ntmps65
  go_wp2
  go_ret2
  exact ⟨by congr 3, (by first | exact Below.refl _ _ | exact (Below.refl _ _).alloc (Nat.le_refl _) _)⟩
def adObjV (n bo : Nat) : Value := .iface 150 (.agg #[.int .i64 (n : Int), .int .i64 0, .int .i64 (n : Int), .slice (some ⟨bo, 0, none⟩) n n])
set_option maxHeartbeats 400000 in
theorem adPlace (n : Nat) (hn : n ≤ 16) (W : World) : Calls Try.prog 64 #[.agg #[], .int .i64 (n : Int), .int .i64 0] W fun e w' => ∃ bo, e = .returned (adObjV n bo) ∧ RowBlk 4 w' bo (prVs n (fun _ => false)) ∧ W.heap.size ≤ bo ∧ Below W.heap.size W w' := by
  have hmk := run_mkB n (by omega)
  have hw : IntKind.i64.wrap (0 + (n : Int)) = (n : Int) := by unfold IntKind.wrap; simp [IntKind.bits, IntKind.signed]; omega
  go_enter Try.func64, Try.ntmps64
  go_wp2
  go_ret
  refine ⟨W.heap.size + 1, rfl, ?_, Nat.le_succ _, ((Below.refl _ _).alloc (Nat.le_refl _) _).alloc (by simp) _⟩
  have h := RowBlk.new (W.alloc (.cells #[] 64)) (boolVs (List.replicate n false)) 4
  rw [prVs_first] at h
  have e : (W.alloc (.cells #[] 64)).heap.size = W.heap.size + 1 := by simp
  rw [e] at h
  rw [← prVs_first] at h
  rw [← prVs_first]
  exact h
def adArg (n bo : Nat) : Value := .agg #[.int .i64 (n : Int), .int .i64 0, .int .i64 (n : Int), .slice (some ⟨bo, 0, none⟩) n n]
set_option maxRecDepth 100000 in
theorem ad_bad9 (n bo : Nat) (x : CallV) (W : World) (hk : ¬ x.k = 0) : Calls Try.prog 72 #[adArg n bo, callAgg x] W fun en w' => en = .returned (.tuple #[.nilIface, .int .i64 9]) ∧ Below W.heap.size W w' := by
  unfold callAgg adArg
  have h1 : (x.k == 0) = false := by rw [beq_eq_false_iff_ne]; exact hk
  have h2 : (x.k != 0) = true := by rw [bne_iff_ne]; exact hk
  go_enter Try.func72, Try.ntmps72
  go_wp2
  go_ret2
  exact ⟨rfl, ((Below.refl _ _).alloc (Nat.le_refl _) _).alloc (by simp) _⟩
set_option maxRecDepth 100000 in
theorem ad_bad10 (n bo : Nat) (x : CallV) (W : World) (hk : x.k = 0) (ha : 2147483648 ≤ x.a) : Calls Try.prog 72 #[adArg n bo, callAgg x] W fun en w' => en = .returned (.tuple #[.nilIface, .int .i64 10]) ∧ Below W.heap.size W w' := by
  unfold callAgg adArg
  rw [hk]
  have h1 : (2147483648 : Int) ≤ (x.a : Int) := by omega
  have h2 : ¬ (x.a : Int) < 2147483648 := by omega
  go_enter Try.func72, Try.ntmps72
  go_wp2
  go_ret2
  exact ⟨rfl, ((Below.refl _ _).alloc (Nat.le_refl _) _).alloc (by simp) _⟩
/-- what Invoke leaves -/
def AdMade (n bo t a : Nat) (f : Nat → Bool) (W : World) (en : Ending) (w' : World) : Prop := ∃ g, en = .returned (.tuple #[.iface 161 (.pointer (some ⟨g, 0, none⟩)), .int .i64 0]) ∧ RowBlk 163 w' g (AdVs n bo t (a + 1) 0 false (.slice none 0 0)) ∧ RowBlk 4 w' bo (prVs n (setB f t)) ∧ W.heap.size ≤ g ∧ ButS (fun b => b = bo) W w'
set_option maxRecDepth 100000 in
set_option maxHeartbeats 1000000 in
theorem ad_inv (n bo t : Nat) (f : Nat → Bool) (x : CallV) (W : World) (hn : n ≤ 16) (hk : x.k = 0) (ha : x.a < 2147483648) (ht : x.t = (t : Int)) (htn : t < n) (hp : RowBlk 4 W bo (prVs n f)) :
    (f t = true → Calls Try.prog 72 #[adArg n bo, callAgg x] W fun en w' => en = .returned (.tuple #[.nilIface, .int .i64 8]) ∧ Below W.heap.size W w') ∧
    (f t = false → Calls Try.prog 72 #[adArg n bo, callAgg x] W (AdMade n bo t x.a f W)) := by
  obtain ⟨xt, xo, xk, xa, xb, xc⟩ := x
  simp only at hk ha ht
  subst hk
  subst ht
  have h1 : ¬ (2147483648 : Int) ≤ (xa : Int) := by omega
  have h2 : (xa : Int) < 2147483648 := by omega
  have hw : IntKind.u64.wrap ((xa : Int) + 1) = ((xa + 1 : Nat) : Int) := by unfold IntKind.wrap; simp [IntKind.bits, IntKind.signed]; omega
  have i0 : (0 : Int) ≤ (t : Int) := by omega
  have i1 : (t : Int) < (n : Int) := by omega
  have hpl := hp.lt
  unfold callAgg adArg
  obtain ⟨W2, hW2⟩ : ∃ W2, (W.alloc (.cells #[.int .i64 (n : Int), .int .i64 0, .int .i64 (n : Int), .slice (some ⟨bo, 0, none⟩) n n] 150)).alloc (.cells #[.int .i64 (t : Int), .int .i64 xo, .int .i64 0, .int .u64 (xa : Int), .int .u64 (xb : Int), .int .u64 (xc : Int)] 43) = W2 := ⟨_, rfl⟩
  have HB : Hid (Below W.heap.size W W2) := Lib.hid (by rw [← hW2]; exact ((Below.refl _ _).alloc (Nat.le_refl _) _).alloc (by simp) _)
  have HP : Hid (RowBlk 4 W2 bo (prVs n f)) := Lib.hid (by rw [← hW2]; exact (hp.alloc _).alloc _)
  have HA : Hid (RowBlk 150 W2 W.heap.size [.int .i64 (n : Int), .int .i64 0, .int .i64 (n : Int), .slice (some ⟨bo, 0, none⟩) n n]) := Lib.hid (by rw [← hW2]; exact (RowBlk.new _ _ _).alloc _)
  have HC : Hid (RowBlk 43 W2 (W.heap.size + 1) [.int .i64 (t : Int), .int .i64 xo, .int .i64 0, .int .u64 (xa : Int), .int .u64 (xb : Int), .int .u64 (xc : Int)]) := Lib.hid (by
    rw [← hW2]
    have h := RowBlk.new (W.alloc (.cells #[.int .i64 (n : Int), .int .i64 0, .int .i64 (n : Int), .slice (some ⟨bo, 0, none⟩) n n] 150)) [.int .i64 (t : Int), .int .i64 xo, .int .i64 0, .int .u64 (xa : Int), .int .u64 (xb : Int), .int .u64 (xc : Int)] 43
    have e : (W.alloc (.cells #[.int .i64 (n : Int), .int .i64 0, .int .i64 (n : Int), .slice (some ⟨bo, 0, none⟩) n n] 150)).heap.size = W.heap.size + 1 := by simp
    rw [e] at h; exact h)
  have HZ : Hid (W2.heap.size = W.heap.size + 2) := Lib.hid (by rw [← hW2]; simp)
  have a0 := HA.out.cell (i := 0) rfl
  have a1 := HA.out.cell (i := 1) rfl
  have a2 := HA.out.cell (i := 2) rfl
  have a3 := HA.out.cell (i := 3) rfl
  have k0 := HC.out.cell (i := 0) rfl
  have k1 := HC.out.cell (i := 1) rfl
  have k2 := HC.out.cell (i := 2) rfl
  have k3 := HC.out.cell (i := 3) rfl
  have p0 := HP.out.cell (prVs_get htn)
  have fz : W2.frozen? ⟨bo, t, none⟩ = false := HP.out.free
  have HTN := Lib.hid htn
  constructor
  · intro hf
    rw [hf] at p0
    clear hf hp
    go_enter Try.func72, Try.ntmps72
    go_wp2
    go_ret2
    exact ⟨rfl, HB.out⟩
  · intro hf
    rw [hf] at p0
    clear hf hp
    have n1 : bo ≠ W.heap.size := by omega
    have n2 : bo ≠ W.heap.size + 1 := by omega
    have n3 : W.heap.size ≠ bo := by omega
    have n4 : W.heap.size + 1 ≠ bo := by omega
    go_enter Try.func72, Try.ntmps72
    go_wp2
    go_ret2
    have hp3 : RowBlk 4 (W2.setCell ⟨bo, t, none⟩ (.bool true)) bo (prVs n (setB f t)) := by rw [← prVs_put HTN.out]; exact HP.out.put t _
    refine ⟨(W2.setCell ⟨bo, t, none⟩ (.bool true)).heap.size, ?_, RowBlk.new _ _ _, hp3.alloc _, ?_, ((show ButS (fun b => b = bo) W W2 from ButS.of_below HB.out).setCell (x := ⟨bo, t, none⟩) (.inl rfl) _).alloc _⟩
    · simp [World.setCell]
    · have := HZ.out; simp [World.setCell]; omega
end Go.Proofs.Ytglpalomhhhmhaa
