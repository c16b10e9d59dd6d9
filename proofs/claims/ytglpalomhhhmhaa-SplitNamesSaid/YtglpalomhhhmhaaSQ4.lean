/- Walks of splitters: names, Size, Place, Invoke, arrive. -/
import Derived.Test.YtglpalomhhhmhaaSQ3
import Derived.Test.YtglpalomhhhmhaaOA
import Derived.Test.YtglpalomhhhmhaaK7
import Derived.Test.YtglpalomhhhmhaaU6b
import Derived.Deep.Cut
import Derived.Deep.QuietTactic
import Derived.BigQuiet
namespace Go.Proofs.Ytglpalomhhhmhaa
open Go.ChangeShapes Go.WideShapes Go.ChangeAt Go.RowKit
set_option linter.unusedVariables false
set_option linter.unusedSimpArgs false
theorem spName_16 {r c : Nat} (h : r + c ≤ 16) : spName r c ≤ 152 := by
  have h1 := tri_mono h
  have h2 : tri 16 = 136 := by decide
  unfold spName; omega
theorem sp_nameOf (r c : Nat) (h : r + c ≤ 16) (w : World) : Calls Try.prog 63 #[.int .i64 (r : Int), .int .i64 (c : Int)] w fun e w' => e = .returned (.int .i64 ((spName r c : Nat) : Int)) ∧ w = w' := by
  obtain ⟨d, hd⟩ : ∃ d, r + c = d := ⟨_, rfl⟩
  obtain ⟨nm, hnm⟩ : ∃ nm, spName r c = nm := ⟨_, rfl⟩
  have hm := tri_mul d
  have hnm2 : tri d + r = nm := by rw [← hnm, ← hd]; rfl
  have ht : tri d ≤ 136 := by
    have h1 := tri_mono (show d ≤ 16 by omega)
    have h2 : tri 16 = 136 := by decide
    omega
  obtain ⟨t, htt⟩ : ∃ t, tri d = t := ⟨_, rfl⟩
  rw [htt] at hm hnm2 ht
  have e1 : IntKind.i64.wrap ((r : Int) + (c : Int)) = (d : Int) := by unfold IntKind.wrap; simp [IntKind.bits, IntKind.signed]; omega
  have e2 : IntKind.i64.wrap ((d : Int) + 1) = (d : Int) + 1 := by unfold IntKind.wrap; simp [IntKind.bits, IntKind.signed]; omega
  have e3 : (d : Int) * ((d : Int) + 1) = 2 * (t : Int) := by
    have h3 : ((d * (d + 1) : Nat) : Int) = ((2 * t : Nat) : Int) := by rw [hm]
    rw [Int.natCast_mul, Int.natCast_mul, Int.natCast_add] at h3
    exact h3
  have e4 : IntKind.i64.wrap (2 * (t : Int)) = 2 * (t : Int) := by unfold IntKind.wrap; simp [IntKind.bits, IntKind.signed]; omega
  have e5 : (2 * (t : Int)).tdiv 2 = (t : Int) := by rw [Int.tdiv_eq_ediv_of_nonneg (by omega)]; omega
  have e5b : (2 * (t : Int)) / 2 = (t : Int) := by omega
  have e6 : IntKind.i64.wrap (t : Int) = (t : Int) := by unfold IntKind.wrap; simp [IntKind.bits, IntKind.signed]; omega
  have e7 : IntKind.i64.wrap ((t : Int) + (r : Int)) = (nm : Int) := by unfold IntKind.wrap; simp [IntKind.bits, IntKind.signed]; omega
  rw [hnm]
  clear hd hnm hm hnm2 htt
  go_enter Try.func63, Try.ntmps63
  go_wp2
  go_ret
  exact ⟨rfl, rfl⟩
theorem sp_wordsOf (m : Nat) (h : m ≤ 1000) (w : World) : Calls Try.prog 62 #[.int .i64 (m : Int)] w fun e w' => e = .returned (.int .i64 ((2 * m : Nat) : Int)) ∧ w = w' := by
  have e1 : IntKind.i64.wrap (2 * (m : Int)) = ((2 * m : Nat) : Int) := by unfold IntKind.wrap; simp [IntKind.bits, IntKind.signed]; omega
  go_enter Try.func62, Try.ntmps62
  go_wp2
  go_ret
  exact ⟨by congr 2, rfl⟩
/-- who has done it, as it lies -/
def prVs (n : Nat) (f : Nat → Bool) : List Value := (List.range n).map fun t => .bool (f t)
theorem prVs_get {n t : Nat} {f : Nat → Bool} (h : t < n) : (prVs n f)[t]? = some (.bool (f t)) := by unfold prVs; rw [List.getElem?_map, List.getElem?_range h]; rfl
theorem prVs_put {n t : Nat} {f : Nat → Bool} (h : t < n) : (prVs n f).set t (.bool true) = prVs n (setB f t) := by
  apply List.ext_getElem?
  intro i
  by_cases hi : i < n
  · rw [prVs_get hi]
    by_cases hit : i = t
    · subst hit
      rw [List.getElem?_set_self (by unfold prVs; simpa using h), setB_same]
    · rw [List.getElem?_set_ne (fun e => hit e.symm), prVs_get hi, setB_other _ hit]
  · rw [List.getElem?_eq_none (by unfold prVs; simp; omega), List.getElem?_eq_none (by unfold prVs; simp; omega)]
theorem prVs_first (n : Nat) : boolVs (List.replicate n false) = prVs n (fun _ => false) := by
  apply List.ext_getElem?
  intro i
  by_cases hi : i < n
  · rw [prVs_get hi, boolVs_get (by rw [List.getElem?_replicate, if_pos hi])]
  · rw [List.getElem?_eq_none (by unfold boolVs; simp; omega), List.getElem?_eq_none (by unfold prVs; simp; omega)]
set_option maxHeartbeats 400000 in
theorem spSize (n : Nat) (hn : n ≤ 16) (W : World) : Calls Try.prog 61 #[.agg #[], .int .i64 (n : Int)] W fun e w' => e = .returned (.tuple #[.int .i64 ((2 * tri n : Nat) : Int), .int .i64 0]) ∧ Below W.heap.size W w' := by
  have HN := Lib.hid (sp_nameOf 0 n (by omega))
  have e0 : spName 0 n = tri n := by unfold spName; rw [Nat.zero_add]; rfl
  have h1 := tri_mono hn
  have h2 : tri 16 = 136 := by decide
  have HW := Lib.hid (sp_wordsOf (tri n) (by omega))
  rw [e0] at HN
  generalize 2 * tri n = z at HW ⊢
  generalize tri n = y at HN HW
  clear h1 h2 e0
  go_enter Try.func61, Try.ntmps61
  go_wp2_with fail
  refine (HN.out _).mono ?_
  rintro e w1 ⟨rfl, rfl⟩
  go_wp2_with fail
  refine (HW.out _).mono ?_
  rintro e w1 ⟨rfl, rfl⟩
  go_wp2_with fail
  go_ret2
  exact ⟨rfl, (by first | exact Below.refl _ _ | exact (Below.refl _ _).alloc (Nat.le_refl _) _)⟩
def spObjV (n bo : Nat) : Value := .iface 146 (.agg #[.int .i64 0, .slice (some ⟨bo, 0, none⟩) n n])
def spArg (n bo : Nat) : Value := .agg #[.int .i64 0, .slice (some ⟨bo, 0, none⟩) n n]
set_option maxHeartbeats 400000 in
theorem spPlace (n : Nat) (hn : n ≤ 16) (W : World) : Calls Try.prog 60 #[.agg #[], .int .i64 (n : Int), .int .i64 0] W fun e w' => ∃ bo, e = .returned (spObjV n bo) ∧ RowBlk 4 w' bo (prVs n (fun _ => false)) ∧ W.heap.size ≤ bo ∧ Below W.heap.size W w' := by
  have hmk := run_mkB n (by omega)
  go_enter Try.func60, Try.ntmps60
  go_wp2
  go_ret
  refine ⟨W.heap.size + 1, rfl, ?_, Nat.le_succ _, ((Below.refl _ _).alloc (Nat.le_refl _) _).alloc (by simp) _⟩
  have h := RowBlk.new (W.alloc (.cells #[] 61)) (boolVs (List.replicate n false)) 4
  rw [prVs_first] at h
  have e : (W.alloc (.cells #[] 61)).heap.size = W.heap.size + 1 := by simp
  rw [e] at h
  rw [← prVs_first] at h
  rw [← prVs_first]
  exact h
set_option maxRecDepth 100000 in
theorem sp_bad9 (n bo : Nat) (x : CallV) (W : World) (hk : ¬ x.k = 0) : Calls Try.prog 71 #[spArg n bo, callAgg x] W fun en w' => en = .returned (.tuple #[.nilIface, .int .i64 9]) ∧ Below W.heap.size W w' := by
  unfold callAgg spArg
  have h1 : (x.k == 0) = false := by rw [beq_eq_false_iff_ne]; exact hk
  have h2 : (x.k != 0) = true := by rw [bne_iff_ne]; exact hk
  go_enter Try.func71, Try.ntmps71
  go_wp2
  go_ret2
  exact ⟨rfl, ((Below.refl _ _).alloc (Nat.le_refl _) _).alloc (by simp) _⟩
/-- an operation as it lies -/
def SpVs (bo th st r c nm la cl : Nat) : List Value := [.int .i64 0, .int .u64 ((th + 1 : Nat) : Int), .pointer (some ⟨bo, th, none⟩), .int .i64 (st : Int), .int .i64 (r : Int), .int .i64 (c : Int), .int .i64 (nm : Int), .int .i64 (la : Int), .int .i64 (cl : Int)]
def SpMade (n bo t : Nat) (f : Nat → Bool) (W : World) (en : Ending) (w' : World) : Prop := ∃ g, en = .returned (.tuple #[.iface 157 (.pointer (some ⟨g, 0, none⟩)), .int .i64 0]) ∧ RowBlk 160 w' g (SpVs bo t 0 0 0 0 0 0) ∧ W.heap.size ≤ g ∧ Below W.heap.size W w'
set_option maxRecDepth 100000 in
set_option maxHeartbeats 1000000 in
theorem sp_inv (n bo t : Nat) (f : Nat → Bool) (x : CallV) (W : World) (hn : n ≤ 16) (hk : x.k = 0) (ht : x.t = (t : Int)) (htn : t < n) (hp : RowBlk 4 W bo (prVs n f)) :
    (f t = true → Calls Try.prog 71 #[spArg n bo, callAgg x] W fun en w' => en = .returned (.tuple #[.nilIface, .int .i64 8]) ∧ Below W.heap.size W w') ∧
    (f t = false → Calls Try.prog 71 #[spArg n bo, callAgg x] W (SpMade n bo t f W)) := by
  obtain ⟨xt, xo, xk, xa, xb, xc⟩ := x
  simp only at hk ht
  subst hk
  subst ht
  have hw : IntKind.u64.wrap ((t : Int) + 1) = (t : Int) + 1 := by unfold IntKind.wrap; simp [IntKind.bits, IntKind.signed]; omega
  have hw2 : IntKind.u64.wrap (t : Int) = (t : Int) := by unfold IntKind.wrap; simp [IntKind.bits, IntKind.signed]; omega
  have i0 : (0 : Int) ≤ (t : Int) := by omega
  have i1 : (t : Int) < (n : Int) := by omega
  have hpl := hp.lt
  unfold callAgg spArg
  obtain ⟨W2, hW2⟩ : ∃ W2, (W.alloc (.cells #[.int .i64 0, .slice (some ⟨bo, 0, none⟩) n n] 146)).alloc (.cells #[.int .i64 (t : Int), .int .i64 xo, .int .i64 0, .int .u64 (xa : Int), .int .u64 (xb : Int), .int .u64 (xc : Int)] 43) = W2 := ⟨_, rfl⟩
  have HB : Hid (Below W.heap.size W W2) := Lib.hid (by rw [← hW2]; exact ((Below.refl _ _).alloc (Nat.le_refl _) _).alloc (by simp) _)
  have HP : Hid (RowBlk 4 W2 bo (prVs n f)) := Lib.hid (by rw [← hW2]; exact (hp.alloc _).alloc _)
  have HA : Hid (RowBlk 146 W2 W.heap.size [.int .i64 0, .slice (some ⟨bo, 0, none⟩) n n]) := Lib.hid (by rw [← hW2]; exact (RowBlk.new _ _ _).alloc _)
  have HC : Hid (RowBlk 43 W2 (W.heap.size + 1) [.int .i64 (t : Int), .int .i64 xo, .int .i64 0, .int .u64 (xa : Int), .int .u64 (xb : Int), .int .u64 (xc : Int)]) := Lib.hid (by
    rw [← hW2]
    have h := RowBlk.new (W.alloc (.cells #[.int .i64 0, .slice (some ⟨bo, 0, none⟩) n n] 146)) [.int .i64 (t : Int), .int .i64 xo, .int .i64 0, .int .u64 (xa : Int), .int .u64 (xb : Int), .int .u64 (xc : Int)] 43
    have e : (W.alloc (.cells #[.int .i64 0, .slice (some ⟨bo, 0, none⟩) n n] 146)).heap.size = W.heap.size + 1 := by simp
    rw [e] at h; exact h)
  have HZ : Hid (W2.heap.size = W.heap.size + 2) := Lib.hid (by rw [← hW2]; simp)
  have a0 := HA.out.cell (i := 0) rfl
  have a1 := HA.out.cell (i := 1) rfl
  have k0 := HC.out.cell (i := 0) rfl
  have k1 := HC.out.cell (i := 1) rfl
  have k2 := HC.out.cell (i := 2) rfl
  have p0 := HP.out.cell (prVs_get htn)
  constructor
  · intro hf
    rw [hf] at p0
    clear hf hp
    go_enter Try.func71, Try.ntmps71
    go_wp2
    go_ret2
    exact ⟨rfl, HB.out⟩
  · intro hf
    rw [hf] at p0
    clear hf hp
    go_enter Try.func71, Try.ntmps71
    go_wp2
    go_ret2
    refine ⟨W2.heap.size, rfl, RowBlk.new _ _ _, ?_, HB.out.alloc HB.out.size _⟩
    have := HZ.out; omega
set_option maxRecDepth 100000 in
set_option maxHeartbeats 2000000 in
theorem sp_arrive (g r c : Nat) (mk st0 n0 l0 c0 : Int) (pa : Addr) (w : World) (hg : RowBlk 160 w g [.int .i64 0, .int .u64 mk, .pointer (some pa), .int .i64 st0, .int .i64 (r : Int), .int .i64 (c : Int), .int .i64 n0, .int .i64 l0, .int .i64 c0]) (hrc : r + c ≤ 16) :
    Calls Try.prog 74 #[.pointer (some ⟨g, 0, none⟩)] w fun e w' => e = .returned (.tuple #[]) ∧ RowBlk 160 w' g [.int .i64 0, .int .u64 mk, .pointer (some pa), .int .i64 1, .int .i64 (r : Int), .int .i64 (c : Int), .int .i64 ((spName r c : Nat) : Int), .int .i64 (2 * ((spName r c : Nat) : Int)), .int .i64 (2 * ((spName r c : Nat) : Int) + 1)] ∧ ButS (fun b => b = g) w w' := by
  have HNM := Lib.hid (sp_nameOf r c hrc)
  have hn152 := spName_16 hrc
  have HWO := Lib.hid (sp_wordsOf (spName r c) (by omega))
  obtain ⟨nm, hnm⟩ : ∃ nm, spName r c = nm := ⟨_, rfl⟩
  rw [hnm] at HNM HWO hn152 ⊢
  have e1 : ((2 * nm : Nat) : Int) = 2 * (nm : Int) := by omega
  have e2 : IntKind.i64.wrap (2 * (nm : Int)) = 2 * (nm : Int) := by unfold IntKind.wrap; simp [IntKind.bits, IntKind.signed]; omega
  have e3 : IntKind.i64.wrap (2 * (nm : Int) + 1) = 2 * (nm : Int) + 1 := by unfold IntKind.wrap; simp [IntKind.bits, IntKind.signed]; omega
  rw [e1] at HWO
  have e4 : IntKind.i64.wrap (0 + 2 * (nm : Int)) = 2 * (nm : Int) := by rw [Int.zero_add]; exact e2
  have HG := Lib.hid hg
  clear hnm hg e1
  have g4 : w.cell? ⟨g, 4, none⟩ = some (.int .i64 (r : Int)) := HG.out.cell rfl
  have g5 : w.cell? ⟨g, 5, none⟩ = some (.int .i64 (c : Int)) := HG.out.cell rfl
  have g6 : w.cell? ⟨g, 6, none⟩ = some (.int .i64 n0) := HG.out.cell rfl
  have fz : ∀ j, w.frozen? ⟨g, j, none⟩ = false := fun j => HG.out.free
  go_enter Try.func74, Try.ntmps74
  go_wp2_with fail
  refine wp_region_tail (S := (fun w' => w'.cell? ⟨g, 4, none⟩ = some (.int .i64 (r : Int)) ∧ w'.cell? ⟨g, 5, none⟩ = some (.int .i64 (c : Int)))) 10 (by kernel_rfl) (by kernel_rfl) ?_ (fun hHeld => ?_)
  · first | with_reducible exact ⟨g4, g5⟩ | go_keep
  simp only [List.take_succ_cons, List.take_zero]
  refine wpAnyH_take (i := 0) (oi := _) (v := ?v0) rfl (by kernel_rfl) (by kernel_rfl) (by kernel_rfl) (fun _ _ _ h => h) (Or.inl ⟨by kernel_rfl, ?vy0⟩) (by assumption) ?vr0
  case vy0 => (intro w hSw; (try dsimp only at hSw); go_simp <;> with_reducible rfl)
  try simp only [Act.put, List.getElem_toArray, List.getElem_cons_zero, List.getElem_cons_succ, List.setIfInBounds_toArray, List.set_cons_zero, List.set_cons_succ]
  refine wpAnyH_take (i := 1) (oi := _) (v := ?v1) rfl (by kernel_rfl) (by kernel_rfl) (by kernel_rfl) (fun _ _ _ h => h) (Or.inl ⟨by kernel_rfl, ?vy1⟩) (by assumption) ?vr1
  case vy1 => (intro w hSw; (try dsimp only at hSw); go_simp <;> with_reducible rfl)
  try simp only [Act.put, List.getElem_toArray, List.getElem_cons_zero, List.getElem_cons_succ, List.setIfInBounds_toArray, List.set_cons_zero, List.set_cons_succ]
  refine wpAnyH_take (i := 2) (oi := _) (v := ?v2) rfl (by kernel_rfl) (by kernel_rfl) (by kernel_rfl) (fun _ _ _ h => h) (Or.inl ⟨by kernel_rfl, ?vy2⟩) (by assumption) ?vr2
  case vy2 => (intro w hSw; (try dsimp only at hSw); go_simp <;> with_reducible rfl)
  try simp only [Act.put, List.getElem_toArray, List.getElem_cons_zero, List.getElem_cons_succ, List.setIfInBounds_toArray, List.set_cons_zero, List.set_cons_succ]
  refine wpAnyH_take (i := 3) (oi := _) (v := ?v3) rfl (by kernel_rfl) (by kernel_rfl) (by kernel_rfl) (fun _ _ _ h => h) (Or.inl ⟨by kernel_rfl, ?vy3⟩) (by assumption) ?vr3
  case vy3 => (intro w hSw; (try dsimp only at hSw); go_simp <;> with_reducible rfl)
  try simp only [Act.put, List.getElem_toArray, List.getElem_cons_zero, List.getElem_cons_succ, List.setIfInBounds_toArray, List.set_cons_zero, List.set_cons_succ]
  refine wpAnyH_take (i := 4) (oi := _) (v := ?v4) rfl (by kernel_rfl) (by kernel_rfl) (by kernel_rfl) (fun _ _ _ h => h) (Or.inl ⟨by kernel_rfl, ?vy4⟩) (by assumption) ?vr4
  case vy4 => (intro w hSw; (try dsimp only at hSw); go_simp <;> with_reducible rfl)
  try simp only [Act.put, List.getElem_toArray, List.getElem_cons_zero, List.getElem_cons_succ, List.setIfInBounds_toArray, List.set_cons_zero, List.set_cons_succ]
  refine wpAnyH_take (i := 5) (oi := _) (v := ?v5) rfl (by kernel_rfl) (by kernel_rfl) (by kernel_rfl) (fun _ _ _ h => h) (Or.inl ⟨by kernel_rfl, ?vy5⟩) (by assumption) ?vr5
  case vy5 => (intro w hSw; (try dsimp only at hSw); go_simp <;> with_reducible rfl)
  try simp only [Act.put, List.getElem_toArray, List.getElem_cons_zero, List.getElem_cons_succ, List.setIfInBounds_toArray, List.set_cons_zero, List.set_cons_succ]
  refine wpAnyH_take (i := 6) (oi := _) (v := ?v6) rfl (by kernel_rfl) (by kernel_rfl) (by kernel_rfl) (fun _ _ _ h => h) (Or.inl ⟨by kernel_rfl, ?vy6⟩) (by assumption) ?vr6
  case vy6 => (intro w hSw; (try dsimp only at hSw); go_simp <;> with_reducible rfl)
  try simp only [Act.put, List.getElem_toArray, List.getElem_cons_zero, List.getElem_cons_succ, List.setIfInBounds_toArray, List.set_cons_zero, List.set_cons_succ]
  refine wpAnyH_take (i := 7) (oi := _) (v := ?v7) rfl (by kernel_rfl) (by kernel_rfl) (by kernel_rfl) (fun _ _ _ h => h) (Or.inl ⟨by kernel_rfl, ?vy7⟩) (by assumption) ?vr7
  case vy7 => (intro w hSw; (try dsimp only at hSw); go_simp <;> with_reducible rfl)
  try simp only [Act.put, List.getElem_toArray, List.getElem_cons_zero, List.getElem_cons_succ, List.setIfInBounds_toArray, List.set_cons_zero, List.set_cons_succ]
  refine wpAnyH_take (i := 8) (oi := _) (v := ?v8) rfl (by kernel_rfl) (by kernel_rfl) (by kernel_rfl) (fun _ _ _ h => h) (Or.inl ⟨by kernel_rfl, ?vy8⟩) (by assumption) ?vr8
  case vy8 => (intro w hSw; (try dsimp only at hSw); go_simp <;> with_reducible rfl)
  try simp only [Act.put, List.getElem_toArray, List.getElem_cons_zero, List.getElem_cons_succ, List.setIfInBounds_toArray, List.set_cons_zero, List.set_cons_succ]
  refine wpAnyH_ready (rs := [9]) (by kernel_rfl) (by simp) ?_
  refine AllReadyH.cons (o := _) rfl (fun K hK => ?_) AllReadyH.nil
  go_simp
  go_at_call 63
  refine (HNM.out _).mono ?_
  rintro e w4 ⟨rfl, rfl⟩
  refine hK.out _ _ ?_ (fun hHeld9 => ?_)
  · first | with_reducible exact ⟨g4, g5⟩ | go_keep
  clear hK K hHeld
  try simp only [Act.put, List.getElem_toArray, List.getElem_cons_zero, List.getElem_cons_succ, List.setIfInBounds_toArray, List.set_cons_zero, List.set_cons_succ]
  refine wpAnyH_done (by kernel_rfl) ?_ _
  dsimp only [tailQ]
  simp only [List.drop_succ_cons, List.drop_zero, List.take_succ_cons, List.take_zero, List.getElem_cons_succ, List.getElem_cons_zero, List.set_cons_zero, List.set_cons_succ]
  have HB1 : Hid (ButS (fun b => b = g) w ((w.setCell ⟨g, 6, none⟩ (.int .i64 (nm : Int))).drew)) := Lib.hid (((show ButS (fun b => b = g) w w from ButS.refl _ _).setCell (x := ⟨g, 6, none⟩) (.inl rfl) _).drew)
  have HG1 : Hid (RowBlk 160 ((w.setCell ⟨g, 6, none⟩ (.int .i64 (nm : Int))).drew) g [.int .i64 0, .int .u64 mk, .pointer (some pa), .int .i64 st0, .int .i64 (r : Int), .int .i64 (c : Int), .int .i64 (nm : Int), .int .i64 l0, .int .i64 c0]) := Lib.hid ((HG.out.put 6 _).drew)
  go_upto_region 1 with fail
  generalize (w.setCell ⟨g, 6, none⟩ (.int .i64 (nm : Int))).drew = w1 at HB1 HG1 ⊢
  clear g4 g5 g6 fz hHeld9
  have g0 : w1.cell? ⟨g, 0, none⟩ = some (.int .i64 0) := HG1.out.cell rfl
  have g6 : w1.cell? ⟨g, 6, none⟩ = some (.int .i64 (nm : Int)) := HG1.out.cell rfl
  have g7 : w1.cell? ⟨g, 7, none⟩ = some (.int .i64 l0) := HG1.out.cell rfl
  have fz : ∀ j, w1.frozen? ⟨g, j, none⟩ = false := fun j => HG1.out.free
  refine wp_region_tail (S := (fun w' => w'.cell? ⟨g, 0, none⟩ = some (.int .i64 0) ∧ w'.cell? ⟨g, 6, none⟩ = some (.int .i64 (nm : Int)))) 11 (by kernel_rfl) (by kernel_rfl) ?_ (fun hHeld => ?_)
  · first | with_reducible exact ⟨g0, g6⟩ | go_keep
  simp only [List.take_succ_cons, List.take_zero]
  refine wpAnyH_take (i := 0) (oi := _) (v := ?u0) rfl (by kernel_rfl) (by kernel_rfl) (by kernel_rfl) (fun _ _ _ h => h) (Or.inl ⟨by kernel_rfl, ?uy0⟩) (by assumption) ?ur0
  case uy0 => (intro w hSw; (try dsimp only at hSw); go_simp <;> with_reducible rfl)
  try simp only [Act.put, List.getElem_toArray, List.getElem_cons_zero, List.getElem_cons_succ, List.setIfInBounds_toArray, List.set_cons_zero, List.set_cons_succ]
  refine wpAnyH_take (i := 1) (oi := _) (v := ?u1) rfl (by kernel_rfl) (by kernel_rfl) (by kernel_rfl) (fun _ _ _ h => h) (Or.inl ⟨by kernel_rfl, ?uy1⟩) (by assumption) ?ur1
  case uy1 => (intro w hSw; (try dsimp only at hSw); go_simp <;> with_reducible rfl)
  try simp only [Act.put, List.getElem_toArray, List.getElem_cons_zero, List.getElem_cons_succ, List.setIfInBounds_toArray, List.set_cons_zero, List.set_cons_succ]
  refine wpAnyH_take (i := 2) (oi := _) (v := ?u2) rfl (by kernel_rfl) (by kernel_rfl) (by kernel_rfl) (fun _ _ _ h => h) (Or.inl ⟨by kernel_rfl, ?uy2⟩) (by assumption) ?ur2
  case uy2 => (intro w hSw; (try dsimp only at hSw); go_simp <;> with_reducible rfl)
  try simp only [Act.put, List.getElem_toArray, List.getElem_cons_zero, List.getElem_cons_succ, List.setIfInBounds_toArray, List.set_cons_zero, List.set_cons_succ]
  refine wpAnyH_take (i := 3) (oi := _) (v := ?u3) rfl (by kernel_rfl) (by kernel_rfl) (by kernel_rfl) (fun _ _ _ h => h) (Or.inl ⟨by kernel_rfl, ?uy3⟩) (by assumption) ?ur3
  case uy3 => (intro w hSw; (try dsimp only at hSw); go_simp <;> with_reducible rfl)
  try simp only [Act.put, List.getElem_toArray, List.getElem_cons_zero, List.getElem_cons_succ, List.setIfInBounds_toArray, List.set_cons_zero, List.set_cons_succ]
  refine wpAnyH_take (i := 4) (oi := _) (v := ?u4) rfl (by kernel_rfl) (by kernel_rfl) (by kernel_rfl) (fun _ _ _ h => h) (Or.inl ⟨by kernel_rfl, ?uy4⟩) (by assumption) ?ur4
  case uy4 => (intro w hSw; (try dsimp only at hSw); go_simp <;> with_reducible rfl)
  try simp only [Act.put, List.getElem_toArray, List.getElem_cons_zero, List.getElem_cons_succ, List.setIfInBounds_toArray, List.set_cons_zero, List.set_cons_succ]
  refine wpAnyH_take (i := 5) (oi := _) (v := ?u5) rfl (by kernel_rfl) (by kernel_rfl) (by kernel_rfl) (fun _ _ _ h => h) (Or.inl ⟨by kernel_rfl, ?uy5⟩) (by assumption) ?ur5
  case uy5 => (intro w hSw; (try dsimp only at hSw); go_simp <;> with_reducible rfl)
  try simp only [Act.put, List.getElem_toArray, List.getElem_cons_zero, List.getElem_cons_succ, List.setIfInBounds_toArray, List.set_cons_zero, List.set_cons_succ]
  refine wpAnyH_take (i := 6) (oi := _) (v := ?u6) rfl (by kernel_rfl) (by kernel_rfl) (by kernel_rfl) (fun _ _ _ h => h) (Or.inl ⟨by kernel_rfl, ?uy6⟩) (by assumption) ?ur6
  case uy6 => (intro w hSw; (try dsimp only at hSw); go_simp <;> with_reducible rfl)
  try simp only [Act.put, List.getElem_toArray, List.getElem_cons_zero, List.getElem_cons_succ, List.setIfInBounds_toArray, List.set_cons_zero, List.set_cons_succ]
  refine wpAnyH_take (i := 7) (oi := _) (v := ?u7) rfl (by kernel_rfl) (by kernel_rfl) (by kernel_rfl) (fun _ _ _ h => h) (Or.inl ⟨by kernel_rfl, ?uy7⟩) (by assumption) ?ur7
  case uy7 => (intro w hSw; (try dsimp only at hSw); go_simp <;> with_reducible rfl)
  try simp only [Act.put, List.getElem_toArray, List.getElem_cons_zero, List.getElem_cons_succ, List.setIfInBounds_toArray, List.set_cons_zero, List.set_cons_succ]
  refine wpAnyH_take (i := 8) (oi := _) (v := ?u8) rfl (by kernel_rfl) (by kernel_rfl) (by kernel_rfl) (fun _ _ _ h => h) (Or.inl ⟨by kernel_rfl, ?uy8⟩) (by assumption) ?ur8
  case uy8 => (intro w hSw; (try dsimp only at hSw); go_simp <;> with_reducible rfl)
  try simp only [Act.put, List.getElem_toArray, List.getElem_cons_zero, List.getElem_cons_succ, List.setIfInBounds_toArray, List.set_cons_zero, List.set_cons_succ]
  refine wpAnyH_ready (rs := [9]) (by kernel_rfl) (by simp) ?_
  refine AllReadyH.cons (o := _) rfl (fun K hK => ?_) AllReadyH.nil
  go_simp
  go_at_call 62
  refine (HWO.out _).mono ?_
  rintro e w4 ⟨rfl, rfl⟩
  refine hK.out _ _ ?_ (fun hHeld9 => ?_)
  · first | with_reducible exact ⟨g0, g6⟩ | go_keep
  clear hK K hHeld
  try simp only [Act.put, List.getElem_toArray, List.getElem_cons_zero, List.getElem_cons_succ, List.setIfInBounds_toArray, List.set_cons_zero, List.set_cons_succ]
  refine wpAnyH_take (i := 10) (oi := _) (v := ?u10) rfl (by kernel_rfl) (by kernel_rfl) (by kernel_rfl) (fun _ _ _ h => h) (Or.inl ⟨by kernel_rfl, ?uy10⟩) (by assumption) ?ur10
  case uy10 => (intro w hSw; (try dsimp only at hSw); go_simp <;> with_reducible rfl)
  try simp only [Act.put, List.getElem_toArray, List.getElem_cons_zero, List.getElem_cons_succ, List.setIfInBounds_toArray, List.set_cons_zero, List.set_cons_succ]
  refine wpAnyH_done (by kernel_rfl) ?_ _
  dsimp only [tailQ]
  simp only [List.drop_succ_cons, List.drop_zero, List.take_succ_cons, List.take_zero, List.getElem_cons_succ, List.getElem_cons_zero, List.set_cons_zero, List.set_cons_succ]
  have HB2 : Hid (ButS (fun b => b = g) w ((w1.setCell ⟨g, 7, none⟩ (.int .i64 (2 * (nm : Int)))).drew)) := Lib.hid ((HB1.out.setCell (x := ⟨g, 7, none⟩) (.inl rfl) _).drew)
  have HG2 : Hid (RowBlk 160 ((w1.setCell ⟨g, 7, none⟩ (.int .i64 (2 * (nm : Int)))).drew) g [.int .i64 0, .int .u64 mk, .pointer (some pa), .int .i64 st0, .int .i64 (r : Int), .int .i64 (c : Int), .int .i64 (nm : Int), .int .i64 (2 * (nm : Int)), .int .i64 c0]) := Lib.hid ((HG1.out.put 7 _).drew)
  go_upto_region 2 with fail
  generalize (w1.setCell ⟨g, 7, none⟩ (.int .i64 (2 * (nm : Int)))).drew = w2 at HB2 HG2 ⊢
  clear g0 g6 g7 fz hHeld9
  have g3 : w2.cell? ⟨g, 3, none⟩ = some (.int .i64 st0) := HG2.out.cell rfl
  have g7 : w2.cell? ⟨g, 7, none⟩ = some (.int .i64 (2 * (nm : Int))) := HG2.out.cell rfl
  have g8 : w2.cell? ⟨g, 8, none⟩ = some (.int .i64 c0) := HG2.out.cell rfl
  have fz : ∀ j, w2.frozen? ⟨g, j, none⟩ = false := fun j => HG2.out.free
  go_wp2_with fail
  go_end0
  exact ⟨rfl, (HG2.out.put 8 _).put 3 _, (HB2.out.setCell (x := ⟨g, 8, none⟩) (.inl rfl) _).setCell (x := ⟨g, 3, none⟩) (.inl rfl) _⟩
end Go.Proofs.Ytglpalomhhhmhaa
