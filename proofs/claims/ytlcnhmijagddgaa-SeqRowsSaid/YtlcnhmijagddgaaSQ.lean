/- SeqApplies' walk. -/
import Derived.Test.YtlcnhmijagddgaaSP
import Derived.Deep.RegionHeld3
namespace Go.Proofs.Ytlcnhmijagddgaa
open Go.ChangeShapes Go.WideShapes Go.ChangeAt Go.RowKit
set_option linter.unusedVariables false
set_option linter.unusedSimpArgs false

/-- what the law holds on to behind the program's answer -/
structure AppCtx (w w' : World) (q0 q1 : Int) (bA er vl : Nat) (v v1 : Value) (l l1 : List Nat) : Prop where
  box : w'.heap[w.heap.size]? = some (.cells #[.int .i64 q0, .int .i64 q1] 28 (0, 0))
  ans : w'.heap[bA]? = some (.cells #[.int .i64 (er : Int), .int .u64 (vl : Int), .slice none 0 0] 32 (0, 0))
  arg : ArgW w' v l
  own : ArgW w' v1 l1
  bel : Below w.heap.size w w'
section
variable {w w' : World} {q0 q1 : Int} {bA er vl : Nat} {v v1 : Value} {l l1 : List Nat}
theorem AppCtx.next {w'' : World} (h : AppCtx w w' q0 q1 bA er vl v v1 l l1) (hb : Below w'.heap.size w' w'') : AppCtx w w'' q0 q1 bA er vl v v1 l l1 :=
  ⟨(hb.block _ (blk_lt h.box)).trans h.box, (hb.block _ (blk_lt h.ans)).trans h.ans, h.arg.below hb, h.own.below hb, h.bel.trans (hb.mono (Nat.le_of_lt (blk_lt h.box)))⟩
theorem AppCtx.drewN (h : AppCtx w w' q0 q1 bA er vl v v1 l l1) (n : Nat) : AppCtx w (w'.drewN n) q0 q1 bA er vl v v1 l l1 := ⟨h.box, h.ans, h.arg, h.own, below_drewN h.bel n⟩
theorem AppCtx.drew (h : AppCtx w w' q0 q1 bA er vl v v1 l l1) : AppCtx w w'.drew q0 q1 bA er vl v v1 l l1 := ⟨h.box, h.ans, h.arg, h.own, h.bel.drew⟩
theorem AppCtx.alloc (h : AppCtx w w' q0 q1 bA er vl v v1 l l1) (o : Obj) : AppCtx w (w'.alloc o) q0 q1 bA er vl v v1 l l1 := h.next ((Below.refl _ _).alloc (Nat.le_refl _) o)
theorem AppCtx.cells (h : AppCtx w w' q0 q1 bA er vl v v1 l l1) : w'.cell? ⟨w.heap.size, 0, none⟩ = some (.int .i64 q0) ∧ w'.cell? ⟨w.heap.size, 1, none⟩ = some (.int .i64 q1) ∧ w'.cell? ⟨bA, 0, none⟩ = some (.int .i64 (er : Int)) ∧ w'.cell? ⟨bA, 1, none⟩ = some (.int .u64 (vl : Int)) ∧ w'.cell? ⟨bA, 2, none⟩ = some (.slice none 0 0) :=
  ⟨cell_of_blk h.box rfl, cell_of_blk h.box rfl, cell_of_blk h.ans rfl, cell_of_blk h.ans rfl, cell_of_blk h.ans rfl⟩
/-- behind the program's answer, when that was stored -/
theorem AppCtx.init {w1 : World} {r : List Nat × Nat × Nat} {o : Obj} (hA : ArgW w v l) (ho : o = .cells #[.int .i64 q0, .int .i64 q1] 28) (h1 : OwnW w1 (w.alloc o).heap.size v1 r.1) (hb : Below (w.alloc o).heap.size (w.alloc o) w1) :
    AppCtx w (w1.alloc (.cells #[.int .i64 (r.2.2 : Int), .int .u64 (r.2.1 : Int), .slice none 0 0] 32)) q0 q1 w1.heap.size r.2.2 r.2.1 v v1 l r.1 := by
  subst ho
  have hbx : w1.heap[w.heap.size]? = some (.cells #[.int .i64 q0, .int .i64 q1] 28 (0, 0)) := (hb.block _ (by simp)).trans (heap_alloc_new _ _)
  exact ⟨(Below.heap_alloc _ _ _ (blk_lt hbx)).trans hbx, heap_alloc_new _ _, ((hA.alloc _).below hb).alloc _, (h1.alloc _).arg, (((Below.refl _ _).alloc (Nat.le_refl _) _).trans (hb.mono (by simp))).alloc (Nat.le_of_lt (blk_lt hbx)) _⟩
end

theorem sqDo_lens (t k : Nat) (l : List Nat) (a : Nat) : (sqDo t k l a).1.length = l.length ∨ (sqDo t k l a).1.length = 1 ∧ (t = 0 ∨ t = 1 ∨ t = 4 ∨ t = 5 ∨ t = 6) ∨ (t = 2 ∨ t = 3) ∧ ((sqDo t k l a).1.length = l.length + 1 ∧ l.length < 8 ∨ (sqDo t k l a).1.length = l.length - 1) := by
  unfold sqDo
  split <;> (try split) <;> (try split) <;> first
    | exact .inl rfl
    | exact .inr (.inl ⟨rfl, by decide⟩)
    | exact .inr (.inr ⟨by decide, .inl ⟨by simp, by omega⟩⟩)
    | exact .inr (.inr ⟨by decide, .inr (by simp)⟩)
    | exact .inl (by simp)
theorem sqDo_len {t k : Nat} {l : List Nat} {a : Nat} (h : sqOk t l.length) (ht : t ≤ 7) : sqOk t (sqDo t k l a).1.length := by
  rcases sqDo_lens t k l a with h1 | ⟨h1, h2⟩ | ⟨h2, h1⟩
  · rw [h1]; exact h
  · rw [h1]
    rcases h2 with rfl | rfl | rfl | rfl | rfl <;> exact ⟨by decide, by decide⟩
  · have h3 := many_of h
    have h4 : (sqDo t k l a).1.length ≤ 8 := by omega
    rcases h2 with rfl | rfl
    · exact ⟨Nat.zero_le _, h4⟩
    · exact ⟨Nat.zero_le _, h4⟩
theorem sqRight_ok {t : Nat} {l : List Nat} (ht : t ≤ 7) : sqRight (t : Int) l = true ↔ sqOk t l.length := by
  unfold sqRight sqOk
  rw [sqIs_yes (by omega), Bool.true_and, Bool.and_eq_true, decide_eq_true_eq, decide_eq_true_eq, Int.toNat_natCast]
theorem sqRight_is {t : Int} {l : List Nat} (h : sqRight t l = true) : ∃ n : Nat, t = n ∧ n ≤ 7 ∧ sqOk n l.length := by
  have h0 : 0 ≤ t ∧ t ≤ 7 := by
    rcases Classical.em (0 ≤ t ∧ t ≤ 7) with h0 | h0
    · exact h0
    · unfold sqRight at h; rw [sqIs_no h0] at h; cases h
  obtain ⟨n, rfl⟩ : ∃ n : Nat, t = n := ⟨t.toNat, by omega⟩
  exact ⟨n, rfl, by omega, (sqRight_ok (by omega)).1 h⟩

set_option maxRecDepth 100000 in
set_option maxHeartbeats 1000000 in
theorem applies_long (q0 q1 : Int) (v : Value) (l : List Nat) (a : Nat) (w : World) (hA : ArgW w v l) (hlong : 1000 < l.length) :
    Calls Try.prog 4 #[.agg #[.int .i64 q0, .int .i64 q1], v, .int .u64 (a : Int)] w fun e w' => e = .returned (.bool true) ∧ Below w.heap.size w w' := by
  obtain ⟨ao, cap, rfl⟩ := hA.isSlice
  clear hA
  go_enter Try.func4, Try.ntmps4
  go_wp2_with (go_at_call 13; refine (known_any _).mono ?_; rintro e w8 ⟨rfl, hb⟩; (have HB8 := Lib.hid hb); clear hb)
  go_ret
  exact ⟨rfl, ((Below.refl _ _).alloc (Nat.le_refl _) _).trans (HB8.out.mono (by simp))⟩

set_option maxRecDepth 100000 in
set_option maxHeartbeats 2000000 in
theorem applies_wrong (q0 q1 : Int) (v : Value) (l : List Nat) (a : Nat) (w : World) (hA : ArgW w v l) (hl : l.length ≤ 1000) (hx : ∀ x ∈ l, x < 18446744073709551616) (ha : a < 18446744073709551616) (hw : sqRight q0 l = false) :
    Calls Try.prog 4 #[.agg #[.int .i64 q0, .int .i64 q1], v, .int .u64 (a : Int)] w fun e w' => e = .returned (.bool true) ∧ Below w.heap.size w w' := by
  obtain ⟨r, hr⟩ : ∃ r, sqAp q0 q1 l a = r := ⟨_, rfl⟩
  have HAP : Hid (∀ W, ArgW W v l → Calls Try.prog 14 #[.int .i64 q0, v, .int .i64 q1, .int .u64 (a : Int)] W (ApP W r)) := Lib.hid (fun W h => hr ▸ apply_any q0 q1 v l a W h (by omega) hx ha)
  obtain ⟨ao, cap, rfl⟩ := hA.isSlice
  have HA := Lib.hid (hA.alloc (Obj.cells #[Value.int .i64 q0, .int .i64 q1] 28))
  have HA0 := Lib.hid hA
  have HX := Lib.hid hx
  have HS := Lib.hid (fun v1 v2 W (h1 : ArgW W v1 l) (h2 : ArgW W v2 l) => sameW v1 v2 l W (by omega) h1 h2)
  have HRR := Lib.hid (fun W (h : ArgW W (.slice ao l.length cap) l) => refRight_any q0 _ l W h (by omega))
  have er : r = (l, 0, 1) := by rw [← hr]; unfold sqAp; rw [hw]; rfl
  subst er
  rw [hw] at HRR
  clear hr hw hA hx
  go_enter Try.func4, Try.ntmps4
  go_wp2_with (first
    | (go_at_call 14; refine (HAP.out _ HA.out).mono ?_; rintro e w1 ⟨v1, rfl, ho1, hb1⟩; (have HC1 : Hid (AppCtx w (w1.alloc (.cells #[.int .i64 1, .int .u64 0, .slice none 0 0] 32)) q0 q1 w1.heap.size 1 0 (.slice ao l.length cap) v1 l l) := Lib.hid (AppCtx.init HA0.out rfl ho1 hb1)); (obtain ⟨b0, b1, a0, a1, a2⟩ := HC1.out.cells); (obtain ⟨ao1, cap1, rfl⟩ := ho1.arg.isSlice); clear ho1 hb1)
    | (go_at_call 12; refine (HRR.out _ HC1.out.arg).mono ?_; rintro e w2 ⟨rfl, rfl⟩)
    | (go_at_call 8; refine (HS.out _ _ _ HC1.out.own HC1.out.arg).mono ?_; rintro e w3 ⟨rfl, m3, rfl⟩; (have HC3 := Lib.hid (HC1.out.drewN m3)))
    | (go_at_call 13; refine (known_any _).mono ?_; rintro e w8 ⟨rfl, hb⟩; (have HC8 := Lib.hid (HC3.out.next hb)); clear hb))
  go_ret
  exact ⟨rfl, HC8.out.bel⟩

set_option maxRecDepth 100000 in
set_option maxHeartbeats 2000000 in
theorem applies_neg (q0 q1 : Int) (v : Value) (l : List Nat) (a : Nat) (w : World) (hA : ArgW w v l) (hl : l.length ≤ 1000) (hx : ∀ x ∈ l, x < 18446744073709551616) (ha : a < 18446744073709551616) (hw : sqRight q0 l = true) (hk : q1 < 0) :
    Calls Try.prog 4 #[.agg #[.int .i64 q0, .int .i64 q1], v, .int .u64 (a : Int)] w fun e w' => e = .returned (.bool true) ∧ Below w.heap.size w w' := by
  obtain ⟨r, hr⟩ : ∃ r, sqAp q0 q1 l a = r := ⟨_, rfl⟩
  have HAP : Hid (∀ W, ArgW W v l → Calls Try.prog 14 #[.int .i64 q0, v, .int .i64 q1, .int .u64 (a : Int)] W (ApP W r)) := Lib.hid (fun W h => hr ▸ apply_any q0 q1 v l a W h (by omega) hx ha)
  obtain ⟨ao, cap, rfl⟩ := hA.isSlice
  have HA := Lib.hid (hA.alloc (Obj.cells #[Value.int .i64 q0, .int .i64 q1] 28))
  have HA0 := Lib.hid hA
  have HX := Lib.hid hx
  have HS := Lib.hid (fun v1 v2 W (h1 : ArgW W v1 l) (h2 : ArgW W v2 l) => sameW v1 v2 l W (by omega) h1 h2)
  have HRR := Lib.hid (fun W (h : ArgW W (.slice ao l.length cap) l) => refRight_any q0 _ l W h (by omega))
  have er : r = (l, 0, 9) := by rw [← hr]; unfold sqAp; rw [hw, if_pos rfl, if_neg (by omega)]
  subst er
  rw [hw] at HRR
  have hd : decide (q1 < 0) = true := decide_eq_true hk
  clear hr hw hA hx
  go_enter Try.func4, Try.ntmps4
  go_wp2_with (first
    | (go_at_call 14; refine (HAP.out _ HA.out).mono ?_; rintro e w1 ⟨v1, rfl, ho1, hb1⟩; (have HC1 : Hid (AppCtx w (w1.alloc (.cells #[.int .i64 9, .int .u64 0, .slice none 0 0] 32)) q0 q1 w1.heap.size 9 0 (.slice ao l.length cap) v1 l l) := Lib.hid (AppCtx.init HA0.out rfl ho1 hb1)); (obtain ⟨b0, b1, a0, a1, a2⟩ := HC1.out.cells); (obtain ⟨ao1, cap1, rfl⟩ := ho1.arg.isSlice); clear ho1 hb1)
    | (go_at_call 12; refine (HRR.out _ HC1.out.arg).mono ?_; rintro e w2 ⟨rfl, rfl⟩))
  go_quiet (fail)
  have HC2 := Lib.hid (HC1.out.drewN nq)
  generalize (World.drewN _ nq) = W2 at HC2 ⊢
  obtain ⟨b0, b1, a0, a1, a2⟩ := HC2.out.cells
  go_wp2_with (first
    | (go_at_call 8; refine (HS.out _ _ _ HC2.out.own HC2.out.arg).mono ?_; rintro e w3 ⟨rfl, m3, rfl⟩; (have HC3 := Lib.hid (HC2.out.drewN m3)))
    | (go_at_call 13; refine (known_any _).mono ?_; rintro e w8 ⟨rfl, hb⟩; (have HC8 := Lib.hid (HC3.out.next hb)); clear hb))
  go_ret
  exact ⟨rfl, HC8.out.bel⟩

set_option maxRecDepth 100000 in
set_option maxHeartbeats 2000000 in
theorem applies_many (q0 q1 : Int) (v : Value) (l : List Nat) (a : Nat) (w : World) (hA : ArgW w v l) (hl : l.length ≤ 1000) (hx : ∀ x ∈ l, x < 18446744073709551616) (ha : a < 18446744073709551616) (hw : sqRight q0 l = true) (hk : 0 ≤ q1) (hk2 : (sqKinds q0 : Int) ≤ q1) :
    Calls Try.prog 4 #[.agg #[.int .i64 q0, .int .i64 q1], v, .int .u64 (a : Int)] w fun e w' => e = .returned (.bool true) ∧ Below w.heap.size w w' := by
  obtain ⟨r, hr⟩ : ∃ r, sqAp q0 q1 l a = r := ⟨_, rfl⟩
  have HAP : Hid (∀ W, ArgW W v l → Calls Try.prog 14 #[.int .i64 q0, v, .int .i64 q1, .int .u64 (a : Int)] W (ApP W r)) := Lib.hid (fun W h => hr ▸ apply_any q0 q1 v l a W h (by omega) hx ha)
  obtain ⟨ao, cap, rfl⟩ := hA.isSlice
  have HA := Lib.hid (hA.alloc (Obj.cells #[Value.int .i64 q0, .int .i64 q1] 28))
  have HA0 := Lib.hid hA
  have HX := Lib.hid hx
  have HS := Lib.hid (fun v1 v2 W (h1 : ArgW W v1 l) (h2 : ArgW W v2 l) => sameW v1 v2 l W (by omega) h1 h2)
  have HRR := Lib.hid (fun W (h : ArgW W (.slice ao l.length cap) l) => refRight_any q0 _ l W h (by omega))
  have er : r = (l, 0, 9) := by
    obtain ⟨n, rfl, hn, hok⟩ := sqRight_is hw
    unfold sqKinds at hk2
    rw [sqIs_yes (by omega), if_pos rfl, Int.toNat_natCast] at hk2
    rw [← hr]; unfold sqAp; rw [hw, if_pos rfl, Int.toNat_natCast, if_neg (by omega)]
  subst er
  rw [hw] at HRR
  have HK := Lib.hid (fun W => refKinds_any q0 W)
  generalize sqKinds q0 = kk at *
  have hd : decide (q1 < 0) = false := decide_eq_false (by omega)
  have hd2 : decide ((kk : Int) ≤ q1) = true := decide_eq_true hk2
  clear hr hw hA hx
  go_enter Try.func4, Try.ntmps4
  go_wp2_with (first
    | (go_at_call 14; refine (HAP.out _ HA.out).mono ?_; rintro e w1 ⟨v1, rfl, ho1, hb1⟩; (have HC1 : Hid (AppCtx w (w1.alloc (.cells #[.int .i64 9, .int .u64 0, .slice none 0 0] 32)) q0 q1 w1.heap.size 9 0 (.slice ao l.length cap) v1 l l) := Lib.hid (AppCtx.init HA0.out rfl ho1 hb1)); (obtain ⟨b0, b1, a0, a1, a2⟩ := HC1.out.cells); (obtain ⟨ao1, cap1, rfl⟩ := ho1.arg.isSlice); clear ho1 hb1)
    | (go_at_call 12; refine (HRR.out _ HC1.out.arg).mono ?_; rintro e w2 ⟨rfl, rfl⟩))
  go_region_held3 (fun w' => w'.cell? ⟨w.heap.size, 0, none⟩ = some (.int .i64 q0) ∧ w'.cell? ⟨w.heap.size, 1, none⟩ = some (.int .i64 q1))
    (first | exact ⟨b0, b1⟩ | go_keep)
    (first
      | (go_at_call 7; refine (HK.out _).mono ?_; rintro e w2 ⟨rfl, hb⟩; (have HC2 := Lib.hid (HC1.out.drew.next hb)); (obtain ⟨b0, b1, a0, a1, a2⟩ := HC2.out.cells); clear hb)
      | fail)
  go_wp2_with (first
    | (go_at_call 8; refine (HS.out _ _ _ HC2.out.own HC2.out.arg).mono ?_; rintro e w3 ⟨rfl, m3, rfl⟩; (have HC3 := Lib.hid (HC2.out.drewN m3)))
    | (go_at_call 13; refine (known_any _).mono ?_; rintro e w8 ⟨rfl, hb⟩; (have HC8 := Lib.hid (HC3.out.next hb)); clear hb))
  go_ret
  exact ⟨rfl, HC8.out.bel⟩

set_option maxRecDepth 100000 in
set_option maxHeartbeats 2000000 in
theorem applies_done (q0 q1 : Int) (v : Value) (l : List Nat) (a : Nat) (w : World) (hA : ArgW w v l) (hl : l.length ≤ 1000) (hx : ∀ x ∈ l, x < 18446744073709551616) (ha : a < 18446744073709551616) (hw : sqRight q0 l = true) (hk : 0 ≤ q1) (hk2 : q1 < (sqKinds q0 : Int)) :
    Calls Try.prog 4 #[.agg #[.int .i64 q0, .int .i64 q1], v, .int .u64 (a : Int)] w fun e w' => e = .returned (.bool true) ∧ Below w.heap.size w w' := by
  obtain ⟨r, hr⟩ : ∃ r, sqAp q0 q1 l a = r := ⟨_, rfl⟩
  have HAP : Hid (∀ W, ArgW W v l → Calls Try.prog 14 #[.int .i64 q0, v, .int .i64 q1, .int .u64 (a : Int)] W (ApP W r)) := Lib.hid (fun W h => hr ▸ apply_any q0 q1 v l a W h (by omega) hx ha)
  obtain ⟨ao, cap, rfl⟩ := hA.isSlice
  have HA := Lib.hid (hA.alloc (Obj.cells #[Value.int .i64 q0, .int .i64 q1] 28))
  have HA0 := Lib.hid hA
  have HX := Lib.hid hx
  have HS := Lib.hid (fun v1 v2 W (h1 : ArgW W v1 l) (h2 : ArgW W v2 l) => sameW v1 v2 l W (by omega) h1 h2)
  have HRR := Lib.hid (fun W (h : ArgW W (.slice ao l.length cap) l) => refRight_any q0 _ l W h (by omega))
  obtain ⟨n, hn0, hn, hok⟩ := sqRight_is hw
  obtain ⟨k, rfl⟩ : ∃ k : Nat, q1 = k := ⟨q1.toNat, by omega⟩
  have hkn : k < sqN n := by
    subst hn0
    unfold sqKinds at hk2
    rw [sqIs_yes (by omega), if_pos rfl, Int.toNat_natCast] at hk2
    omega
  have er : r = sqDo n k l a := by
    subst hn0
    rw [← hr]; unfold sqAp; rw [hw, if_pos rfl, Int.toNat_natCast, Int.toNat_natCast, if_pos (by omega)]
  have HD : Hid (∀ W, ArgW W (.slice ao l.length cap) l → Calls Try.prog 15 #[.int .i64 q0, .slice ao l.length cap, .int .i64 (k : Int), .int .u64 (a : Int)] W (DnP W.heap.size W r)) := Lib.hid (fun W h => by
    rw [er, hn0]; exact refApply_any n k hn hkn l hok _ a W h hx ha)
  have hl1 : r.1.length ≤ 1000 := by
    rw [er]; have := many_of (sqDo_len (k := k) (a := a) hok hn); omega
  have HOK : Hid (sqRight q0 r.1 = true) := Lib.hid (by rw [er, hn0]; exact (sqRight_ok hn).2 (sqDo_len hok hn))
  obtain ⟨l1, vl, ee, rfl⟩ : ∃ l1 vl ee, r = (l1, vl, ee) := ⟨r.1, r.2.1, r.2.2, rfl⟩
  dsimp only at hl1 HOK
  have HS1 := Lib.hid (fun v1 v2 W (h1 : ArgW W v1 l1) (h2 : ArgW W v2 l1) => sameW v1 v2 l1 W (by omega) h1 h2)
  have HR1 := Lib.hid (fun v1 W (h1 : ArgW W v1 l1) => seqRight_any q0 v1 l1 W h1 (by omega))
  rw [HOK.out] at HR1
  rw [hw] at HRR
  have HK := Lib.hid (fun W => refKinds_any q0 W)
  generalize sqKinds q0 = kk at *
  have hd : decide ((k : Int) < 0) = false := decide_eq_false (by omega)
  have hd2 : decide ((kk : Int) ≤ (k : Int)) = false := decide_eq_false (by omega)
  clear hr hw hA hx er hn0 hkn hok HOK
  go_enter Try.func4, Try.ntmps4
  go_wp2_with (first
    | (go_at_call 14; refine (HAP.out _ HA.out).mono ?_; rintro e w1 ⟨v1, rfl, ho1, hb1⟩; (have HC1 : Hid (AppCtx w (w1.alloc (.cells #[.int .i64 (ee : Int), .int .u64 (vl : Int), .slice none 0 0] 32)) q0 (k : Int) w1.heap.size ee vl (.slice ao l.length cap) v1 l l1) := Lib.hid (AppCtx.init HA0.out rfl ho1 hb1)); (obtain ⟨b0, b1, a0, a1, a2⟩ := HC1.out.cells); (obtain ⟨ao1, cap1, rfl⟩ := ho1.arg.isSlice); clear ho1 hb1)
    | (go_at_call 12; refine (HRR.out _ HC1.out.arg).mono ?_; rintro e w2 ⟨rfl, rfl⟩))
  go_region_held3 (fun w' => w'.cell? ⟨w.heap.size, 0, none⟩ = some (.int .i64 q0) ∧ w'.cell? ⟨w.heap.size, 1, none⟩ = some (.int .i64 (k : Int)))
    (first | exact ⟨b0, b1⟩ | go_keep)
    (first
      | (go_at_call 7; refine (HK.out _).mono ?_; rintro e w2 ⟨rfl, hb⟩; (have HC2 := Lib.hid (HC1.out.drew.next hb)); (obtain ⟨b0, b1, a0, a1, a2⟩ := HC2.out.cells); clear hb)
      | fail)
  go_wp2_with (first
    | (go_at_call 15; refine (HD.out _ HC2.out.arg).mono ?_; rintro e w5 ⟨v5, rfl, ha5, hb⟩; (obtain ⟨ao5, cap5, rfl⟩ := ha5.arg.isSlice); dsimp only at ha5 ⊢; (have HC5 : Hid (AppCtx w (w5.alloc (.cells #[.slice ao5 l1.length cap5, .int .i64 (ee : Int), .int .u64 (vl : Int)] 36)) q0 (k : Int) w1.heap.size ee vl (.slice ao l.length cap) (.slice ao1 l1.length cap1) l l1) := Lib.hid ((HC2.out.next hb).alloc _)); (have HA5 : Hid (ArgW (w5.alloc (.cells #[.slice ao5 l1.length cap5, .int .i64 (ee : Int), .int .u64 (vl : Int)] 36)) (.slice ao5 l1.length cap5) l1) := Lib.hid (ha5.arg.alloc _)); (obtain ⟨b0, b1, a0, a1, a2⟩ := HC5.out.cells); clear hb ha5)
    | (go_at_call 8; refine (HS1.out _ _ _ HC5.out.own HA5.out).mono ?_; rintro e w6 ⟨rfl, m6, rfl⟩; (have HC6 := Lib.hid (HC5.out.drewN m6)); (obtain ⟨b0, b1, a0, a1, a2⟩ := HC6.out.cells))
    | (go_at_call 11; refine (HR1.out _ _ HC6.out.own).mono ?_; rintro e w7 ⟨rfl, hb⟩; (have HC7 := Lib.hid (HC6.out.next hb)); clear hb)
    | (go_at_call 13; refine (known_any _).mono ?_; rintro e w8 ⟨rfl, hb⟩; (have HC8 := Lib.hid (HC7.out.next hb)); clear hb))
  go_ret
  exact ⟨ret_bool (by simp), HC8.out.bel⟩

theorem applies_all (q0 q1 : Int) (v : Value) (l : List Nat) (a : Nat) (w : World) (hA : ArgW w v l) (hx : ∀ x ∈ l, x < 18446744073709551616) (ha : a < 18446744073709551616) :
    Calls Try.prog 4 #[.agg #[.int .i64 q0, .int .i64 q1], v, .int .u64 (a : Int)] w fun e w' => e = .returned (.bool true) ∧ Below w.heap.size w w' := by
  by_cases hlong : 1000 < l.length
  · exact applies_long q0 q1 v l a w hA hlong
  · have hl : l.length ≤ 1000 := by omega
    cases hw : sqRight q0 l with
    | false => exact applies_wrong q0 q1 v l a w hA hl hx ha hw
    | true =>
      by_cases hk : q1 < 0
      · exact applies_neg q0 q1 v l a w hA hl hx ha hw hk
      · by_cases hk2 : (sqKinds q0 : Int) ≤ q1
        · exact applies_many q0 q1 v l a w hA hl hx ha hw (by omega) hk2
        · exact applies_done q0 q1 v l a w hA hl hx ha hw (by omega) (by omega)
end Go.Proofs.Ytlcnhmijagddgaa
