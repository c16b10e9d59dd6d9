/- Walks of linked words: value, successor, yes, refuse, Invoke. | Walks of linked words: Invoke. -/
import Derived.Test.YtjbbcflifoakhaaGYA
import Derived.Test.YtjbbcflifoakhaaY1
import Derived.Deep.QuietTactic
import Derived.BigQuiet
namespace Go.Proofs.Ytjbbcflifoakhaa
section
open Go.ChangeShapes Go.WideShapes Go.ChangeAt Go.RowKit
set_option linter.unusedVariables false
set_option linter.unusedSimpArgs false
theorem ll_value (x : Nat) (w : World) : Calls Try.prog 65 #[.int .u64 (x : Int)] w fun e w' => e = .returned (.int .u64 ((x % 4294967296 : Nat) : Int)) ∧ w = w' := by
  go_enter Try.func65, Try.ntmps65
  go_wp2
  go_ret
  exact ⟨ret_int (by omega), rfl⟩
theorem ll_successor (x v : Nat) (hx : x < 18446744073709551616) (w : World) : Calls Try.prog 69 #[.int .u64 (x : Int), .int .u64 (v : Int)] w fun e w' => e = .returned (.int .u64 ((llSucc x v : Nat) : Int)) ∧ w = w' := by
  unfold llSucc
  go_enter Try.func69, Try.ntmps69
  go_wp2
  go_ret
  exact ⟨ret_int (by unfold IntKind.wrap; simp [IntKind.bits, IntKind.signed]), rfl⟩
def yesN (b : Bool) : Nat := if b then 1 else 0
theorem ll_yes (b : Bool) (w : World) : Calls Try.prog 68 #[.bool b] w fun e w' => e = .returned (.agg #[.int .i64 0, .int .u64 ((yesN b : Nat) : Int), .slice none 0 0]) ∧ Below w.heap.size w w' := by
  cases b with
  | true =>
    go_enter Try.func68, Try.ntmps68
    go_wp2
    exact bodyPost_ret (v := .agg #[.int .i64 0, .int .u64 1, .slice none 0 0]) (by simp [results, Try.results68, go_sem]) rfl ⟨rfl, (Below.refl _ _).alloc (Nat.le_refl _) _⟩
  | false =>
    go_enter Try.func68, Try.ntmps68
    go_wp2
    exact bodyPost_ret (v := .agg #[.int .i64 0, .int .u64 0, .slice none 0 0]) (by simp [results, Try.results68, go_sem]) rfl ⟨rfl, (Below.refl _ _).alloc (Nat.le_refl _) _⟩
/-- the maps of the threads' links, as they lie -/
structure OwnAt (w : World) (bo n : Nat) (mp : Nat → Nat) : Prop where
  maps : ∀ p, p < n → w.cell? ⟨bo, p, none⟩ = some (.map (some (mp p)))
def LlRef (er : Int) (w : World) (e : Ending) (w' : World) : Prop := e = .returned (.int .i64 er) ∧ Below w.heap.size w w'
set_option maxRecDepth 100000 in
set_option maxHeartbeats 1000000 in
theorem ll_ref9 (k bo n cap : Nat) (x : CallV) (w : World) (h : x.k < 0 ∨ 2 < x.k) : Calls Try.prog 64 #[.agg #[.int .i64 (k : Int), .int .i64 0, .slice (some ⟨bo, 0, none⟩) n cap], callAgg x] w (LlRef 9 w) := by
  unfold callAgg
  by_cases h0 : x.k < 0
  · go_enter Try.func64, Try.ntmps64
    go_wp2
    go_ret
    exact ⟨rfl, ((Below.refl _ _).alloc (Nat.le_refl _) _).alloc (by simp) _⟩
  · have h1 : 2 < x.k := by omega
    clear h
    go_enter Try.func64, Try.ntmps64
    go_wp2
    go_ret
    exact ⟨rfl, ((Below.refl _ _).alloc (Nat.le_refl _) _).alloc (by simp) _⟩
set_option maxRecDepth 100000 in
set_option maxHeartbeats 1000000 in
theorem ll_ref10a (k bo n cap : Nat) (x : CallV) (w : World) (h0 : ¬ x.k < 0) (h1 : ¬ 2 < x.k) (hk : k ≤ 64) (ha : k ≤ x.a) : Calls Try.prog 64 #[.agg #[.int .i64 (k : Int), .int .i64 0, .slice (some ⟨bo, 0, none⟩) n cap], callAgg x] w (LlRef 10 w) := by
  unfold callAgg
  have h2 : (k : Int) ≤ (x.a : Int) := by omega
  have hw : IntKind.u64.wrap (k : Int) = (k : Int) := by unfold IntKind.wrap; simp [IntKind.bits, IntKind.signed]; omega
  go_enter Try.func64, Try.ntmps64
  go_wp2
  go_ret
  exact ⟨rfl, ((Below.refl _ _).alloc (Nat.le_refl _) _).alloc (by simp) _⟩
set_option maxRecDepth 100000 in
set_option maxHeartbeats 1000000 in
theorem ll_ref10b (k bo n cap : Nat) (x : CallV) (w : World) (h1 : x.k = 1) (hk : k ≤ 64) (ha : x.a < k) (hb : 4294967296 ≤ x.b) : Calls Try.prog 64 #[.agg #[.int .i64 (k : Int), .int .i64 0, .slice (some ⟨bo, 0, none⟩) n cap], callAgg x] w (LlRef 10 w) := by
  unfold callAgg
  have h3 : ¬ x.k < 0 := by omega
  have h4 : ¬ 2 < x.k := by omega
  have hd1 : decide (x.k = 1) = true := decide_eq_true h1
  have he1 : (x.k == 1) = true := by rw [beq_iff_eq]; exact h1
  have h2 : ¬ (k : Int) ≤ (x.a : Int) := by omega
  have hw : IntKind.u64.wrap (k : Int) = (k : Int) := by unfold IntKind.wrap; simp [IntKind.bits, IntKind.signed]; omega
  obtain ⟨y, hy⟩ : ∃ y, x.b % 4294967296 = y := ⟨_, rfl⟩
  have hyb : ¬ (y : Int) = (x.b : Int) := by omega
  have hd2 : decide ((y : Int) = (x.b : Int)) = false := decide_eq_false hyb
  have he2 : ((y : Int) == (x.b : Int)) = false := by rw [beq_eq_false_iff_ne]; exact hyb
  have HV : Hid (∀ W : World, Calls Try.prog 65 #[.int .u64 (x.b : Int)] W fun e w' => e = .returned (.int .u64 (y : Int)) ∧ W = w') := Lib.hid (fun W => by rw [← hy]; exact ll_value x.b W)
  clear hy hb h1
  have HW : Hid (Below w.heap.size w ((w.alloc (.cells #[.int .i64 (k : Int), .int .i64 0, .slice (some ⟨bo, 0, none⟩) n cap] 147)).alloc (.cells #[.int .i64 x.t, .int .i64 x.o, .int .i64 x.k, .int .u64 (x.a : Int), .int .u64 (x.b : Int), .int .u64 (x.c : Int)] 43))) := Lib.hid (((Below.refl _ _).alloc (Nat.le_refl _) _).alloc (by simp) _)
  go_enter Try.func64, Try.ntmps64
  go_wp2
  have hbA : RowBlk 147 ((w.alloc (.cells #[.int .i64 (k : Int), .int .i64 0, .slice (some ⟨bo, 0, none⟩) n cap] 147)).alloc (.cells #[.int .i64 x.t, .int .i64 x.o, .int .i64 x.k, .int .u64 (x.a : Int), .int .u64 (x.b : Int), .int .u64 (x.c : Int)] 43)) w.heap.size [.int .i64 (k : Int), .int .i64 0, .slice (some ⟨bo, 0, none⟩) n cap] := (RowBlk.new _ _ _).alloc _
  have hbB : RowBlk 43 ((w.alloc (.cells #[.int .i64 (k : Int), .int .i64 0, .slice (some ⟨bo, 0, none⟩) n cap] 147)).alloc (.cells #[.int .i64 x.t, .int .i64 x.o, .int .i64 x.k, .int .u64 (x.a : Int), .int .u64 (x.b : Int), .int .u64 (x.c : Int)] 43)) (w.heap.size + 1) [.int .i64 x.t, .int .i64 x.o, .int .i64 x.k, .int .u64 (x.a : Int), .int .u64 (x.b : Int), .int .u64 (x.c : Int)] := by
    have h := RowBlk.new (w.alloc (.cells #[.int .i64 (k : Int), .int .i64 0, .slice (some ⟨bo, 0, none⟩) n cap] 147)) [.int .i64 x.t, .int .i64 x.o, .int .i64 x.k, .int .u64 (x.a : Int), .int .u64 (x.b : Int), .int .u64 (x.c : Int)] 43
    have e : (w.alloc (.cells #[.int .i64 (k : Int), .int .i64 0, .slice (some ⟨bo, 0, none⟩) n cap] 147)).heap.size = w.heap.size + 1 := by simp
    rw [e] at h; exact h
  generalize ((w.alloc (.cells #[.int .i64 (k : Int), .int .i64 0, .slice (some ⟨bo, 0, none⟩) n cap] 147)).alloc (.cells #[.int .i64 x.t, .int .i64 x.o, .int .i64 x.k, .int .u64 (x.a : Int), .int .u64 (x.b : Int), .int .u64 (x.c : Int)] 43)) = W at hbA hbB HW ⊢
  have b0 := hbA.cell (i := 0) rfl
  have b1 := hbA.cell (i := 1) rfl
  have b2 := hbA.cell (i := 2) rfl
  have a0 := hbB.cell (i := 0) rfl
  have a1 := hbB.cell (i := 1) rfl
  have a2 := hbB.cell (i := 2) rfl
  have a3 := hbB.cell (i := 3) rfl
  have a4 := hbB.cell (i := 4) rfl
  have a5 := hbB.cell (i := 5) rfl
  clear hbA hbB
  go_quiet ((go_at_call 65; exact call_keeps ⟨_, rfl⟩ (HV.out _)))
  go_wp2
  go_ret
  exact ⟨rfl, below_drewN HW.out _⟩
set_option maxRecDepth 100000 in
set_option maxHeartbeats 1000000 in
theorem ll_ref0 (k bo n cap : Nat) (x : CallV) (w : World) (h1 : x.k = 0) (hk : k ≤ 64) (ha : x.a < k) : Calls Try.prog 64 #[.agg #[.int .i64 (k : Int), .int .i64 0, .slice (some ⟨bo, 0, none⟩) n cap], callAgg x] w (LlRef 0 w) := by
  unfold callAgg
  have h3 : ¬ x.k < 0 := by omega
  have h4 : ¬ 2 < x.k := by omega
  have hd1 : decide (x.k = 1) = false := decide_eq_false (by omega)
  have he1 : (x.k == 1) = false := by rw [beq_eq_false_iff_ne]; omega
  have hd0 : decide (x.k = 0) = true := decide_eq_true h1
  have hn0 : (x.k != 0) = false := by rw [h1]; rfl
  have he0 : (x.k == 0) = true := by rw [beq_iff_eq]; exact h1
  have h2 : ¬ (k : Int) ≤ (x.a : Int) := by omega
  have hw : IntKind.u64.wrap (k : Int) = (k : Int) := by unfold IntKind.wrap; simp [IntKind.bits, IntKind.signed]; omega
  clear h1
  have HW : Hid (Below w.heap.size w ((w.alloc (.cells #[.int .i64 (k : Int), .int .i64 0, .slice (some ⟨bo, 0, none⟩) n cap] 147)).alloc (.cells #[.int .i64 x.t, .int .i64 x.o, .int .i64 x.k, .int .u64 (x.a : Int), .int .u64 (x.b : Int), .int .u64 (x.c : Int)] 43))) := Lib.hid (((Below.refl _ _).alloc (Nat.le_refl _) _).alloc (by simp) _)
  go_enter Try.func64, Try.ntmps64
  go_wp2
  have hbA : RowBlk 147 ((w.alloc (.cells #[.int .i64 (k : Int), .int .i64 0, .slice (some ⟨bo, 0, none⟩) n cap] 147)).alloc (.cells #[.int .i64 x.t, .int .i64 x.o, .int .i64 x.k, .int .u64 (x.a : Int), .int .u64 (x.b : Int), .int .u64 (x.c : Int)] 43)) w.heap.size [.int .i64 (k : Int), .int .i64 0, .slice (some ⟨bo, 0, none⟩) n cap] := (RowBlk.new _ _ _).alloc _
  have hbB : RowBlk 43 ((w.alloc (.cells #[.int .i64 (k : Int), .int .i64 0, .slice (some ⟨bo, 0, none⟩) n cap] 147)).alloc (.cells #[.int .i64 x.t, .int .i64 x.o, .int .i64 x.k, .int .u64 (x.a : Int), .int .u64 (x.b : Int), .int .u64 (x.c : Int)] 43)) (w.heap.size + 1) [.int .i64 x.t, .int .i64 x.o, .int .i64 x.k, .int .u64 (x.a : Int), .int .u64 (x.b : Int), .int .u64 (x.c : Int)] := by
    have h := RowBlk.new (w.alloc (.cells #[.int .i64 (k : Int), .int .i64 0, .slice (some ⟨bo, 0, none⟩) n cap] 147)) [.int .i64 x.t, .int .i64 x.o, .int .i64 x.k, .int .u64 (x.a : Int), .int .u64 (x.b : Int), .int .u64 (x.c : Int)] 43
    have e : (w.alloc (.cells #[.int .i64 (k : Int), .int .i64 0, .slice (some ⟨bo, 0, none⟩) n cap] 147)).heap.size = w.heap.size + 1 := by simp
    rw [e] at h; exact h
  generalize ((w.alloc (.cells #[.int .i64 (k : Int), .int .i64 0, .slice (some ⟨bo, 0, none⟩) n cap] 147)).alloc (.cells #[.int .i64 x.t, .int .i64 x.o, .int .i64 x.k, .int .u64 (x.a : Int), .int .u64 (x.b : Int), .int .u64 (x.c : Int)] 43)) = W at hbA hbB HW ⊢
  have b0 := hbA.cell (i := 0) rfl
  have b1 := hbA.cell (i := 1) rfl
  have b2 := hbA.cell (i := 2) rfl
  have a0 := hbB.cell (i := 0) rfl
  have a1 := hbB.cell (i := 1) rfl
  have a2 := hbB.cell (i := 2) rfl
  have a3 := hbB.cell (i := 3) rfl
  have a4 := hbB.cell (i := 4) rfl
  have a5 := hbB.cell (i := 5) rfl
  clear hbA hbB
  go_quiet (fail)
  go_wp2
  go_quiet (fail)
  go_wp2
  go_ret
  exact ⟨rfl, below_drewN (below_drewN HW.out _) _⟩
/-- what decides in the end: a link, or none -/
structure RefIn (w : World) (k bo n m : Nat) (x : CallV) (v : Value) : Prop where
  lo : 0 ≤ x.t
  hi : x.t < n
  cell : w.cell? ⟨bo, x.t.toNat, none⟩ = some (.map (some m))
  look : ∃ N f, MapJs Try.prog 3 w m N (.pointer none) f ∧ f (x.a : Int) = v
theorem zeroLk (w : World) : (zeroValue 160).run Try.prog w = .ok (.pointer none) w := by kernel_rfl
set_option maxRecDepth 100000 in
set_option maxHeartbeats 2000000 in
theorem ll_ref8 (k bo n cap m : Nat) (x : CallV) (er : Int) (v : Value) (b : Bool) (w : World) (h0 : 0 ≤ x.k) (h1 : x.k ≤ 2) (hk : k ≤ 64) (ha : x.a < k) (hb : x.k = 1 → x.b < 4294967296) (hR : RefIn w k bo n m x v) (hvb : (v = .pointer none ∧ b = true) ∨ (∃ g, v = .pointer (some ⟨g, 0, none⟩) ∧ b = false)) (hk0 : x.k ≠ 0) (her : er = if b then 8 else 0) :
    Calls Try.prog 64 #[.agg #[.int .i64 (k : Int), .int .i64 0, .slice (some ⟨bo, 0, none⟩) n cap], callAgg x] w (LlRef er w) := by
  have h2 : ¬ (k : Int) ≤ (x.a : Int) := by omega
  have hw : IntKind.u64.wrap (k : Int) = (k : Int) := by unfold IntKind.wrap; simp [IntKind.bits, IntKind.signed]; omega
  have hwa : IntKind.i64.wrap (x.a : Int) = (x.a : Int) := by unfold IntKind.wrap; simp [IntKind.bits, IntKind.signed]; omega
  obtain ⟨hlo, hhi, hcell, N, f, hM, hf⟩ := hR
  have hn : x.t = ((x.t.toNat : Nat) : Int) := by omega
  obtain ⟨p, hp⟩ : ∃ p, x.t.toNat = p := ⟨_, rfl⟩
  rw [hp] at hcell hn
  have hpn : (p : Int) < (n : Int) := by omega
  have hbw := World.block_lt_of_cell? w ⟨bo, p, none⟩ hcell
  obtain ⟨xt, xo, xk, xa, xb, xc⟩ := x
  simp only at h0 h1 ha hb hk0 h2 hwa hlo hhi hn hf
  subst hn
  have h3 : ¬ xk < 0 := by omega
  have h4 : ¬ 2 < xk := by omega
  have hcl : ((w.alloc (.cells #[.int .i64 (k : Int), .int .i64 0, .slice (some ⟨bo, 0, none⟩) n cap] 147)).alloc (.cells #[.int .i64 (p : Int), .int .i64 xo, .int .i64 xk, .int .u64 (xa : Int), .int .u64 (xb : Int), .int .u64 (xc : Int)] 43)).cell? ⟨bo, p, none⟩ = some (.map (some m)) := by
    rw [World.cell?_alloc_past _ _ _ (by have h : bo < w.heap.size := hbw; show bo < _; simp; omega), World.cell?_alloc_past _ _ _ hbw]; exact hcell
  have hlk : ∀ j, (Instr.lookup 149 (.map (some m)) (.int .i64 (xa : Int)) false).run Try.prog (((w.alloc (.cells #[.int .i64 (k : Int), .int .i64 0, .slice (some ⟨bo, 0, none⟩) n cap] 147)).alloc (.cells #[.int .i64 (p : Int), .int .i64 xo, .int .i64 xk, .int .u64 (xa : Int), .int .u64 (xb : Int), .int .u64 (xc : Int)] 43)).drewN j) = .ok v (((w.alloc (.cells #[.int .i64 (k : Int), .int .i64 0, .slice (some ⟨bo, 0, none⟩) n cap] 147)).alloc (.cells #[.int .i64 (p : Int), .int .i64 xo, .int .i64 xk, .int .u64 (xa : Int), .int .u64 (xb : Int), .int .u64 (xc : Int)] 43)).drewN j) := fun j => by
    rw [← hf]
    exact (((hM.alloc _).alloc _).drewN j).look (t := 149) (e := 160) Try.underlying3 Try.underlying149 (zeroLk _) (WalkArith.wf_i64 (by omega))
  have HV : Hid (∀ W : World, xk = 1 → Calls Try.prog 65 #[.int .u64 (xb : Int)] W fun e w' => e = .returned (.int .u64 (xb : Int)) ∧ W = w') := Lib.hid (fun W hk1 => by have := ll_value xb W; rw [Nat.mod_eq_of_lt (hb hk1)] at this; exact this)
  have HER := Lib.hid her
  have HW : Hid (Below w.heap.size w (((w.alloc (.cells #[.int .i64 (k : Int), .int .i64 0, .slice (some ⟨bo, 0, none⟩) n cap] 147)).alloc (.cells #[.int .i64 (p : Int), .int .i64 xo, .int .i64 xk, .int .u64 (xa : Int), .int .u64 (xb : Int), .int .u64 (xc : Int)] 43)))) := Lib.hid (((Below.refl _ _).alloc (Nat.le_refl _) _).alloc (by simp) _)
  clear hM hf hb her hlo hhi
  have hp0 : (0 : Int) ≤ (p : Int) := by omega
  unfold callAgg
  have hd0 : decide (xk = 0) = false := decide_eq_false hk0
  have hdb : decide ((xb : Int) = (xb : Int)) = true := decide_eq_true rfl
  have heb : ((xb : Int) == (xb : Int)) = true := by rw [beq_iff_eq]
  have he0 : (xk == 0) = false := by rw [beq_eq_false_iff_ne]; exact hk0
  have hn0 : (xk != 0) = true := by rw [bne_iff_ne]; exact hk0
  rcases (show xk = 1 ∨ xk = 2 by omega) with hk1 | hk2
  · have hd1 : decide (xk = 1) = true := decide_eq_true hk1
    have he1 : (xk == 1) = true := by rw [beq_iff_eq]; exact hk1
    have HV := Lib.hid (fun W => HV.out W hk1)
    clear hk1
    rcases hvb with ⟨rfl, rfl⟩ | ⟨g, rfl, rfl⟩
    · obtain rfl : er = 8 := HER.out
      go_enter Try.func64, Try.ntmps64
      go_wp2
      have hbA : RowBlk 147 ((w.alloc (.cells #[.int .i64 (k : Int), .int .i64 0, .slice (some ⟨bo, 0, none⟩) n cap] 147)).alloc (.cells #[.int .i64 (p : Int), .int .i64 xo, .int .i64 xk, .int .u64 (xa : Int), .int .u64 (xb : Int), .int .u64 (xc : Int)] 43)) w.heap.size [.int .i64 (k : Int), .int .i64 0, .slice (some ⟨bo, 0, none⟩) n cap] := (RowBlk.new _ _ _).alloc _
      have hbB : RowBlk 43 ((w.alloc (.cells #[.int .i64 (k : Int), .int .i64 0, .slice (some ⟨bo, 0, none⟩) n cap] 147)).alloc (.cells #[.int .i64 (p : Int), .int .i64 xo, .int .i64 xk, .int .u64 (xa : Int), .int .u64 (xb : Int), .int .u64 (xc : Int)] 43)) (w.heap.size + 1) [.int .i64 (p : Int), .int .i64 xo, .int .i64 xk, .int .u64 (xa : Int), .int .u64 (xb : Int), .int .u64 (xc : Int)] := by
        have h := RowBlk.new (w.alloc (.cells #[.int .i64 (k : Int), .int .i64 0, .slice (some ⟨bo, 0, none⟩) n cap] 147)) [.int .i64 (p : Int), .int .i64 xo, .int .i64 xk, .int .u64 (xa : Int), .int .u64 (xb : Int), .int .u64 (xc : Int)] 43
        have e : (w.alloc (.cells #[.int .i64 (k : Int), .int .i64 0, .slice (some ⟨bo, 0, none⟩) n cap] 147)).heap.size = w.heap.size + 1 := by simp
        rw [e] at h; exact h
      generalize ((w.alloc (.cells #[.int .i64 (k : Int), .int .i64 0, .slice (some ⟨bo, 0, none⟩) n cap] 147)).alloc (.cells #[.int .i64 (p : Int), .int .i64 xo, .int .i64 xk, .int .u64 (xa : Int), .int .u64 (xb : Int), .int .u64 (xc : Int)] 43)) = W at hbA hbB HW hcl hlk ⊢
      have b0 := hbA.cell (i := 0) rfl
      have b1 := hbA.cell (i := 1) rfl
      have b2 := hbA.cell (i := 2) rfl
      have a0 := hbB.cell (i := 0) rfl
      have a1 := hbB.cell (i := 1) rfl
      have a2 := hbB.cell (i := 2) rfl
      have a3 := hbB.cell (i := 3) rfl
      have a4 := hbB.cell (i := 4) rfl
      have a5 := hbB.cell (i := 5) rfl
      clear hbA hbB
      go_quiet ((go_at_call 65; exact call_keeps ⟨_, rfl⟩ (HV.out _)))
      go_wp2
      go_quiet (fail)
      go_wp2
      go_ret
      exact ⟨rfl, below_drewN (below_drewN HW.out _) _⟩
    · obtain rfl : er = 0 := HER.out
      go_enter Try.func64, Try.ntmps64
      go_wp2
      have hbA : RowBlk 147 ((w.alloc (.cells #[.int .i64 (k : Int), .int .i64 0, .slice (some ⟨bo, 0, none⟩) n cap] 147)).alloc (.cells #[.int .i64 (p : Int), .int .i64 xo, .int .i64 xk, .int .u64 (xa : Int), .int .u64 (xb : Int), .int .u64 (xc : Int)] 43)) w.heap.size [.int .i64 (k : Int), .int .i64 0, .slice (some ⟨bo, 0, none⟩) n cap] := (RowBlk.new _ _ _).alloc _
      have hbB : RowBlk 43 ((w.alloc (.cells #[.int .i64 (k : Int), .int .i64 0, .slice (some ⟨bo, 0, none⟩) n cap] 147)).alloc (.cells #[.int .i64 (p : Int), .int .i64 xo, .int .i64 xk, .int .u64 (xa : Int), .int .u64 (xb : Int), .int .u64 (xc : Int)] 43)) (w.heap.size + 1) [.int .i64 (p : Int), .int .i64 xo, .int .i64 xk, .int .u64 (xa : Int), .int .u64 (xb : Int), .int .u64 (xc : Int)] := by
        have h := RowBlk.new (w.alloc (.cells #[.int .i64 (k : Int), .int .i64 0, .slice (some ⟨bo, 0, none⟩) n cap] 147)) [.int .i64 (p : Int), .int .i64 xo, .int .i64 xk, .int .u64 (xa : Int), .int .u64 (xb : Int), .int .u64 (xc : Int)] 43
        have e : (w.alloc (.cells #[.int .i64 (k : Int), .int .i64 0, .slice (some ⟨bo, 0, none⟩) n cap] 147)).heap.size = w.heap.size + 1 := by simp
        rw [e] at h; exact h
      generalize ((w.alloc (.cells #[.int .i64 (k : Int), .int .i64 0, .slice (some ⟨bo, 0, none⟩) n cap] 147)).alloc (.cells #[.int .i64 (p : Int), .int .i64 xo, .int .i64 xk, .int .u64 (xa : Int), .int .u64 (xb : Int), .int .u64 (xc : Int)] 43)) = W at hbA hbB HW hcl hlk ⊢
      have b0 := hbA.cell (i := 0) rfl
      have b1 := hbA.cell (i := 1) rfl
      have b2 := hbA.cell (i := 2) rfl
      have a0 := hbB.cell (i := 0) rfl
      have a1 := hbB.cell (i := 1) rfl
      have a2 := hbB.cell (i := 2) rfl
      have a3 := hbB.cell (i := 3) rfl
      have a4 := hbB.cell (i := 4) rfl
      have a5 := hbB.cell (i := 5) rfl
      clear hbA hbB
      go_quiet ((go_at_call 65; exact call_keeps ⟨_, rfl⟩ (HV.out _)))
      go_wp2
      go_quiet (fail)
      go_wp2
      go_ret
      exact ⟨rfl, below_drewN (below_drewN HW.out _) _⟩
  · have hd1 : decide (xk = 1) = false := decide_eq_false (by omega)
    have he1 : (xk == 1) = false := by rw [beq_eq_false_iff_ne]; omega
    clear hk2
    rcases hvb with ⟨rfl, rfl⟩ | ⟨g, rfl, rfl⟩
    · obtain rfl : er = 8 := HER.out
      go_enter Try.func64, Try.ntmps64
      go_wp2
      have hbA : RowBlk 147 ((w.alloc (.cells #[.int .i64 (k : Int), .int .i64 0, .slice (some ⟨bo, 0, none⟩) n cap] 147)).alloc (.cells #[.int .i64 (p : Int), .int .i64 xo, .int .i64 xk, .int .u64 (xa : Int), .int .u64 (xb : Int), .int .u64 (xc : Int)] 43)) w.heap.size [.int .i64 (k : Int), .int .i64 0, .slice (some ⟨bo, 0, none⟩) n cap] := (RowBlk.new _ _ _).alloc _
      have hbB : RowBlk 43 ((w.alloc (.cells #[.int .i64 (k : Int), .int .i64 0, .slice (some ⟨bo, 0, none⟩) n cap] 147)).alloc (.cells #[.int .i64 (p : Int), .int .i64 xo, .int .i64 xk, .int .u64 (xa : Int), .int .u64 (xb : Int), .int .u64 (xc : Int)] 43)) (w.heap.size + 1) [.int .i64 (p : Int), .int .i64 xo, .int .i64 xk, .int .u64 (xa : Int), .int .u64 (xb : Int), .int .u64 (xc : Int)] := by
        have h := RowBlk.new (w.alloc (.cells #[.int .i64 (k : Int), .int .i64 0, .slice (some ⟨bo, 0, none⟩) n cap] 147)) [.int .i64 (p : Int), .int .i64 xo, .int .i64 xk, .int .u64 (xa : Int), .int .u64 (xb : Int), .int .u64 (xc : Int)] 43
        have e : (w.alloc (.cells #[.int .i64 (k : Int), .int .i64 0, .slice (some ⟨bo, 0, none⟩) n cap] 147)).heap.size = w.heap.size + 1 := by simp
        rw [e] at h; exact h
      generalize ((w.alloc (.cells #[.int .i64 (k : Int), .int .i64 0, .slice (some ⟨bo, 0, none⟩) n cap] 147)).alloc (.cells #[.int .i64 (p : Int), .int .i64 xo, .int .i64 xk, .int .u64 (xa : Int), .int .u64 (xb : Int), .int .u64 (xc : Int)] 43)) = W at hbA hbB HW hcl hlk ⊢
      have b0 := hbA.cell (i := 0) rfl
      have b1 := hbA.cell (i := 1) rfl
      have b2 := hbA.cell (i := 2) rfl
      have a0 := hbB.cell (i := 0) rfl
      have a1 := hbB.cell (i := 1) rfl
      have a2 := hbB.cell (i := 2) rfl
      have a3 := hbB.cell (i := 3) rfl
      have a4 := hbB.cell (i := 4) rfl
      have a5 := hbB.cell (i := 5) rfl
      clear hbA hbB
      go_quiet (fail)
      go_wp2
      go_quiet (fail)
      go_wp2
      go_ret
      exact ⟨rfl, below_drewN (below_drewN HW.out _) _⟩
    · obtain rfl : er = 0 := HER.out
      go_enter Try.func64, Try.ntmps64
      go_wp2
      have hbA : RowBlk 147 ((w.alloc (.cells #[.int .i64 (k : Int), .int .i64 0, .slice (some ⟨bo, 0, none⟩) n cap] 147)).alloc (.cells #[.int .i64 (p : Int), .int .i64 xo, .int .i64 xk, .int .u64 (xa : Int), .int .u64 (xb : Int), .int .u64 (xc : Int)] 43)) w.heap.size [.int .i64 (k : Int), .int .i64 0, .slice (some ⟨bo, 0, none⟩) n cap] := (RowBlk.new _ _ _).alloc _
      have hbB : RowBlk 43 ((w.alloc (.cells #[.int .i64 (k : Int), .int .i64 0, .slice (some ⟨bo, 0, none⟩) n cap] 147)).alloc (.cells #[.int .i64 (p : Int), .int .i64 xo, .int .i64 xk, .int .u64 (xa : Int), .int .u64 (xb : Int), .int .u64 (xc : Int)] 43)) (w.heap.size + 1) [.int .i64 (p : Int), .int .i64 xo, .int .i64 xk, .int .u64 (xa : Int), .int .u64 (xb : Int), .int .u64 (xc : Int)] := by
        have h := RowBlk.new (w.alloc (.cells #[.int .i64 (k : Int), .int .i64 0, .slice (some ⟨bo, 0, none⟩) n cap] 147)) [.int .i64 (p : Int), .int .i64 xo, .int .i64 xk, .int .u64 (xa : Int), .int .u64 (xb : Int), .int .u64 (xc : Int)] 43
        have e : (w.alloc (.cells #[.int .i64 (k : Int), .int .i64 0, .slice (some ⟨bo, 0, none⟩) n cap] 147)).heap.size = w.heap.size + 1 := by simp
        rw [e] at h; exact h
      generalize ((w.alloc (.cells #[.int .i64 (k : Int), .int .i64 0, .slice (some ⟨bo, 0, none⟩) n cap] 147)).alloc (.cells #[.int .i64 (p : Int), .int .i64 xo, .int .i64 xk, .int .u64 (xa : Int), .int .u64 (xb : Int), .int .u64 (xc : Int)] 43)) = W at hbA hbB HW hcl hlk ⊢
      have b0 := hbA.cell (i := 0) rfl
      have b1 := hbA.cell (i := 1) rfl
      have b2 := hbA.cell (i := 2) rfl
      have a0 := hbB.cell (i := 0) rfl
      have a1 := hbB.cell (i := 1) rfl
      have a2 := hbB.cell (i := 2) rfl
      have a3 := hbB.cell (i := 3) rfl
      have a4 := hbB.cell (i := 4) rfl
      have a5 := hbB.cell (i := 5) rfl
      clear hbA hbB
      go_quiet (fail)
      go_wp2
      go_quiet (fail)
      go_wp2
      go_ret
      exact ⟨rfl, below_drewN (below_drewN HW.out _) _⟩
end
section
open Go.ChangeShapes Go.WideShapes Go.ChangeAt Go.RowKit
set_option linter.unusedVariables false
set_option linter.unusedSimpArgs false
def LlMade (v : Value) (er : Int) (w : World) (e : Ending) (w' : World) : Prop := e = .returned (.tuple #[v, .int .i64 er]) ∧ Below w.heap.size w w'
set_option maxRecDepth 100000 in
set_option maxHeartbeats 1000000 in
theorem ll_inv_err (k bo n cap : Nat) (x : CallV) (er : Int) (w : World) (he : er ≠ 0) (hr : ∀ W : World, Below w.heap.size w W → Calls Try.prog 64 #[.agg #[.int .i64 (k : Int), .int .i64 0, .slice (some ⟨bo, 0, none⟩) n cap], callAgg x] W (LlRef er W)) :
    Calls Try.prog 63 #[.agg #[.int .i64 (k : Int), .int .i64 0, .slice (some ⟨bo, 0, none⟩) n cap], callAgg x] w (LlMade .nilIface er w) := by
  have HR := Lib.hid hr
  clear hr
  unfold callAgg at *
  go_enter Try.func63, Try.ntmps63
  go_wp2_with fail
  have HB := Lib.hid (((Below.refl w.heap.size w).alloc (Nat.le_refl _) (.cells #[.int .i64 (k : Int), .int .i64 0, .slice (some ⟨bo, 0, none⟩) n cap] 147)).alloc (by simp) (.cells #[.int .i64 x.t, .int .i64 x.o, .int .i64 x.k, .int .u64 (x.a : Int), .int .u64 (x.b : Int), .int .u64 (x.c : Int)] 43))
  refine (HR.out _ HB.out).mono ?_
  rintro e w1 ⟨rfl, hb1⟩
  have HB1 := Lib.hid (HB.out.trans (hb1.mono HB.out.size))
  clear hb1
  go_wp2_with fail
  go_ret2
  exact ⟨rfl, HB1.out⟩
/-- the operation of a call -/
def llOpv (m : Nat) (kd p v lk : Nat) : Value := if kd = 0 then .iface 157 (.agg #[.int .i64 (p : Int), .int .i64 (p : Int), .map (some m)]) else if kd = 1 then .iface 159 (.agg #[.int .i64 (p : Int), .int .i64 (p : Int), .map (some m), .int .u64 (v : Int)]) else .iface 162 (.agg #[.int .i64 (p : Int), .int .u64 (lk : Int)])
set_option maxRecDepth 100000 in
set_option maxHeartbeats 2000000 in
theorem ll_inv_ok (k bo n cap m : Nat) (x : CallV) (v : Value) (lk : Nat) (w : World) (h0 : 0 ≤ x.k) (h1 : x.k ≤ 2) (hk : k ≤ 64) (ha : x.a < k) (hR : RefIn w k bo n m x v) (hv : x.k = 2 → ∃ g, v = .pointer (some ⟨g, 0, none⟩) ∧ w.cell? ⟨g, 0, none⟩ = some (.int .u64 (lk : Int)))
    (hr : ∀ W : World, Below w.heap.size w W → Calls Try.prog 64 #[.agg #[.int .i64 (k : Int), .int .i64 0, .slice (some ⟨bo, 0, none⟩) n cap], callAgg x] W (LlRef 0 W)) :
    Calls Try.prog 63 #[.agg #[.int .i64 (k : Int), .int .i64 0, .slice (some ⟨bo, 0, none⟩) n cap], callAgg x] w (LlMade (llOpv m x.k.toNat x.a x.b lk) 0 w) := by
  have HR := Lib.hid hr
  have hwa : IntKind.i64.wrap (x.a : Int) = (x.a : Int) := by unfold IntKind.wrap; simp [IntKind.bits, IntKind.signed]; omega
  obtain ⟨hlo, hhi, hcell, N, f, hM, hf⟩ := hR
  have hn : x.t = ((x.t.toNat : Nat) : Int) := by omega
  obtain ⟨p, hp⟩ : ∃ p, x.t.toNat = p := ⟨_, rfl⟩
  rw [hp] at hcell hn
  have hpn : (p : Int) < (n : Int) := by omega
  have hp0 : (0 : Int) ≤ (p : Int) := by omega
  have hbw := World.block_lt_of_cell? w ⟨bo, p, none⟩ hcell
  have hml := hM.lt
  obtain ⟨xt, xo, xk, xa, xb, xc⟩ := x
  simp only at h0 h1 ha hwa hlo hhi hn hf hv
  subst hn
  have HV := Lib.hid hv
  have HM := Lib.hid hM
  have HC := Lib.hid hcell
  have HF := Lib.hid hf
  clear hr hM hcell hf hlo hhi hv
  unfold callAgg at *
  have e01 : (0 : Int) + (xa : Int) = (xa : Int) := by omega
  go_enter Try.func63, Try.ntmps63
  go_wp2_with fail
  have HB := Lib.hid (((Below.refl w.heap.size w).alloc (Nat.le_refl _) (.cells #[.int .i64 (k : Int), .int .i64 0, .slice (some ⟨bo, 0, none⟩) n cap] 147)).alloc (by simp) (.cells #[.int .i64 (p : Int), .int .i64 xo, .int .i64 xk, .int .u64 (xa : Int), .int .u64 (xb : Int), .int .u64 (xc : Int)] 43))
  have hbA : RowBlk 147 ((w.alloc (.cells #[.int .i64 (k : Int), .int .i64 0, .slice (some ⟨bo, 0, none⟩) n cap] 147)).alloc (.cells #[.int .i64 (p : Int), .int .i64 xo, .int .i64 xk, .int .u64 (xa : Int), .int .u64 (xb : Int), .int .u64 (xc : Int)] 43)) w.heap.size [.int .i64 (k : Int), .int .i64 0, .slice (some ⟨bo, 0, none⟩) n cap] := (RowBlk.new _ _ _).alloc _
  have hbB : RowBlk 43 ((w.alloc (.cells #[.int .i64 (k : Int), .int .i64 0, .slice (some ⟨bo, 0, none⟩) n cap] 147)).alloc (.cells #[.int .i64 (p : Int), .int .i64 xo, .int .i64 xk, .int .u64 (xa : Int), .int .u64 (xb : Int), .int .u64 (xc : Int)] 43)) (w.heap.size + 1) [.int .i64 (p : Int), .int .i64 xo, .int .i64 xk, .int .u64 (xa : Int), .int .u64 (xb : Int), .int .u64 (xc : Int)] := by
    have h := RowBlk.new (w.alloc (.cells #[.int .i64 (k : Int), .int .i64 0, .slice (some ⟨bo, 0, none⟩) n cap] 147)) [.int .i64 (p : Int), .int .i64 xo, .int .i64 xk, .int .u64 (xa : Int), .int .u64 (xb : Int), .int .u64 (xc : Int)] 43
    have e : (w.alloc (.cells #[.int .i64 (k : Int), .int .i64 0, .slice (some ⟨bo, 0, none⟩) n cap] 147)).heap.size = w.heap.size + 1 := by simp
    rw [e] at h; exact h
  have hWs : ((w.alloc (.cells #[.int .i64 (k : Int), .int .i64 0, .slice (some ⟨bo, 0, none⟩) n cap] 147)).alloc (.cells #[.int .i64 (p : Int), .int .i64 xo, .int .i64 xk, .int .u64 (xa : Int), .int .u64 (xb : Int), .int .u64 (xc : Int)] 43)).heap.size = w.heap.size + 2 := by simp
  generalize ((w.alloc (.cells #[.int .i64 (k : Int), .int .i64 0, .slice (some ⟨bo, 0, none⟩) n cap] 147)).alloc (.cells #[.int .i64 (p : Int), .int .i64 xo, .int .i64 xk, .int .u64 (xa : Int), .int .u64 (xb : Int), .int .u64 (xc : Int)] 43)) = W at hbA hbB HB hWs ⊢
  refine (HR.out _ HB.out).mono ?_
  rintro e w1 ⟨rfl, hb1⟩
  have HB1 := Lib.hid (HB.out.trans (hb1.mono HB.out.size))
  have hbA1 := hbA.same (hb1.block _ hbA.lt)
  have hbB1 := hbB.same (hb1.block _ hbB.lt)
  have b0 := hbA1.cell (i := 0) rfl
  have b1 := hbA1.cell (i := 1) rfl
  have b2 := hbA1.cell (i := 2) rfl
  have a0 := hbB1.cell (i := 0) rfl
  have a2 := hbB1.cell (i := 2) rfl
  have a3 := hbB1.cell (i := 3) rfl
  have a4 := hbB1.cell (i := 4) rfl
  have hcl : w1.cell? ⟨bo, p, none⟩ = some (.map (some m)) := (HB1.out.cell (p := ⟨bo, p, none⟩) hbw).trans HC.out
  clear hb1 hbA hbB hbA1 hbB1 hWs HB
  go_wp2_with fail
  go_quiet (fail)
  rcases (show xk = 0 ∨ xk = 1 ∨ xk = 2 by omega) with rfl | rfl | rfl
  · go_wp2_with fail
    go_ret2
    exact ⟨rfl, below_drewN HB1.out _⟩
  · go_wp2_with fail
    go_ret2
    exact ⟨rfl, below_drewN HB1.out _⟩
  · obtain ⟨g, hvg, hg⟩ := HV.out rfl
    have hgl := World.block_lt_of_cell? w ⟨g, 0, none⟩ hg
    have hgc : w1.cell? ⟨g, 0, none⟩ = some (.int .u64 (lk : Int)) := (HB1.out.cell (p := ⟨g, 0, none⟩) hgl).trans hg
    have hlk := ((HM.out.sameB (HB1.out.block m hml)).drewN nq).look (t := 149) (e := 160) Try.underlying3 Try.underlying149 (zeroLk _) (a := (xa : Int)) (WalkArith.wf_i64 (by omega))
    rw [HF.out, hvg] at hlk
    go_wp2_with fail
    go_ret2
    exact ⟨rfl, below_drewN HB1.out _⟩
end
end Go.Proofs.Ytjbbcflifoakhaa
