/- Walks of loom: the steps of cells. -/
import Derived.Test.YtihhjbcphdnkhaaN2a
import Derived.Test.YtihhjbcphdnkhaaY1
namespace Go.Proofs.Ytihhjbcphdnkhaa
open Go.RowKit

set_option maxHeartbeats 1000000 in
theorem inv_kind_low (size base : Nat) (x : CallV) (w : World) (hk : x.k < 0) :
    Calls Try.prog 72 #[.agg #[.int .i64 size, .int .i64 base], callAgg x] w fun e w' => e = .returned (.tuple #[.nilIface, .int .i64 9]) ∧ Below w.heap.size w w' := by
  unfold callAgg
  go_enter Try.func72, Try.ntmps72
  go_wp2
  go_ret2
  exact ⟨rfl, ((Below.refl _ _).alloc (Nat.le_refl _) _).alloc (by simp) _⟩

set_option maxHeartbeats 1000000 in
theorem inv_kind_high (size base : Nat) (x : CallV) (w : World) (hk : 3 < x.k) :
    Calls Try.prog 72 #[.agg #[.int .i64 size, .int .i64 base], callAgg x] w fun e w' => e = .returned (.tuple #[.nilIface, .int .i64 9]) ∧ Below w.heap.size w w' := by
  unfold callAgg
  have hk0 : ¬ x.k < 0 := by omega
  go_enter Try.func72, Try.ntmps72
  go_wp2
  go_ret2
  exact ⟨rfl, ((Below.refl _ _).alloc (Nat.le_refl _) _).alloc (by simp) _⟩

set_option maxHeartbeats 1000000 in
theorem inv_range (size base : Nat) (x : CallV) (w : World) (hk : ¬ x.k < 0) (hk2 : ¬ 3 < x.k) (ha : size ≤ x.a) (hs : size ≤ 64) :
    Calls Try.prog 72 #[.agg #[.int .i64 size, .int .i64 base], callAgg x] w fun e w' => e = .returned (.tuple #[.nilIface, .int .i64 10]) ∧ Below w.heap.size w w' := by
  unfold callAgg
  have h2 : (size : Int) % 18446744073709551616 = size := by omega
  have h3 : (size : Int) ≤ (x.a : Int) := by omega
  go_enter Try.func72, Try.ntmps72
  go_wp2
  go_ret2
  exact ⟨rfl, ((Below.refl _ _).alloc (Nat.le_refl _) _).alloc (by simp) _⟩

set_option maxHeartbeats 1000000 in
theorem inv_read (size base : Nat) (x : CallV) (w : World) (hk : x.k = 0) (ha : x.a < size) (hs : size ≤ 64) (hb : base ≤ 65536) :
    Calls Try.prog 72 #[.agg #[.int .i64 size, .int .i64 base], callAgg x] w fun e w' => e = .returned (.tuple #[.iface 170 (.agg #[.int .i64 (base + x.a)]), .int .i64 0]) ∧ Below w.heap.size w w' := by
  unfold callAgg
  rw [hk]
  have h2 : (size : Int) % 18446744073709551616 = size := by omega
  have h3 : (x.a : Int) < (size : Int) := by omega
  have h4 : x.a ≤ 64 := by omega
  go_enter Try.func72, Try.ntmps72
  go_wp2
  go_ret2
  exact ⟨rfl, ((Below.refl _ _).alloc (Nat.le_refl _) _).alloc (by simp) _⟩

set_option maxHeartbeats 1000000 in
theorem inv_write (size base : Nat) (x : CallV) (w : World) (hk : x.k = 1) (ha : x.a < size) (hs : size ≤ 64) (hb : base ≤ 65536) :
    Calls Try.prog 72 #[.agg #[.int .i64 size, .int .i64 base], callAgg x] w fun e w' => e = .returned (.tuple #[.iface 172 (.agg #[.int .i64 (base + x.a), .int .u64 x.b]), .int .i64 0]) ∧ Below w.heap.size w w' := by
  unfold callAgg
  rw [hk]
  have h2 : (size : Int) % 18446744073709551616 = size := by omega
  have h3 : (x.a : Int) < (size : Int) := by omega
  have h4 : x.a ≤ 64 := by omega
  go_enter Try.func72, Try.ntmps72
  go_wp2
  go_ret2
  exact ⟨rfl, ((Below.refl _ _).alloc (Nat.le_refl _) _).alloc (by simp) _⟩

set_option maxHeartbeats 1000000 in
theorem inv_swap (size base : Nat) (x : CallV) (w : World) (hk : x.k = 2) (ha : x.a < size) (hs : size ≤ 64) (hb : base ≤ 65536) :
    Calls Try.prog 72 #[.agg #[.int .i64 size, .int .i64 base], callAgg x] w fun e w' => e = .returned (.tuple #[.iface 174 (.agg #[.int .i64 (base + x.a), .int .u64 x.b, .int .u64 x.c]), .int .i64 0]) ∧ Below w.heap.size w w' := by
  unfold callAgg
  rw [hk]
  have h2 : (size : Int) % 18446744073709551616 = size := by omega
  have h3 : (x.a : Int) < (size : Int) := by omega
  have h4 : x.a ≤ 64 := by omega
  go_enter Try.func72, Try.ntmps72
  go_wp2
  go_ret2
  exact ⟨rfl, ((Below.refl _ _).alloc (Nat.le_refl _) _).alloc (by simp) _⟩

set_option maxHeartbeats 1000000 in
theorem inv_add (size base : Nat) (x : CallV) (w : World) (hk : x.k = 3) (ha : x.a < size) (hs : size ≤ 64) (hb : base ≤ 65536) :
    Calls Try.prog 72 #[.agg #[.int .i64 size, .int .i64 base], callAgg x] w fun e w' => e = .returned (.tuple #[.iface 176 (.agg #[.int .i64 (base + x.a), .int .u64 x.b]), .int .i64 0]) ∧ Below w.heap.size w w' := by
  unfold callAgg
  rw [hk]
  have h2 : (size : Int) % 18446744073709551616 = size := by omega
  have h3 : (x.a : Int) < (size : Int) := by omega
  have h4 : x.a ≤ 64 := by omega
  go_enter Try.func72, Try.ntmps72
  go_wp2
  go_ret2
  exact ⟨rfl, ((Below.refl _ _).alloc (Nat.le_refl _) _).alloc (by simp) _⟩

set_option maxRecDepth 20000 in
set_option maxHeartbeats 1000000 in
theorem read_step (bm bw i x : Nat) (tick : Int) (l : List Nat) (c : Cn) (w : World) (hM : MemIs 126 w bm bw l c) (hi : l[i]? = some x) (hn : l.length ≤ 65536) (hc : c.r < 9223372036854775807) :
    Calls Try.prog 73 #[.agg #[.int .i64 (i : Int)], turnAgg bm tick] w (StepEnd 0 x bm bw l { c with r := c.r + 1 } w) := by
  unfold turnAgg
  have HM := Lib.hid hM
  have HI := Lib.hid hi
  have hmm := m_Read ⟨bm, 0, none⟩
  have hbm := hM.lt1
  have hbw := hM.lt2
  clear hM hi
  go_enter Try.func73, Try.ntmps73
  go_wp2_with fail
  generalize hw3 : ((w.alloc (.cells #[.int .i64 (i : Int)] 170)).alloc (.cells #[.iface 89 (.pointer (some ⟨bm, 0, none⟩)), .int .i64 tick] 105)).alloc (.cells #[.int .i64 0, .int .u64 0, .slice none 0 0] 48) = w3
  have HM3 : Hid (MemIs 126 w3 bm bw l c) := Lib.hid (by rw [← hw3]; exact ((HM.out.alloc _).alloc _).alloc _)
  have HB3 : Hid (But bm bw w w3) := Lib.hid (by rw [← hw3]; exact (((But.refl _ _ _).alloc _).alloc _).alloc _)
  have hs3 : w3.heap.size = w.heap.size + 1 + 1 + 1 := by rw [← hw3]; simp
  have hb3 : RowBlk 48 w3 (w.heap.size + 1 + 1) [.int .i64 0, .int .u64 0, .slice none 0 0] := by
    rw [← hw3]
    have := RowBlk.new ((w.alloc (.cells #[.int .i64 (i : Int)] 170)).alloc (.cells #[.iface 89 (.pointer (some ⟨bm, 0, none⟩)), .int .i64 tick] 105)) [.int .i64 0, .int .u64 0, .slice none 0 0] 48
    simpa using this
  clear hw3
  refine (read_ok bm bw i x l c w3 HM3.out HI.out hn hc).mono ?_
  rintro e w4 ⟨rfl, hM4, hB4⟩
  have hk4 : RowBlk 48 w4 (w.heap.size + 1 + 1) [.int .i64 0, .int .u64 0, .slice none 0 0] := hb3.same (hB4.block _ (by omega) (by omega) (by omega))
  have HX := Lib.hid (answer_store (.int .i64 0) (.int .u64 x) (.slice none 0 0) hk4 hM4 (HB3.out.trans hB4) (by omega) (by omega) (by omega))
  have k0 := hk4.cell (i := 0) rfl
  have k1 := hk4.cell (i := 1) rfl
  have k2 := hk4.cell (i := 2) rfl
  have f0 : w4.frozen? ⟨w.heap.size + 1 + 1, 0, none⟩ = false := hk4.free
  have f1 : w4.frozen? ⟨w.heap.size + 1 + 1, 1, none⟩ = false := hk4.free
  have f2 : w4.frozen? ⟨w.heap.size + 1 + 1, 2, none⟩ = false := hk4.free
  clear hM4 hB4 hb3 hk4
  go_wp2
  generalize ((w4.setCell ⟨w.heap.size + 1 + 1, 0, none⟩ (.int .i64 0)).setCell ⟨w.heap.size + 1 + 1, 1, none⟩ (.int .u64 x)).setCell ⟨w.heap.size + 1 + 1, 2, none⟩ (.slice none 0 0) = w5 at HX ⊢
  have q0 := HX.out.1.cell (i := 0) rfl
  have q1 := HX.out.1.cell (i := 1) rfl
  have q2 := HX.out.1.cell (i := 2) rfl
  exact bodyPost_ret (v := .tuple #[.agg #[.int .i64 0, .int .u64 x, .slice none 0 0], .bool true]) (by simp [results, Try.results73, go_sem, q0, q1, q2]) rfl ⟨rfl, HX.out.2.1, HX.out.2.2⟩

set_option maxRecDepth 20000 in
set_option maxHeartbeats 1000000 in
theorem write_step (bm bw i x y : Nat) (tick : Int) (l : List Nat) (c : Cn) (w : World) (hM : MemIs 126 w bm bw l c) (hi : l[i]? = some x) (hn : l.length ≤ 65536) (hc : c.w < 9223372036854775807) :
    Calls Try.prog 74 #[.agg #[.int .i64 (i : Int), .int .u64 (y : Int)], turnAgg bm tick] w (StepEnd 0 0 bm bw (l.set i y) { c with w := c.w + 1 } w) := by
  unfold turnAgg
  have HM := Lib.hid hM
  have HI := Lib.hid hi
  have hmm := m_Write ⟨bm, 0, none⟩
  have hbm := hM.lt1
  have hbw := hM.lt2
  clear hM hi
  go_enter Try.func74, Try.ntmps74
  go_wp2_with fail
  generalize hw3 : ((w.alloc (.cells #[.int .i64 (i : Int), .int .u64 (y : Int)] 172)).alloc (.cells #[.iface 89 (.pointer (some ⟨bm, 0, none⟩)), .int .i64 tick] 105)).alloc (.cells #[.int .i64 0, .int .u64 0, .slice none 0 0] 48) = w3
  have HM3 : Hid (MemIs 126 w3 bm bw l c) := Lib.hid (by rw [← hw3]; exact ((HM.out.alloc _).alloc _).alloc _)
  have HB3 : Hid (But bm bw w w3) := Lib.hid (by rw [← hw3]; exact (((But.refl _ _ _).alloc _).alloc _).alloc _)
  have hs3 : w3.heap.size = w.heap.size + 1 + 1 + 1 := by rw [← hw3]; simp
  have hb3 : RowBlk 48 w3 (w.heap.size + 1 + 1) [.int .i64 0, .int .u64 0, .slice none 0 0] := by
    rw [← hw3]
    have := RowBlk.new ((w.alloc (.cells #[.int .i64 (i : Int), .int .u64 (y : Int)] 172)).alloc (.cells #[.iface 89 (.pointer (some ⟨bm, 0, none⟩)), .int .i64 tick] 105)) [.int .i64 0, .int .u64 0, .slice none 0 0] 48
    simpa using this
  clear hw3
  refine (write_ok bm bw i x y l c w3 HM3.out HI.out hn hc).mono ?_
  rintro e w4 ⟨rfl, hM4, hB4⟩
  have hk4 : RowBlk 48 w4 (w.heap.size + 1 + 1) [.int .i64 0, .int .u64 0, .slice none 0 0] := hb3.same (hB4.block _ (by omega) (by omega) (by omega))
  have HX := Lib.hid (answer_store (.int .i64 0) (.int .u64 0) (.slice none 0 0) hk4 hM4 (HB3.out.trans hB4) (by omega) (by omega) (by omega))
  have k0 := hk4.cell (i := 0) rfl
  have k1 := hk4.cell (i := 1) rfl
  have k2 := hk4.cell (i := 2) rfl
  have f0 : w4.frozen? ⟨w.heap.size + 1 + 1, 0, none⟩ = false := hk4.free
  have f1 : w4.frozen? ⟨w.heap.size + 1 + 1, 1, none⟩ = false := hk4.free
  have f2 : w4.frozen? ⟨w.heap.size + 1 + 1, 2, none⟩ = false := hk4.free
  clear hM4 hB4 hb3 hk4
  go_wp2
  generalize ((w4.setCell ⟨w.heap.size + 1 + 1, 0, none⟩ (.int .i64 0)).setCell ⟨w.heap.size + 1 + 1, 1, none⟩ (.int .u64 0)).setCell ⟨w.heap.size + 1 + 1, 2, none⟩ (.slice none 0 0) = w5 at HX ⊢
  have q0 := HX.out.1.cell (i := 0) rfl
  have q1 := HX.out.1.cell (i := 1) rfl
  have q2 := HX.out.1.cell (i := 2) rfl
  exact bodyPost_ret (v := .tuple #[.agg #[.int .i64 0, .int .u64 0, .slice none 0 0], .bool true]) (by simp [results, Try.results74, go_sem, q0, q1, q2]) rfl ⟨rfl, HX.out.2.1, HX.out.2.2⟩

set_option maxRecDepth 20000 in
set_option maxHeartbeats 1000000 in
theorem swapHit_step (bm bw i x y : Nat) (tick : Int) (l : List Nat) (c : Cn) (w : World) (hM : MemIs 126 w bm bw l c) (hi : l[i]? = some x) (hn : l.length ≤ 65536) (hc : c.s < 9223372036854775807) :
    Calls Try.prog 75 #[.agg #[.int .i64 (i : Int), .int .u64 (x : Int), .int .u64 (y : Int)], turnAgg bm tick] w (StepEnd 0 1 bm bw (l.set i y) { c with s := c.s + 1 } w) := by
  unfold turnAgg
  have HM := Lib.hid hM
  have HI := Lib.hid hi
  have hmm := m_Swap ⟨bm, 0, none⟩
  have hbm := hM.lt1
  have hbw := hM.lt2
  clear hM hi
  go_enter Try.func75, Try.ntmps75
  go_wp2_with fail
  generalize hw3 : ((w.alloc (.cells #[.int .i64 (i : Int), .int .u64 (x : Int), .int .u64 (y : Int)] 174)).alloc (.cells #[.iface 89 (.pointer (some ⟨bm, 0, none⟩)), .int .i64 tick] 105)).alloc (.cells #[.int .i64 0, .int .u64 0, .slice none 0 0] 48) = w3
  have HM3 : Hid (MemIs 126 w3 bm bw l c) := Lib.hid (by rw [← hw3]; exact ((HM.out.alloc _).alloc _).alloc _)
  have HB3 : Hid (But bm bw w w3) := Lib.hid (by rw [← hw3]; exact (((But.refl _ _ _).alloc _).alloc _).alloc _)
  have hs3 : w3.heap.size = w.heap.size + 1 + 1 + 1 := by rw [← hw3]; simp
  have hb3 : RowBlk 48 w3 (w.heap.size + 1 + 1) [.int .i64 0, .int .u64 0, .slice none 0 0] := by
    rw [← hw3]
    have := RowBlk.new ((w.alloc (.cells #[.int .i64 (i : Int), .int .u64 (x : Int), .int .u64 (y : Int)] 174)).alloc (.cells #[.iface 89 (.pointer (some ⟨bm, 0, none⟩)), .int .i64 tick] 105)) [.int .i64 0, .int .u64 0, .slice none 0 0] 48
    simpa using this
  clear hw3
  refine (swap_hit bm bw i x y l c w3 HM3.out HI.out hn hc).mono ?_
  rintro e w4 ⟨rfl, hM4, hB4⟩
  have hk4 : RowBlk 48 w4 (w.heap.size + 1 + 1) [.int .i64 0, .int .u64 0, .slice none 0 0] := hb3.same (hB4.block _ (by omega) (by omega) (by omega))
  have HX := Lib.hid (answer_store (.int .i64 0) (.int .u64 1) (.slice none 0 0) hk4 hM4 (HB3.out.trans hB4) (by omega) (by omega) (by omega))
  have k0 := hk4.cell (i := 0) rfl
  have k1 := hk4.cell (i := 1) rfl
  have k2 := hk4.cell (i := 2) rfl
  have f0 : w4.frozen? ⟨w.heap.size + 1 + 1, 0, none⟩ = false := hk4.free
  have f1 : w4.frozen? ⟨w.heap.size + 1 + 1, 1, none⟩ = false := hk4.free
  have f2 : w4.frozen? ⟨w.heap.size + 1 + 1, 2, none⟩ = false := hk4.free
  clear hM4 hB4 hb3 hk4
  go_wp2
  generalize ((w4.setCell ⟨w.heap.size + 1 + 1, 0, none⟩ (.int .i64 0)).setCell ⟨w.heap.size + 1 + 1, 1, none⟩ (.int .u64 1)).setCell ⟨w.heap.size + 1 + 1, 2, none⟩ (.slice none 0 0) = w5 at HX ⊢
  have q0 := HX.out.1.cell (i := 0) rfl
  have q1 := HX.out.1.cell (i := 1) rfl
  have q2 := HX.out.1.cell (i := 2) rfl
  exact bodyPost_ret (v := .tuple #[.agg #[.int .i64 0, .int .u64 1, .slice none 0 0], .bool true]) (by simp [results, Try.results75, go_sem, q0, q1, q2]) rfl ⟨rfl, HX.out.2.1, HX.out.2.2⟩

set_option maxRecDepth 20000 in
set_option maxHeartbeats 1000000 in
theorem swapMiss_step (bm bw i x o y : Nat) (tick : Int) (l : List Nat) (c : Cn) (w : World) (hM : MemIs 126 w bm bw l c) (hi : l[i]? = some x) (hn : l.length ≤ 65536) (hc : c.s < 9223372036854775807) (ho : x ≠ o) :
    Calls Try.prog 75 #[.agg #[.int .i64 (i : Int), .int .u64 (o : Int), .int .u64 (y : Int)], turnAgg bm tick] w (StepEnd 0 0 bm bw l { c with s := c.s + 1 } w) := by
  unfold turnAgg
  have HM := Lib.hid hM
  have HI := Lib.hid hi
  have hmm := m_Swap ⟨bm, 0, none⟩
  have hbm := hM.lt1
  have hbw := hM.lt2
  clear hM hi
  go_enter Try.func75, Try.ntmps75
  go_wp2_with fail
  generalize hw3 : ((w.alloc (.cells #[.int .i64 (i : Int), .int .u64 (o : Int), .int .u64 (y : Int)] 174)).alloc (.cells #[.iface 89 (.pointer (some ⟨bm, 0, none⟩)), .int .i64 tick] 105)).alloc (.cells #[.int .i64 0, .int .u64 0, .slice none 0 0] 48) = w3
  have HM3 : Hid (MemIs 126 w3 bm bw l c) := Lib.hid (by rw [← hw3]; exact ((HM.out.alloc _).alloc _).alloc _)
  have HB3 : Hid (But bm bw w w3) := Lib.hid (by rw [← hw3]; exact (((But.refl _ _ _).alloc _).alloc _).alloc _)
  have hs3 : w3.heap.size = w.heap.size + 1 + 1 + 1 := by rw [← hw3]; simp
  have hb3 : RowBlk 48 w3 (w.heap.size + 1 + 1) [.int .i64 0, .int .u64 0, .slice none 0 0] := by
    rw [← hw3]
    have := RowBlk.new ((w.alloc (.cells #[.int .i64 (i : Int), .int .u64 (o : Int), .int .u64 (y : Int)] 174)).alloc (.cells #[.iface 89 (.pointer (some ⟨bm, 0, none⟩)), .int .i64 tick] 105)) [.int .i64 0, .int .u64 0, .slice none 0 0] 48
    simpa using this
  clear hw3
  refine (swap_miss bm bw i x o y l c w3 HM3.out HI.out hn hc ho).mono ?_
  rintro e w4 ⟨rfl, hM4, hB4⟩
  have hk4 : RowBlk 48 w4 (w.heap.size + 1 + 1) [.int .i64 0, .int .u64 0, .slice none 0 0] := hb3.same (hB4.block _ (by omega) (by omega) (by omega))
  have HX := Lib.hid (answer_store (.int .i64 0) (.int .u64 0) (.slice none 0 0) hk4 hM4 (HB3.out.trans hB4) (by omega) (by omega) (by omega))
  have k0 := hk4.cell (i := 0) rfl
  have k1 := hk4.cell (i := 1) rfl
  have k2 := hk4.cell (i := 2) rfl
  have f0 : w4.frozen? ⟨w.heap.size + 1 + 1, 0, none⟩ = false := hk4.free
  have f1 : w4.frozen? ⟨w.heap.size + 1 + 1, 1, none⟩ = false := hk4.free
  have f2 : w4.frozen? ⟨w.heap.size + 1 + 1, 2, none⟩ = false := hk4.free
  clear hM4 hB4 hb3 hk4
  go_wp2
  generalize ((w4.setCell ⟨w.heap.size + 1 + 1, 0, none⟩ (.int .i64 0)).setCell ⟨w.heap.size + 1 + 1, 1, none⟩ (.int .u64 0)).setCell ⟨w.heap.size + 1 + 1, 2, none⟩ (.slice none 0 0) = w5 at HX ⊢
  have q0 := HX.out.1.cell (i := 0) rfl
  have q1 := HX.out.1.cell (i := 1) rfl
  have q2 := HX.out.1.cell (i := 2) rfl
  exact bodyPost_ret (v := .tuple #[.agg #[.int .i64 0, .int .u64 0, .slice none 0 0], .bool true]) (by simp [results, Try.results75, go_sem, q0, q1, q2]) rfl ⟨rfl, HX.out.2.1, HX.out.2.2⟩

set_option maxRecDepth 20000 in
set_option maxHeartbeats 1000000 in
theorem add_step (bm bw i x d : Nat) (tick : Int) (l : List Nat) (c : Cn) (w : World) (hM : MemIs 126 w bm bw l c) (hi : l[i]? = some x) (hn : l.length ≤ 65536) (hc : c.a < 9223372036854775807) :
    Calls Try.prog 76 #[.agg #[.int .i64 (i : Int), .int .u64 (d : Int)], turnAgg bm tick] w (StepEnd 0 x bm bw (l.set i ((x + d) % 18446744073709551616)) { c with a := c.a + 1 } w) := by
  unfold turnAgg
  have HM := Lib.hid hM
  have HI := Lib.hid hi
  have hmm := m_Add ⟨bm, 0, none⟩
  have hbm := hM.lt1
  have hbw := hM.lt2
  clear hM hi
  go_enter Try.func76, Try.ntmps76
  go_wp2_with fail
  generalize hw3 : ((w.alloc (.cells #[.int .i64 (i : Int), .int .u64 (d : Int)] 176)).alloc (.cells #[.iface 89 (.pointer (some ⟨bm, 0, none⟩)), .int .i64 tick] 105)).alloc (.cells #[.int .i64 0, .int .u64 0, .slice none 0 0] 48) = w3
  have HM3 : Hid (MemIs 126 w3 bm bw l c) := Lib.hid (by rw [← hw3]; exact ((HM.out.alloc _).alloc _).alloc _)
  have HB3 : Hid (But bm bw w w3) := Lib.hid (by rw [← hw3]; exact (((But.refl _ _ _).alloc _).alloc _).alloc _)
  have hs3 : w3.heap.size = w.heap.size + 1 + 1 + 1 := by rw [← hw3]; simp
  have hb3 : RowBlk 48 w3 (w.heap.size + 1 + 1) [.int .i64 0, .int .u64 0, .slice none 0 0] := by
    rw [← hw3]
    have := RowBlk.new ((w.alloc (.cells #[.int .i64 (i : Int), .int .u64 (d : Int)] 176)).alloc (.cells #[.iface 89 (.pointer (some ⟨bm, 0, none⟩)), .int .i64 tick] 105)) [.int .i64 0, .int .u64 0, .slice none 0 0] 48
    simpa using this
  clear hw3
  refine (add_ok bm bw i x d l c w3 HM3.out HI.out hn hc).mono ?_
  rintro e w4 ⟨rfl, hM4, hB4⟩
  have hk4 : RowBlk 48 w4 (w.heap.size + 1 + 1) [.int .i64 0, .int .u64 0, .slice none 0 0] := hb3.same (hB4.block _ (by omega) (by omega) (by omega))
  have HX := Lib.hid (answer_store (.int .i64 0) (.int .u64 x) (.slice none 0 0) hk4 hM4 (HB3.out.trans hB4) (by omega) (by omega) (by omega))
  have k0 := hk4.cell (i := 0) rfl
  have k1 := hk4.cell (i := 1) rfl
  have k2 := hk4.cell (i := 2) rfl
  have f0 : w4.frozen? ⟨w.heap.size + 1 + 1, 0, none⟩ = false := hk4.free
  have f1 : w4.frozen? ⟨w.heap.size + 1 + 1, 1, none⟩ = false := hk4.free
  have f2 : w4.frozen? ⟨w.heap.size + 1 + 1, 2, none⟩ = false := hk4.free
  clear hM4 hB4 hb3 hk4
  go_wp2
  generalize ((w4.setCell ⟨w.heap.size + 1 + 1, 0, none⟩ (.int .i64 0)).setCell ⟨w.heap.size + 1 + 1, 1, none⟩ (.int .u64 x)).setCell ⟨w.heap.size + 1 + 1, 2, none⟩ (.slice none 0 0) = w5 at HX ⊢
  have q0 := HX.out.1.cell (i := 0) rfl
  have q1 := HX.out.1.cell (i := 1) rfl
  have q2 := HX.out.1.cell (i := 2) rfl
  exact bodyPost_ret (v := .tuple #[.agg #[.int .i64 0, .int .u64 x, .slice none 0 0], .bool true]) (by simp [results, Try.results76, go_sem, q0, q1, q2]) rfl ⟨rfl, HX.out.2.1, HX.out.2.2⟩
end Go.Proofs.Ytihhjbcphdnkhaa
