/- Walks of loom: Invoke, and the steps of single accesses. -/
import Derived.Test.YtnjpkmenahdhmaaU6
import Derived.Test.YtnjpkmenahdhmaaN4w
namespace Go.Proofs.Ytnjpkmenahdhmaa
open Go.RowKit

def callAgg (x : CallV) : Value := .agg #[.int .i64 x.t, .int .i64 x.o, .int .i64 x.k, .int .u64 x.a, .int .u64 x.b, .int .u64 x.c]

set_option maxHeartbeats 1000000 in
theorem nowhere_any (x : CallV) (w : World) : Calls Try.prog 127 #[.agg #[], callAgg x] w fun e w' => e = .returned (.tuple #[.nilIface, .int .i64 12]) ∧ Below w.heap.size w w' := by
  unfold callAgg
  go_enter Try.func127, Try.ntmps127
  go_wp2
  go_ret2
  exact ⟨rfl, ((Below.refl _ _).alloc (Nat.le_refl _) _).alloc (by simp) _⟩

set_option maxHeartbeats 1000000 in
theorem inv_kind_low (size base : Nat) (x : CallV) (w : World) (hk : x.k < 0) :
    Calls Try.prog 129 #[.agg #[.int .i64 size, .int .i64 base], callAgg x] w fun e w' => e = .returned (.tuple #[.nilIface, .int .i64 9]) ∧ Below w.heap.size w w' := by
  unfold callAgg
  go_enter Try.func129, Try.ntmps129
  go_wp2
  go_ret2
  exact ⟨rfl, ((Below.refl _ _).alloc (Nat.le_refl _) _).alloc (by simp) _⟩

set_option maxHeartbeats 1000000 in
theorem inv_kind_high (size base : Nat) (x : CallV) (w : World) (hk : 3 < x.k) :
    Calls Try.prog 129 #[.agg #[.int .i64 size, .int .i64 base], callAgg x] w fun e w' => e = .returned (.tuple #[.nilIface, .int .i64 9]) ∧ Below w.heap.size w w' := by
  unfold callAgg
  have hk0 : ¬ x.k < 0 := by omega
  go_enter Try.func129, Try.ntmps129
  go_wp2
  go_ret2
  exact ⟨rfl, ((Below.refl _ _).alloc (Nat.le_refl _) _).alloc (by simp) _⟩

set_option maxHeartbeats 1000000 in
theorem inv_range (size base : Nat) (x : CallV) (w : World) (hk : ¬ x.k < 0) (hk2 : ¬ 3 < x.k) (ha : size ≤ x.a) (hs : size ≤ 64) :
    Calls Try.prog 129 #[.agg #[.int .i64 size, .int .i64 base], callAgg x] w fun e w' => e = .returned (.tuple #[.nilIface, .int .i64 10]) ∧ Below w.heap.size w w' := by
  unfold callAgg
  have h2 : (size : Int) % 18446744073709551616 = size := by omega
  have h3 : (size : Int) ≤ (x.a : Int) := by omega
  go_enter Try.func129, Try.ntmps129
  go_wp2
  go_ret2
  exact ⟨rfl, ((Below.refl _ _).alloc (Nat.le_refl _) _).alloc (by simp) _⟩

set_option maxHeartbeats 1000000 in
theorem inv_read (size base : Nat) (x : CallV) (w : World) (hk : x.k = 0) (ha : x.a < size) (hs : size ≤ 64) (hb : base ≤ 65536) :
    Calls Try.prog 129 #[.agg #[.int .i64 size, .int .i64 base], callAgg x] w fun e w' => e = .returned (.tuple #[.iface 217 (.agg #[.int .i64 (base + x.a)]), .int .i64 0]) ∧ Below w.heap.size w w' := by
  unfold callAgg
  rw [hk]
  have h2 : (size : Int) % 18446744073709551616 = size := by omega
  have h3 : (x.a : Int) < (size : Int) := by omega
  have h4 : x.a ≤ 64 := by omega
  go_enter Try.func129, Try.ntmps129
  go_wp2
  go_ret2
  exact ⟨rfl, ((Below.refl _ _).alloc (Nat.le_refl _) _).alloc (by simp) _⟩

set_option maxHeartbeats 1000000 in
theorem inv_write (size base : Nat) (x : CallV) (w : World) (hk : x.k = 1) (ha : x.a < size) (hs : size ≤ 64) (hb : base ≤ 65536) :
    Calls Try.prog 129 #[.agg #[.int .i64 size, .int .i64 base], callAgg x] w fun e w' => e = .returned (.tuple #[.iface 219 (.agg #[.int .i64 (base + x.a), .int .u64 x.b]), .int .i64 0]) ∧ Below w.heap.size w w' := by
  unfold callAgg
  rw [hk]
  have h2 : (size : Int) % 18446744073709551616 = size := by omega
  have h3 : (x.a : Int) < (size : Int) := by omega
  have h4 : x.a ≤ 64 := by omega
  go_enter Try.func129, Try.ntmps129
  go_wp2
  go_ret2
  exact ⟨rfl, ((Below.refl _ _).alloc (Nat.le_refl _) _).alloc (by simp) _⟩

set_option maxHeartbeats 1000000 in
theorem inv_swap (size base : Nat) (x : CallV) (w : World) (hk : x.k = 2) (ha : x.a < size) (hs : size ≤ 64) (hb : base ≤ 65536) :
    Calls Try.prog 129 #[.agg #[.int .i64 size, .int .i64 base], callAgg x] w fun e w' => e = .returned (.tuple #[.iface 221 (.agg #[.int .i64 (base + x.a), .int .u64 x.b, .int .u64 x.c]), .int .i64 0]) ∧ Below w.heap.size w w' := by
  unfold callAgg
  rw [hk]
  have h2 : (size : Int) % 18446744073709551616 = size := by omega
  have h3 : (x.a : Int) < (size : Int) := by omega
  have h4 : x.a ≤ 64 := by omega
  go_enter Try.func129, Try.ntmps129
  go_wp2
  go_ret2
  exact ⟨rfl, ((Below.refl _ _).alloc (Nat.le_refl _) _).alloc (by simp) _⟩

set_option maxHeartbeats 1000000 in
theorem inv_add (size base : Nat) (x : CallV) (w : World) (hk : x.k = 3) (ha : x.a < size) (hs : size ≤ 64) (hb : base ≤ 65536) :
    Calls Try.prog 129 #[.agg #[.int .i64 size, .int .i64 base], callAgg x] w fun e w' => e = .returned (.tuple #[.iface 223 (.agg #[.int .i64 (base + x.a), .int .u64 x.b]), .int .i64 0]) ∧ Below w.heap.size w w' := by
  unfold callAgg
  rw [hk]
  have h2 : (size : Int) % 18446744073709551616 = size := by omega
  have h3 : (x.a : Int) < (size : Int) := by omega
  have h4 : x.a ≤ 64 := by omega
  go_enter Try.func129, Try.ntmps129
  go_wp2
  go_ret2
  exact ⟨rfl, ((Below.refl _ _).alloc (Nat.le_refl _) _).alloc (by simp) _⟩

def turnAgg (bm : Nat) (tick : Int) : Value := .agg #[.iface 114 (.pointer (some ⟨bm, 0, none⟩)), .int .i64 tick]
/-- what a step that responds leaves -/
def StepEnd (err val : Int) (bm bw : Nat) (l : List Nat) (c : Cn) (w : World) (e : Ending) (w' : World) : Prop :=
  e = .returned (.tuple #[.agg #[.int .i64 err, .int .u64 val, .slice none 0 0], .bool true]) ∧ MemIs 158 w' bm bw l c ∧ But bm bw w w'

set_option maxHeartbeats 1000000 in
theorem refusal_step (r : Int) (bm bw : Nat) (tick : Int) (l : List Nat) (c : Cn) (w : World) (hM : MemIs 158 w bm bw l c) :
    Calls Try.prog 126 #[.agg #[.int .i64 r], turnAgg bm tick] w (StepEnd r 0 bm bw l c w) := by
  unfold turnAgg
  have HM := Lib.hid hM
  clear hM
  go_enter Try.func126, Try.ntmps126
  go_wp2
  exact bodyPost_ret (v := .tuple #[.agg #[.int .i64 r, .int .u64 0, .slice none 0 0], .bool true]) (by simp [results, Try.results126, go_sem]) rfl ⟨rfl, ((HM.out.alloc _).alloc _).alloc _, (((But.refl _ _ _).alloc _).alloc _).alloc _⟩

theorem answer_store {w w4 : World} {g bm bw : Nat} {l : List Nat} {c : Cn} {a b d : Value} (a' b' d' : Value) (hk : RowBlk 48 w4 g [a, b, d]) (hM : MemIs 158 w4 bm bw l c) (hB : But bm bw w w4) (hg : w.heap.size ≤ g) (h1 : g ≠ bm) (h2 : g ≠ bw) :
    RowBlk 48 (((w4.setCell ⟨g, 0, none⟩ a').setCell ⟨g, 1, none⟩ b').setCell ⟨g, 2, none⟩ d') g [a', b', d'] ∧ MemIs 158 (((w4.setCell ⟨g, 0, none⟩ a').setCell ⟨g, 1, none⟩ b').setCell ⟨g, 2, none⟩ d') bm bw l c ∧
      But bm bw w (((w4.setCell ⟨g, 0, none⟩ a').setCell ⟨g, 1, none⟩ b').setCell ⟨g, 2, none⟩ d') := by
  refine ⟨((hk.put 0 a').put 1 b').put 2 d', ((hM.setNew _ _ h1 h2).setNew _ _ h1 h2).setNew _ _ h1 h2, ((hB.setNew _ _ hg).setNew _ _ hg).setNew _ _ hg⟩

theorem m_Read (a : Addr) (w : World) : (method 370 114 (.pointer (some a)) "Read").run Try.prog w = .ok (173, .pointer (some a)) w := by kernel_rfl
theorem m_Write (a : Addr) (w : World) : (method 370 114 (.pointer (some a)) "Write").run Try.prog w = .ok (175, .pointer (some a)) w := by kernel_rfl
theorem m_Swap (a : Addr) (w : World) : (method 370 114 (.pointer (some a)) "Swap").run Try.prog w = .ok (174, .pointer (some a)) w := by kernel_rfl
theorem m_Add (a : Addr) (w : World) : (method 370 114 (.pointer (some a)) "Add").run Try.prog w = .ok (172, .pointer (some a)) w := by kernel_rfl

set_option maxRecDepth 20000 in
set_option maxHeartbeats 1000000 in
theorem read_step (bm bw i x : Nat) (tick : Int) (l : List Nat) (c : Cn) (w : World) (hM : MemIs 158 w bm bw l c) (hi : l[i]? = some x) (hn : l.length ≤ 65536) (hc : c.r < 9223372036854775807) :
    Calls Try.prog 138 #[.agg #[.int .i64 (i : Int)], turnAgg bm tick] w (StepEnd 0 x bm bw l { c with r := c.r + 1 } w) := by
  unfold turnAgg
  have HM := Lib.hid hM
  have HI := Lib.hid hi
  have hmm := m_Read ⟨bm, 0, none⟩
  have hbm := hM.lt1
  have hbw := hM.lt2
  clear hM hi
  go_enter Try.func138, Try.ntmps138
  go_wp2_with fail
  generalize hw3 : ((w.alloc (.cells #[.int .i64 (i : Int)] 217)).alloc (.cells #[.iface 114 (.pointer (some ⟨bm, 0, none⟩)), .int .i64 tick] 130)).alloc (.cells #[.int .i64 0, .int .u64 0, .slice none 0 0] 48) = w3
  have HM3 : Hid (MemIs 158 w3 bm bw l c) := Lib.hid (by rw [← hw3]; exact ((HM.out.alloc _).alloc _).alloc _)
  have HB3 : Hid (But bm bw w w3) := Lib.hid (by rw [← hw3]; exact (((But.refl _ _ _).alloc _).alloc _).alloc _)
  have hs3 : w3.heap.size = w.heap.size + 1 + 1 + 1 := by rw [← hw3]; simp
  have hb3 : RowBlk 48 w3 (w.heap.size + 1 + 1) [.int .i64 0, .int .u64 0, .slice none 0 0] := by
    rw [← hw3]
    have := RowBlk.new ((w.alloc (.cells #[.int .i64 (i : Int)] 217)).alloc (.cells #[.iface 114 (.pointer (some ⟨bm, 0, none⟩)), .int .i64 tick] 130)) [.int .i64 0, .int .u64 0, .slice none 0 0] 48
    simpa using this
  clear hw3
  refine (read_ok bm bw i x l c w3 HM3.out HI.out hn hc).mono ?_
  rintro e w4 ⟨rfl, hM4, hB4⟩
  have hk4 : RowBlk 48 w4 (w.heap.size + 1 + 1) [.int .i64 0, .int .u64 0, .slice none 0 0] := hb3.same (hB4.block _ (by omega) (by omega) (by omega))
  have HX := Lib.hid (answer_store (.int .i64 0) (.int .u64 x) (.slice none 0 0) hk4 hM4 (HB3.out.trans hB4) (by omega) (by omega) (by omega))
  have k0 := hk4.cell (i := 0) rfl
  have k1 := hk4.cell (i := 1) rfl
  have k2 := hk4.cell (i := 2) rfl
  have f0 : w4.frozen? ⟨w.heap.size + 1 + 1, 0, none⟩ = false := hk4.free
  have f1 : w4.frozen? ⟨w.heap.size + 1 + 1, 1, none⟩ = false := hk4.free
  have f2 : w4.frozen? ⟨w.heap.size + 1 + 1, 2, none⟩ = false := hk4.free
  clear hM4 hB4 hb3 hk4
  go_wp2
  generalize ((w4.setCell ⟨w.heap.size + 1 + 1, 0, none⟩ (.int .i64 0)).setCell ⟨w.heap.size + 1 + 1, 1, none⟩ (.int .u64 x)).setCell ⟨w.heap.size + 1 + 1, 2, none⟩ (.slice none 0 0) = w5 at HX ⊢
  have q0 := HX.out.1.cell (i := 0) rfl
  have q1 := HX.out.1.cell (i := 1) rfl
  have q2 := HX.out.1.cell (i := 2) rfl
  exact bodyPost_ret (v := .tuple #[.agg #[.int .i64 0, .int .u64 x, .slice none 0 0], .bool true]) (by simp [results, Try.results138, go_sem, q0, q1, q2]) rfl ⟨rfl, HX.out.2.1, HX.out.2.2⟩

set_option maxRecDepth 20000 in
set_option maxHeartbeats 1000000 in
theorem write_step (bm bw i x y : Nat) (tick : Int) (l : List Nat) (c : Cn) (w : World) (hM : MemIs 158 w bm bw l c) (hi : l[i]? = some x) (hn : l.length ≤ 65536) (hc : c.w < 9223372036854775807) :
    Calls Try.prog 139 #[.agg #[.int .i64 (i : Int), .int .u64 (y : Int)], turnAgg bm tick] w (StepEnd 0 0 bm bw (l.set i y) { c with w := c.w + 1 } w) := by
  unfold turnAgg
  have HM := Lib.hid hM
  have HI := Lib.hid hi
  have hmm := m_Write ⟨bm, 0, none⟩
  have hbm := hM.lt1
  have hbw := hM.lt2
  clear hM hi
  go_enter Try.func139, Try.ntmps139
  go_wp2_with fail
  generalize hw3 : ((w.alloc (.cells #[.int .i64 (i : Int), .int .u64 (y : Int)] 219)).alloc (.cells #[.iface 114 (.pointer (some ⟨bm, 0, none⟩)), .int .i64 tick] 130)).alloc (.cells #[.int .i64 0, .int .u64 0, .slice none 0 0] 48) = w3
  have HM3 : Hid (MemIs 158 w3 bm bw l c) := Lib.hid (by rw [← hw3]; exact ((HM.out.alloc _).alloc _).alloc _)
  have HB3 : Hid (But bm bw w w3) := Lib.hid (by rw [← hw3]; exact (((But.refl _ _ _).alloc _).alloc _).alloc _)
  have hs3 : w3.heap.size = w.heap.size + 1 + 1 + 1 := by rw [← hw3]; simp
  have hb3 : RowBlk 48 w3 (w.heap.size + 1 + 1) [.int .i64 0, .int .u64 0, .slice none 0 0] := by
    rw [← hw3]
    have := RowBlk.new ((w.alloc (.cells #[.int .i64 (i : Int), .int .u64 (y : Int)] 219)).alloc (.cells #[.iface 114 (.pointer (some ⟨bm, 0, none⟩)), .int .i64 tick] 130)) [.int .i64 0, .int .u64 0, .slice none 0 0] 48
    simpa using this
  clear hw3
  refine (write_ok bm bw i x y l c w3 HM3.out HI.out hn hc).mono ?_
  rintro e w4 ⟨rfl, hM4, hB4⟩
  have hk4 : RowBlk 48 w4 (w.heap.size + 1 + 1) [.int .i64 0, .int .u64 0, .slice none 0 0] := hb3.same (hB4.block _ (by omega) (by omega) (by omega))
  have HX := Lib.hid (answer_store (.int .i64 0) (.int .u64 0) (.slice none 0 0) hk4 hM4 (HB3.out.trans hB4) (by omega) (by omega) (by omega))
  have k0 := hk4.cell (i := 0) rfl
  have k1 := hk4.cell (i := 1) rfl
  have k2 := hk4.cell (i := 2) rfl
  have f0 : w4.frozen? ⟨w.heap.size + 1 + 1, 0, none⟩ = false := hk4.free
  have f1 : w4.frozen? ⟨w.heap.size + 1 + 1, 1, none⟩ = false := hk4.free
  have f2 : w4.frozen? ⟨w.heap.size + 1 + 1, 2, none⟩ = false := hk4.free
  clear hM4 hB4 hb3 hk4
  go_wp2
  generalize ((w4.setCell ⟨w.heap.size + 1 + 1, 0, none⟩ (.int .i64 0)).setCell ⟨w.heap.size + 1 + 1, 1, none⟩ (.int .u64 0)).setCell ⟨w.heap.size + 1 + 1, 2, none⟩ (.slice none 0 0) = w5 at HX ⊢
  have q0 := HX.out.1.cell (i := 0) rfl
  have q1 := HX.out.1.cell (i := 1) rfl
  have q2 := HX.out.1.cell (i := 2) rfl
  exact bodyPost_ret (v := .tuple #[.agg #[.int .i64 0, .int .u64 0, .slice none 0 0], .bool true]) (by simp [results, Try.results139, go_sem, q0, q1, q2]) rfl ⟨rfl, HX.out.2.1, HX.out.2.2⟩

set_option maxRecDepth 20000 in
set_option maxHeartbeats 1000000 in
theorem swapHit_step (bm bw i x y : Nat) (tick : Int) (l : List Nat) (c : Cn) (w : World) (hM : MemIs 158 w bm bw l c) (hi : l[i]? = some x) (hn : l.length ≤ 65536) (hc : c.s < 9223372036854775807) :
    Calls Try.prog 140 #[.agg #[.int .i64 (i : Int), .int .u64 (x : Int), .int .u64 (y : Int)], turnAgg bm tick] w (StepEnd 0 1 bm bw (l.set i y) { c with s := c.s + 1 } w) := by
  unfold turnAgg
  have HM := Lib.hid hM
  have HI := Lib.hid hi
  have hmm := m_Swap ⟨bm, 0, none⟩
  have hbm := hM.lt1
  have hbw := hM.lt2
  clear hM hi
  go_enter Try.func140, Try.ntmps140
  go_wp2_with fail
  generalize hw3 : ((w.alloc (.cells #[.int .i64 (i : Int), .int .u64 (x : Int), .int .u64 (y : Int)] 221)).alloc (.cells #[.iface 114 (.pointer (some ⟨bm, 0, none⟩)), .int .i64 tick] 130)).alloc (.cells #[.int .i64 0, .int .u64 0, .slice none 0 0] 48) = w3
  have HM3 : Hid (MemIs 158 w3 bm bw l c) := Lib.hid (by rw [← hw3]; exact ((HM.out.alloc _).alloc _).alloc _)
  have HB3 : Hid (But bm bw w w3) := Lib.hid (by rw [← hw3]; exact (((But.refl _ _ _).alloc _).alloc _).alloc _)
  have hs3 : w3.heap.size = w.heap.size + 1 + 1 + 1 := by rw [← hw3]; simp
  have hb3 : RowBlk 48 w3 (w.heap.size + 1 + 1) [.int .i64 0, .int .u64 0, .slice none 0 0] := by
    rw [← hw3]
    have := RowBlk.new ((w.alloc (.cells #[.int .i64 (i : Int), .int .u64 (x : Int), .int .u64 (y : Int)] 221)).alloc (.cells #[.iface 114 (.pointer (some ⟨bm, 0, none⟩)), .int .i64 tick] 130)) [.int .i64 0, .int .u64 0, .slice none 0 0] 48
    simpa using this
  clear hw3
  refine (swap_hit bm bw i x y l c w3 HM3.out HI.out hn hc).mono ?_
  rintro e w4 ⟨rfl, hM4, hB4⟩
  have hk4 : RowBlk 48 w4 (w.heap.size + 1 + 1) [.int .i64 0, .int .u64 0, .slice none 0 0] := hb3.same (hB4.block _ (by omega) (by omega) (by omega))
  have HX := Lib.hid (answer_store (.int .i64 0) (.int .u64 1) (.slice none 0 0) hk4 hM4 (HB3.out.trans hB4) (by omega) (by omega) (by omega))
  have k0 := hk4.cell (i := 0) rfl
  have k1 := hk4.cell (i := 1) rfl
  have k2 := hk4.cell (i := 2) rfl
  have f0 : w4.frozen? ⟨w.heap.size + 1 + 1, 0, none⟩ = false := hk4.free
  have f1 : w4.frozen? ⟨w.heap.size + 1 + 1, 1, none⟩ = false := hk4.free
  have f2 : w4.frozen? ⟨w.heap.size + 1 + 1, 2, none⟩ = false := hk4.free
  clear hM4 hB4 hb3 hk4
  go_wp2
  generalize ((w4.setCell ⟨w.heap.size + 1 + 1, 0, none⟩ (.int .i64 0)).setCell ⟨w.heap.size + 1 + 1, 1, none⟩ (.int .u64 1)).setCell ⟨w.heap.size + 1 + 1, 2, none⟩ (.slice none 0 0) = w5 at HX ⊢
  have q0 := HX.out.1.cell (i := 0) rfl
  have q1 := HX.out.1.cell (i := 1) rfl
  have q2 := HX.out.1.cell (i := 2) rfl
  exact bodyPost_ret (v := .tuple #[.agg #[.int .i64 0, .int .u64 1, .slice none 0 0], .bool true]) (by simp [results, Try.results140, go_sem, q0, q1, q2]) rfl ⟨rfl, HX.out.2.1, HX.out.2.2⟩

set_option maxRecDepth 20000 in
set_option maxHeartbeats 1000000 in
theorem swapMiss_step (bm bw i x o y : Nat) (tick : Int) (l : List Nat) (c : Cn) (w : World) (hM : MemIs 158 w bm bw l c) (hi : l[i]? = some x) (hn : l.length ≤ 65536) (hc : c.s < 9223372036854775807) (ho : x ≠ o) :
    Calls Try.prog 140 #[.agg #[.int .i64 (i : Int), .int .u64 (o : Int), .int .u64 (y : Int)], turnAgg bm tick] w (StepEnd 0 0 bm bw l { c with s := c.s + 1 } w) := by
  unfold turnAgg
  have HM := Lib.hid hM
  have HI := Lib.hid hi
  have hmm := m_Swap ⟨bm, 0, none⟩
  have hbm := hM.lt1
  have hbw := hM.lt2
  clear hM hi
  go_enter Try.func140, Try.ntmps140
  go_wp2_with fail
  generalize hw3 : ((w.alloc (.cells #[.int .i64 (i : Int), .int .u64 (o : Int), .int .u64 (y : Int)] 221)).alloc (.cells #[.iface 114 (.pointer (some ⟨bm, 0, none⟩)), .int .i64 tick] 130)).alloc (.cells #[.int .i64 0, .int .u64 0, .slice none 0 0] 48) = w3
  have HM3 : Hid (MemIs 158 w3 bm bw l c) := Lib.hid (by rw [← hw3]; exact ((HM.out.alloc _).alloc _).alloc _)
  have HB3 : Hid (But bm bw w w3) := Lib.hid (by rw [← hw3]; exact (((But.refl _ _ _).alloc _).alloc _).alloc _)
  have hs3 : w3.heap.size = w.heap.size + 1 + 1 + 1 := by rw [← hw3]; simp
  have hb3 : RowBlk 48 w3 (w.heap.size + 1 + 1) [.int .i64 0, .int .u64 0, .slice none 0 0] := by
    rw [← hw3]
    have := RowBlk.new ((w.alloc (.cells #[.int .i64 (i : Int), .int .u64 (o : Int), .int .u64 (y : Int)] 221)).alloc (.cells #[.iface 114 (.pointer (some ⟨bm, 0, none⟩)), .int .i64 tick] 130)) [.int .i64 0, .int .u64 0, .slice none 0 0] 48
    simpa using this
  clear hw3
  refine (swap_miss bm bw i x o y l c w3 HM3.out HI.out hn hc ho).mono ?_
  rintro e w4 ⟨rfl, hM4, hB4⟩
  have hk4 : RowBlk 48 w4 (w.heap.size + 1 + 1) [.int .i64 0, .int .u64 0, .slice none 0 0] := hb3.same (hB4.block _ (by omega) (by omega) (by omega))
  have HX := Lib.hid (answer_store (.int .i64 0) (.int .u64 0) (.slice none 0 0) hk4 hM4 (HB3.out.trans hB4) (by omega) (by omega) (by omega))
  have k0 := hk4.cell (i := 0) rfl
  have k1 := hk4.cell (i := 1) rfl
  have k2 := hk4.cell (i := 2) rfl
  have f0 : w4.frozen? ⟨w.heap.size + 1 + 1, 0, none⟩ = false := hk4.free
  have f1 : w4.frozen? ⟨w.heap.size + 1 + 1, 1, none⟩ = false := hk4.free
  have f2 : w4.frozen? ⟨w.heap.size + 1 + 1, 2, none⟩ = false := hk4.free
  clear hM4 hB4 hb3 hk4
  go_wp2
  generalize ((w4.setCell ⟨w.heap.size + 1 + 1, 0, none⟩ (.int .i64 0)).setCell ⟨w.heap.size + 1 + 1, 1, none⟩ (.int .u64 0)).setCell ⟨w.heap.size + 1 + 1, 2, none⟩ (.slice none 0 0) = w5 at HX ⊢
  have q0 := HX.out.1.cell (i := 0) rfl
  have q1 := HX.out.1.cell (i := 1) rfl
  have q2 := HX.out.1.cell (i := 2) rfl
  exact bodyPost_ret (v := .tuple #[.agg #[.int .i64 0, .int .u64 0, .slice none 0 0], .bool true]) (by simp [results, Try.results140, go_sem, q0, q1, q2]) rfl ⟨rfl, HX.out.2.1, HX.out.2.2⟩

set_option maxRecDepth 20000 in
set_option maxHeartbeats 1000000 in
theorem add_step (bm bw i x d : Nat) (tick : Int) (l : List Nat) (c : Cn) (w : World) (hM : MemIs 158 w bm bw l c) (hi : l[i]? = some x) (hn : l.length ≤ 65536) (hc : c.a < 9223372036854775807) :
    Calls Try.prog 141 #[.agg #[.int .i64 (i : Int), .int .u64 (d : Int)], turnAgg bm tick] w (StepEnd 0 x bm bw (l.set i ((x + d) % 18446744073709551616)) { c with a := c.a + 1 } w) := by
  unfold turnAgg
  have HM := Lib.hid hM
  have HI := Lib.hid hi
  have hmm := m_Add ⟨bm, 0, none⟩
  have hbm := hM.lt1
  have hbw := hM.lt2
  clear hM hi
  go_enter Try.func141, Try.ntmps141
  go_wp2_with fail
  generalize hw3 : ((w.alloc (.cells #[.int .i64 (i : Int), .int .u64 (d : Int)] 223)).alloc (.cells #[.iface 114 (.pointer (some ⟨bm, 0, none⟩)), .int .i64 tick] 130)).alloc (.cells #[.int .i64 0, .int .u64 0, .slice none 0 0] 48) = w3
  have HM3 : Hid (MemIs 158 w3 bm bw l c) := Lib.hid (by rw [← hw3]; exact ((HM.out.alloc _).alloc _).alloc _)
  have HB3 : Hid (But bm bw w w3) := Lib.hid (by rw [← hw3]; exact (((But.refl _ _ _).alloc _).alloc _).alloc _)
  have hs3 : w3.heap.size = w.heap.size + 1 + 1 + 1 := by rw [← hw3]; simp
  have hb3 : RowBlk 48 w3 (w.heap.size + 1 + 1) [.int .i64 0, .int .u64 0, .slice none 0 0] := by
    rw [← hw3]
    have := RowBlk.new ((w.alloc (.cells #[.int .i64 (i : Int), .int .u64 (d : Int)] 223)).alloc (.cells #[.iface 114 (.pointer (some ⟨bm, 0, none⟩)), .int .i64 tick] 130)) [.int .i64 0, .int .u64 0, .slice none 0 0] 48
    simpa using this
  clear hw3
  refine (add_ok bm bw i x d l c w3 HM3.out HI.out hn hc).mono ?_
  rintro e w4 ⟨rfl, hM4, hB4⟩
  have hk4 : RowBlk 48 w4 (w.heap.size + 1 + 1) [.int .i64 0, .int .u64 0, .slice none 0 0] := hb3.same (hB4.block _ (by omega) (by omega) (by omega))
  have HX := Lib.hid (answer_store (.int .i64 0) (.int .u64 x) (.slice none 0 0) hk4 hM4 (HB3.out.trans hB4) (by omega) (by omega) (by omega))
  have k0 := hk4.cell (i := 0) rfl
  have k1 := hk4.cell (i := 1) rfl
  have k2 := hk4.cell (i := 2) rfl
  have f0 : w4.frozen? ⟨w.heap.size + 1 + 1, 0, none⟩ = false := hk4.free
  have f1 : w4.frozen? ⟨w.heap.size + 1 + 1, 1, none⟩ = false := hk4.free
  have f2 : w4.frozen? ⟨w.heap.size + 1 + 1, 2, none⟩ = false := hk4.free
  clear hM4 hB4 hb3 hk4
  go_wp2
  generalize ((w4.setCell ⟨w.heap.size + 1 + 1, 0, none⟩ (.int .i64 0)).setCell ⟨w.heap.size + 1 + 1, 1, none⟩ (.int .u64 x)).setCell ⟨w.heap.size + 1 + 1, 2, none⟩ (.slice none 0 0) = w5 at HX ⊢
  have q0 := HX.out.1.cell (i := 0) rfl
  have q1 := HX.out.1.cell (i := 1) rfl
  have q2 := HX.out.1.cell (i := 2) rfl
  exact bodyPost_ret (v := .tuple #[.agg #[.int .i64 0, .int .u64 x, .slice none 0 0], .bool true]) (by simp [results, Try.results141, go_sem, q0, q1, q2]) rfl ⟨rfl, HX.out.2.1, HX.out.2.2⟩
end Go.Proofs.Ytnjpkmenahdhmaa
