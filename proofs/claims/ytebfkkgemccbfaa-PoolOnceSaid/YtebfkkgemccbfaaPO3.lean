/- Walks of pool: marks, looking, marking, a release's step, Invoke. -/
import Derived.Test.YtebfkkgemccbfaaPO1
import Derived.Test.YtebfkkgemccbfaaOA
import Derived.Test.YtebfkkgemccbfaaK7
namespace Go.Proofs.Ytebfkkgemccbfaa
open Go.ChangeShapes Go.WideShapes Go.ChangeAt Go.RowKit
set_option linter.unusedVariables false
set_option linter.unusedSimpArgs false
theorem pool_released (v : Nat) (hv : v ≤ 4611686018427387903) (w : World) : Calls Try.prog 156 #[.int .u64 (v : Int)] w fun e w' => e = .returned (.int .u64 ((2 * v : Nat) : Int)) ∧ w = w' := by
  go_enter Try.func156, Try.ntmps156
  go_wp2
  go_ret
  exact ⟨ret_int (by omega), rfl⟩
theorem pool_allocated (v : Nat) (hv : v ≤ 4611686018427387903) (w : World) : Calls Try.prog 155 #[.int .u64 (v : Int)] w fun e w' => e = .returned (.int .u64 ((2 * v + 1 : Nat) : Int)) ∧ w = w' := by
  go_enter Try.func155, Try.ntmps155
  go_wp2_with fail
  refine (pool_released v hv _).mono ?_
  rintro e w1 ⟨rfl, rfl⟩
  go_wp2
  go_ret
  exact ⟨ret_int (by omega), rfl⟩
theorem pool_markAt (k m : Nat) (a pl : Nat) (h : pl = a + 2) (ha : a ≤ 65536) (w : World) : Calls Try.prog 119 #[.agg #[.int .i64 (k : Int), .int .i64 (m : Int), .int .i64 0], .int .i64 (pl : Int)] w fun e w' => e = .returned (.int .i64 (a : Int)) ∧ Below w.heap.size w w' := by
  have h1 : (0 : Int) + (pl : Int) - 2 = (a : Int) := by omega
  go_enter Try.func119, Try.ntmps119
  go_wp2
  go_ret
  exact ⟨ret_int (by omega), (Below.refl _ _).alloc (Nat.le_refl _) _⟩
/-- an allocation as it lies in memory -/
def AlcVs (k m pl E : Nat) (found : Bool) (free : Nat) (marked : Bool) (ver : Nat) : List Value := [.int .i64 (k : Int), .int .i64 (m : Int), .int .i64 0, .int .i64 (pl : Int), .int .i64 (E : Int), .bool found, .int .u64 (free : Int), .bool marked, .int .u64 (ver : Int)]
def PoolLooked (g bm bw : Nat) (vs : List Value) (l : List Nat) (c : Cn) (w : World) (en : Ending) (w' : World) : Prop := en = .returned (.tuple #[]) ∧ MemIs 133 w' bm bw l c ∧ ButS (fun b => b = bm ∨ b = bw ∨ b = g) w w' ∧ RowBlk 214 w' g vs
set_option maxRecDepth 100000 in
set_option maxHeartbeats 1000000 in
theorem pool_lookF (k m pl E f0 g bm bw a : Nat) (l : List Nat) (c : Cn) (t : Nat) (w : World) (hM : MemIs 133 w bm bw l c) (hg : RowBlk 214 w g (AlcVs k m pl E false f0 false 0)) (ha : a < l.length) (hl : l.length ≤ 65536) (hc : c.r < 9223372036854775807) (hpl : pl ≤ 65536) (hx : l.getD a 0 ≤ 9223372036854775807) (vs1 : List Value) (hvs : vs1 = if l.getD a 0 % 2 = 0 then AlcVs k m pl E true (l.getD a 0) false 0 else AlcVs k m (pl + 1) E false (l.getD a 0) false 0) :
    Calls Try.prog 153 #[.pointer (some ⟨g, 0, none⟩), turnAgg bm (t : Int), .int .i64 (a : Int)] w (PoolLooked g bm bw vs1 l { c with r := c.r + 1 } w) := by
  have hgm : g ≠ bm := by intro e; have h1 := hg; have h2 := hM.1; unfold RowBlk at h1; rw [e, h2] at h1; simp at h1
  have hgw : g ≠ bw := by intro e; have h1 := hg; have h2 := hM.2.1; unfold RowBlk at h1; rw [e, h2] at h1; simp at h1
  obtain ⟨x, hxe⟩ : ∃ x, l.getD a 0 = x := ⟨_, rfl⟩
  have HSW : Hid (∀ W : World, MemIs 133 W bm bw l c → Calls Try.prog 162 #[.pointer (some ⟨bm, 0, none⟩), .int .i64 (a : Int)] W (AccPost (.int .u64 (x : Int)) (.rd a) bm bw l c W)) := Lib.hid (fun W hW => by rw [← hxe]; exact rd_acc (i := a) hW ha hl hc)
  rw [hxe] at hx hvs
  clear hxe
  unfold turnAgg AlcVs at *
  have HVS := Lib.hid hvs
  clear hvs
  have HM := Lib.hid hM
  have HG := Lib.hid hg
  have hmm := m_Read ⟨bm, 0, none⟩
  have hbm := hM.lt1
  have hbw := hM.lt2
  have hgl := hg.lt
  clear hM hg
  go_enter Try.func153, Try.ntmps153
  go_wp2_with fail
  have HMa : Hid (MemIs 133 (w.alloc (.cells #[.iface 91 (.pointer (some ⟨bm, 0, none⟩)), .int .i64 (t : Int)] 107)) bm bw l c) := Lib.hid (HM.out.alloc _)
  have HGa : Hid (RowBlk 214 (w.alloc (.cells #[.iface 91 (.pointer (some ⟨bm, 0, none⟩)), .int .i64 (t : Int)] 107)) g [.int .i64 (k : Int), .int .i64 (m : Int), .int .i64 0, .int .i64 (pl : Int), .int .i64 (E : Int), .bool false, .int .u64 (f0 : Int), .bool false, .int .u64 ((0 : Nat) : Int)]) := Lib.hid (HG.out.alloc _)
  have HBa : Hid (ButS (fun b => b = bm ∨ b = bw ∨ b = g) w (w.alloc (.cells #[.iface 91 (.pointer (some ⟨bm, 0, none⟩)), .int .i64 (t : Int)] 107))) := Lib.hid ((ButS.refl _ _).alloc _)
  generalize (w.alloc (.cells #[.iface 91 (.pointer (some ⟨bm, 0, none⟩)), .int .i64 (t : Int)] 107)) = wa at HMa HGa HBa ⊢
  refine (HSW.out _ HMa.out).mono ?_
  rintro e w4 ⟨rfl, hM4, hB4⟩
  have hG4 := RowBlk.same HGa.out (hB4.block g HGa.out.lt hgm hgw)
  have fz : ∀ j, w4.frozen? ⟨g, j, none⟩ = false := fun j => hG4.free
  have e3 : w4.cell? ⟨g, 3, none⟩ = some (.int .i64 (pl : Int)) := hG4.cell rfl
  have e5 : w4.cell? ⟨g, 5, none⟩ = some (.bool false) := hG4.cell rfl
  have e6 : w4.cell? ⟨g, 6, none⟩ = some (.int .u64 (f0 : Int)) := hG4.cell rfl
  by_cases h2 : x % 2 = 0
  · have i1 : (x : Int) % 2 = 0 := by omega
    have hvs : vs1 = _ := HVS.out.trans (if_pos h2)
    have HV1 := Lib.hid hvs
    clear hvs
    have HX : Hid (MemIs 133 ((w4.setCell ⟨g, 6, none⟩ (.int .u64 (x : Int))).setCell ⟨g, 5, none⟩ (.bool true)) bm bw l { c with r := c.r + 1 } ∧ ButS (fun b => b = bm ∨ b = bw ∨ b = g) w ((w4.setCell ⟨g, 6, none⟩ (.int .u64 (x : Int))).setCell ⟨g, 5, none⟩ (.bool true)) ∧ RowBlk 214 ((w4.setCell ⟨g, 6, none⟩ (.int .u64 (x : Int))).setCell ⟨g, 5, none⟩ (.bool true)) g [.int .i64 (k : Int), .int .i64 (m : Int), .int .i64 0, .int .i64 (pl : Int), .int .i64 (E : Int), .bool true, .int .u64 (x : Int), .bool false, .int .u64 ((0 : Nat) : Int)]) := Lib.hid
      ⟨(hM4.setNew _ _ hgm hgw).setNew _ _ hgm hgw, ((HBa.out.trans (ButS.of_but hB4 (.inl rfl) (.inr (.inl rfl)))).setCell (.inl (.inr (.inr rfl))) _).setCell (.inl (.inr (.inr rfl))) _, (hG4.put 6 _).put 5 _⟩
    clear hM4 hB4 hG4 h2
    go_wp2_with fail
    first
      | go_end0
      | (refine bodyPost_ret (results_none rfl _ _ _) rfl ?_)
    exact ⟨rfl, HX.out.1, HX.out.2.1, by rw [HV1.out]; exact HX.out.2.2⟩
  · have i1 : (x : Int) % 2 = 1 := by omega
    have hvs : vs1 = _ := HVS.out.trans (if_neg h2)
    have HV1 := Lib.hid hvs
    clear hvs
    have e4 : ((pl : Int) + 1) = ((pl + 1 : Nat) : Int) := by omega
    have HX : Hid (MemIs 133 (((w4.setCell ⟨g, 6, none⟩ (.int .u64 (x : Int))).setCell ⟨g, 5, none⟩ (.bool false)).setCell ⟨g, 3, none⟩ (.int .i64 ((pl : Int) + 1))) bm bw l { c with r := c.r + 1 } ∧ ButS (fun b => b = bm ∨ b = bw ∨ b = g) w (((w4.setCell ⟨g, 6, none⟩ (.int .u64 (x : Int))).setCell ⟨g, 5, none⟩ (.bool false)).setCell ⟨g, 3, none⟩ (.int .i64 ((pl : Int) + 1))) ∧ RowBlk 214 (((w4.setCell ⟨g, 6, none⟩ (.int .u64 (x : Int))).setCell ⟨g, 5, none⟩ (.bool false)).setCell ⟨g, 3, none⟩ (.int .i64 ((pl : Int) + 1))) g [.int .i64 (k : Int), .int .i64 (m : Int), .int .i64 0, .int .i64 ((pl + 1 : Nat) : Int), .int .i64 (E : Int), .bool false, .int .u64 (x : Int), .bool false, .int .u64 ((0 : Nat) : Int)]) := Lib.hid
      ⟨((hM4.setNew _ _ hgm hgw).setNew _ _ hgm hgw).setNew _ _ hgm hgw, (((HBa.out.trans (ButS.of_but hB4 (.inl rfl) (.inr (.inl rfl)))).setCell (.inl (.inr (.inr rfl))) _).setCell (.inl (.inr (.inr rfl))) _).setCell (.inl (.inr (.inr rfl))) _, by rw [e4]; exact ((hG4.put 6 _).put 5 _).put 3 _⟩
    clear hM4 hB4 hG4 h2 e4
    go_wp2_with fail
    first
      | go_end0
      | (refine bodyPost_ret (results_none rfl _ _ _) rfl ?_)
    exact ⟨rfl, HX.out.1, HX.out.2.1, by rw [HV1.out]; exact HX.out.2.2⟩
set_option maxRecDepth 100000 in
set_option maxHeartbeats 2000000 in
theorem pool_markF (k m pl E x g bm bw a : Nat) (l : List Nat) (c : Cn) (t : Nat) (w : World) (hM : MemIs 133 w bm bw l c) (hg : RowBlk 214 w g (AlcVs k m pl E true x false 0)) (ha : a < l.length) (hl : l.length ≤ 65536) (hc : c.w < 9223372036854775807) (hx : x ≤ 4611686018427387903) (hx2 : x % 2 = 0) :
    Calls Try.prog 154 #[.pointer (some ⟨g, 0, none⟩), turnAgg bm (t : Int), .int .i64 (a : Int)] w (PoolLooked g bm bw (AlcVs k m pl E true x true (x / 2 + 1)) (l.set a (x + 3)) { c with w := c.w + 1 } w) := by
  have hgm : g ≠ bm := by intro e; have h1 := hg; have h2 := hM.1; unfold RowBlk at h1; rw [e, h2] at h1; simp at h1
  have hgw : g ≠ bw := by intro e; have h1 := hg; have h2 := hM.2.1; unfold RowBlk at h1; rw [e, h2] at h1; simp at h1
  obtain ⟨v, hv⟩ : ∃ v, x / 2 + 1 = v := ⟨_, rfl⟩
  obtain ⟨y, hy⟩ : ∃ y, 2 * v + 1 = y := ⟨_, rfl⟩
  have hxy : x + 3 = y := by omega
  have hv63 : v ≤ 4611686018427387903 := by omega
  have HSW : Hid (∀ W : World, MemIs 133 W bm bw l c → Calls Try.prog 164 #[.pointer (some ⟨bm, 0, none⟩), .int .i64 (a : Int), .int .u64 (y : Int)] W (AccPost (.tuple #[]) (.wr a y) bm bw l c W)) := Lib.hid (fun W hW => wr_acc (i := a) y hW ha hl hc)
  have HAL : Hid (∀ W : World, Calls Try.prog 155 #[.int .u64 (v : Int)] W fun e w' => e = .returned (.int .u64 (y : Int)) ∧ W = w') := Lib.hid (fun W => by rw [← hy]; exact pool_allocated v hv63 W)
  have hvi : (x : Int) / 2 + 1 = (v : Int) := by omega
  rw [hv, hxy]
  unfold turnAgg AlcVs at *
  have HM := Lib.hid hM
  have HG := Lib.hid hg
  have HVI := Lib.hid hvi
  have hmm := m_Write ⟨bm, 0, none⟩
  have hbm := hM.lt1
  have hbw := hM.lt2
  have hgl := hg.lt
  have c6 : w.cell? ⟨g, 6, none⟩ = some (.int .u64 (x : Int)) := hg.cell rfl
  have c8 : w.cell? ⟨g, 8, none⟩ = some (.int .u64 ((0 : Nat) : Int)) := hg.cell rfl
  have fz0 : ∀ j, w.frozen? ⟨g, j, none⟩ = false := fun j => hg.free
  clear hM hg hv hy hxy hvi
  go_enter Try.func154, Try.ntmps154
  go_wp2_with fail
  rw [HVI.out]
  have HMa : Hid (MemIs 133 ((w.setCell ⟨g, 8, none⟩ (.int .u64 (v : Int))).alloc (.cells #[.iface 91 (.pointer (some ⟨bm, 0, none⟩)), .int .i64 (t : Int)] 107)) bm bw l c) := Lib.hid ((HM.out.setNew _ _ hgm hgw).alloc _)
  have HGa : Hid (RowBlk 214 ((w.setCell ⟨g, 8, none⟩ (.int .u64 (v : Int))).alloc (.cells #[.iface 91 (.pointer (some ⟨bm, 0, none⟩)), .int .i64 (t : Int)] 107)) g [.int .i64 (k : Int), .int .i64 (m : Int), .int .i64 0, .int .i64 (pl : Int), .int .i64 (E : Int), .bool true, .int .u64 (x : Int), .bool false, .int .u64 (v : Int)]) := Lib.hid ((HG.out.put 8 _).alloc _)
  have HTa : Hid (RowBlk 107 ((w.setCell ⟨g, 8, none⟩ (.int .u64 (v : Int))).alloc (.cells #[.iface 91 (.pointer (some ⟨bm, 0, none⟩)), .int .i64 (t : Int)] 107)) w.heap.size [.iface 91 (.pointer (some ⟨bm, 0, none⟩)), .int .i64 (t : Int)]) := Lib.hid (by
    have h := RowBlk.new (w.setCell ⟨g, 8, none⟩ (.int .u64 (v : Int))) [.iface 91 (.pointer (some ⟨bm, 0, none⟩)), .int .i64 (t : Int)] 107
    have e : (w.setCell ⟨g, 8, none⟩ (.int .u64 (v : Int))).heap.size = w.heap.size := by simp [World.setCell]
    rw [e] at h; exact h)
  have HBa : Hid (ButS (fun b => b = bm ∨ b = bw ∨ b = g) w ((w.setCell ⟨g, 8, none⟩ (.int .u64 (v : Int))).alloc (.cells #[.iface 91 (.pointer (some ⟨bm, 0, none⟩)), .int .i64 (t : Int)] 107))) := Lib.hid (((ButS.refl _ _).setCell (.inl (.inr (.inr rfl))) _).alloc _)
  generalize ((w.setCell ⟨g, 8, none⟩ (.int .u64 (v : Int))).alloc (.cells #[.iface 91 (.pointer (some ⟨bm, 0, none⟩)), .int .i64 (t : Int)] 107)) = wa at HMa HGa HTa HBa ⊢
  have d8 : wa.cell? ⟨g, 8, none⟩ = some (.int .u64 (v : Int)) := HGa.out.cell rfl
  have t0 : wa.cell? ⟨w.heap.size, 0, none⟩ = some (.iface 91 (.pointer (some ⟨bm, 0, none⟩))) := HTa.out.cell rfl
  clear c6 c8
  go_region_held3 (fun w' => w'.cell? ⟨g, 8, none⟩ = some (.int .u64 (v : Int)) ∧ w'.cell? ⟨w.heap.size, 0, none⟩ = some (.iface 91 (.pointer (some ⟨bm, 0, none⟩))))
    (first | with_reducible exact ⟨d8, t0⟩ | go_keep)
    (first
      | (go_at_call 155
         refine (HAL.out _).mono ?_
         rintro e w4 ⟨rfl, rfl⟩)
      | (go_at_call 164
         refine (HSW.out _ HMa.out.drew).mono ?_
         rintro e w4 ⟨rfl, hM4, hB4⟩
         have hG4 := RowBlk.same HGa.out.drew (hB4.block g HGa.out.lt hgm hgw)
         have hT4 := RowBlk.same HTa.out.drew (hB4.block w.heap.size HTa.out.lt (by omega) (by omega))
         have d8 : w4.cell? ⟨g, 8, none⟩ = some (.int .u64 (v : Int)) := hG4.cell rfl
         have t0 : w4.cell? ⟨w.heap.size, 0, none⟩ = some (.iface 91 (.pointer (some ⟨bm, 0, none⟩))) := hT4.cell rfl
         have fz : ∀ j, w4.frozen? ⟨g, j, none⟩ = false := fun j => hG4.free
         have HG4 := Lib.hid hG4
         have HM4 := Lib.hid hM4
         have HB4 := Lib.hid hB4
         clear hG4 hT4 hM4 hB4))
  have d7 : w4.cell? ⟨g, 7, none⟩ = some (.bool false) := HG4.out.cell rfl
  have HX : Hid (MemIs 133 (w4.setCell ⟨g, 7, none⟩ (.bool true)) bm bw (l.set a y) { c with w := c.w + 1 } ∧ ButS (fun b => b = bm ∨ b = bw ∨ b = g) w (w4.setCell ⟨g, 7, none⟩ (.bool true)) ∧ RowBlk 214 (w4.setCell ⟨g, 7, none⟩ (.bool true)) g [.int .i64 (k : Int), .int .i64 (m : Int), .int .i64 0, .int .i64 (pl : Int), .int .i64 (E : Int), .bool true, .int .u64 (x : Int), .bool true, .int .u64 (v : Int)]) := Lib.hid
      ⟨HM4.out.setNew _ _ hgm hgw, (HBa.out.drew.trans (ButS.of_but HB4.out (.inl rfl) (.inr (.inl rfl)))).setCell (.inl (.inr (.inr rfl))) _, HG4.out.put 7 _⟩
  go_wp2_with fail
  first
    | go_end0
    | (refine bodyPost_ret (results_none rfl _ _ _) rfl ?_)
  exact ⟨rfl, HX.out⟩
set_option maxRecDepth 100000 in
theorem pool_bad (k m : Nat) (x : CallV) (W : World) (hk : ¬ x.k = 0) (hk1 : ¬ x.k = 1) : Calls Try.prog 118 #[.agg #[.int .i64 (k : Int), .int .i64 (m : Int), .int .i64 0], callAgg x] W fun en w' => en = .returned (.tuple #[.nilIface, .int .i64 9]) ∧ Below W.heap.size W w' := by
  unfold callAgg
  go_enter Try.func118, Try.ntmps118
  go_wp2
  go_ret2
  exact ⟨rfl, ((Below.refl _ _).alloc (Nat.le_refl _) _).alloc (by simp) _⟩
def PoolMade (k m tn : Nat) (W : World) (en : Ending) (w' : World) : Prop := ∃ g, en = .returned (.tuple #[.iface 212 (.pointer (some ⟨g, 0, none⟩)), .int .i64 0]) ∧ RowBlk 214 w' g (AlcVs k m (tn * k + 2) (tn * k + k + 2) false 0 false 0) ∧ W.heap.size ≤ g ∧ Below W.heap.size W w'
set_option maxRecDepth 100000 in
set_option maxHeartbeats 1000000 in
theorem pool_alloc (k m tn : Nat) (x : CallV) (W : World) (hk : x.k = 0) (ht : x.t = (tn : Int)) (htn : tn ≤ 16) (hkk : k ≤ 32) : Calls Try.prog 118 #[.agg #[.int .i64 (k : Int), .int .i64 (m : Int), .int .i64 0], callAgg x] W (PoolMade k m tn W) := by
  have hmul : tn * k ≤ 512 := by
    have := Nat.mul_le_mul htn hkk; omega
  obtain ⟨z, hz⟩ : ∃ z, tn * k = z := ⟨_, rfl⟩
  have hzi : (tn : Int) * (k : Int) = (z : Int) := by rw [← hz]; simp
  have HZ := Lib.hid hz
  rw [hz] at hmul
  have e1 : (2 : Int) + (z : Int) = ((z + 2 : Nat) : Int) := by omega
  have e2 : ((z + 2 : Nat) : Int) + (k : Int) = ((z + k + 2 : Nat) : Int) := by omega
  unfold callAgg
  rw [hk, ht]
  clear hz ht
  go_enter Try.func118, Try.ntmps118
  go_wp2
  go_ret2
  refine ⟨_, rfl, ?_, ?_, ?_⟩
  · unfold AlcVs
    rw [HZ.out, show ((z + 2 : Nat) : Int) = (z : Int) + 2 by omega, show ((z + k + 2 : Nat) : Int) = (z : Int) + 2 + (k : Int) by omega]
    have h := RowBlk.new ((W.alloc (.cells #[.int .i64 (k : Int), .int .i64 (m : Int), .int .i64 0] 185)).alloc (.cells #[.int .i64 (tn : Int), .int .i64 x.o, .int .i64 0, .int .u64 (x.a : Int), .int .u64 (x.b : Int), .int .u64 (x.c : Int)] 43)) [.int .i64 (k : Int), .int .i64 (m : Int), .int .i64 0, .int .i64 ((z : Int) + 2), .int .i64 ((z : Int) + 2 + (k : Int)), .bool false, .int .u64 0, .bool false, .int .u64 0] 214
    have e : ((W.alloc (.cells #[.int .i64 (k : Int), .int .i64 (m : Int), .int .i64 0] 185)).alloc (.cells #[.int .i64 (tn : Int), .int .i64 x.o, .int .i64 0, .int .u64 (x.a : Int), .int .u64 (x.b : Int), .int .u64 (x.c : Int)] 43)).heap.size = W.heap.size + 1 + 1 := by simp
    rw [e] at h; exact h
  · omega
  · exact (((Below.refl _ _).alloc (Nat.le_refl _) _).alloc (by simp) _).alloc (by simp; omega) _
def RelMade (a v : Nat) (W : World) (en : Ending) (w' : World) : Prop := en = .returned (.tuple #[.iface 216 (.agg #[.int .i64 (a : Int), .int .u64 (v : Int)]), .int .i64 0]) ∧ Below W.heap.size W w'
set_option maxRecDepth 100000 in
set_option maxHeartbeats 1000000 in
theorem pool_relRange (k m : Nat) (x : CallV) (W : World) (hk : x.k = 1) (hm : m ≤ 512) (hx : x.a ≤ 18446744073709551615) (hr : x.a % 1024 < 2 ∨ m + 2 ≤ x.a % 1024 ∨ 1099511627776 ≤ x.a / 1024) : Calls Try.prog 118 #[.agg #[.int .i64 (k : Int), .int .i64 (m : Int), .int .i64 0], callAgg x] W fun en w' => en = .returned (.tuple #[.nilIface, .int .i64 10]) ∧ Below W.heap.size W w' := by
  obtain ⟨p, hp⟩ : ∃ p, x.a % 1024 = p := ⟨_, rfl⟩
  obtain ⟨v, hv⟩ : ∃ v, x.a / 1024 = v := ⟨_, rfl⟩
  have hpi : (x.a : Int) % 1024 = (p : Int) := by omega
  have hvi : (x.a : Int) / 1024 = (v : Int) := by omega
  rw [hp, hv] at hr
  have hp2 : p < 1024 := by omega
  have e2 : (2 : Int) + (m : Int) = ((m + 2 : Nat) : Int) := by omega
  unfold callAgg
  rw [hk]
  clear hp hv
  rcases hr with h | h | h
  · have h1 : (p : Int) < 2 := by omega
    go_enter Try.func118, Try.ntmps118
    go_wp2_with fail
    go_quiet (fail)
    go_wp2
    go_ret2
    exact ⟨rfl, by first | exact ((Below.refl _ _).alloc (Nat.le_refl _) _).alloc (by simp) _ | exact below_drew (((Below.refl _ _).alloc (Nat.le_refl _) _).alloc (by simp) _) | exact below_drewN (((Below.refl _ _).alloc (Nat.le_refl _) _).alloc (by simp) _) _⟩
  · have h1 : ¬ (p : Int) < 2 := by omega
    have h2 : (2 : Int) + (m : Int) ≤ (p : Int) := by omega
    have h3 : ((2 : Int) + (m : Int)) % 18446744073709551616 = 2 + (m : Int) := by omega
    go_enter Try.func118, Try.ntmps118
    go_wp2_with fail
    go_quiet (fail)
    go_wp2
    go_ret2
    exact ⟨rfl, by first | exact ((Below.refl _ _).alloc (Nat.le_refl _) _).alloc (by simp) _ | exact below_drew (((Below.refl _ _).alloc (Nat.le_refl _) _).alloc (by simp) _) | exact below_drewN (((Below.refl _ _).alloc (Nat.le_refl _) _).alloc (by simp) _) _⟩
  · by_cases g1 : p < 2
    · have h1 : (p : Int) < 2 := by omega
      go_enter Try.func118, Try.ntmps118
      go_wp2_with fail
      go_quiet (fail)
      go_wp2
      go_ret2
      exact ⟨rfl, by first | exact ((Below.refl _ _).alloc (Nat.le_refl _) _).alloc (by simp) _ | exact below_drew (((Below.refl _ _).alloc (Nat.le_refl _) _).alloc (by simp) _) | exact below_drewN (((Below.refl _ _).alloc (Nat.le_refl _) _).alloc (by simp) _) _⟩
    · have h1 : ¬ (p : Int) < 2 := by omega
      have h3 : ((2 : Int) + (m : Int)) % 18446744073709551616 = 2 + (m : Int) := by omega
      have h4 : (1099511627776 : Int) ≤ (v : Int) := by omega
      by_cases g2 : m + 2 ≤ p
      · have h2 : (2 : Int) + (m : Int) ≤ (p : Int) := by omega
        go_enter Try.func118, Try.ntmps118
        go_wp2_with fail
        go_quiet (fail)
        go_wp2
        go_ret2
        exact ⟨rfl, by first | exact ((Below.refl _ _).alloc (Nat.le_refl _) _).alloc (by simp) _ | exact below_drew (((Below.refl _ _).alloc (Nat.le_refl _) _).alloc (by simp) _) | exact below_drewN (((Below.refl _ _).alloc (Nat.le_refl _) _).alloc (by simp) _) _⟩
      · have h2 : ¬ (2 : Int) + (m : Int) ≤ (p : Int) := by omega
        go_enter Try.func118, Try.ntmps118
        go_wp2_with fail
        go_quiet (fail)
        go_wp2
        go_ret2
        exact ⟨rfl, by first | exact ((Below.refl _ _).alloc (Nat.le_refl _) _).alloc (by simp) _ | exact below_drew (((Below.refl _ _).alloc (Nat.le_refl _) _).alloc (by simp) _) | exact below_drewN (((Below.refl _ _).alloc (Nat.le_refl _) _).alloc (by simp) _) _⟩
set_option maxRecDepth 100000 in
set_option maxHeartbeats 1000000 in
theorem pool_relMade (k m a v : Nat) (x : CallV) (W : World) (hk : x.k = 1) (hm : m ≤ 512) (hx : x.a = a + 2 + 1024 * v) (ha : a < m) (hv : v < 1099511627776) : Calls Try.prog 118 #[.agg #[.int .i64 (k : Int), .int .i64 (m : Int), .int .i64 0], callAgg x] W (RelMade a v W) := by
  have hpi : (x.a : Int) % 1024 = ((a + 2 : Nat) : Int) := by omega
  have hvi : (x.a : Int) / 1024 = (v : Int) := by omega
  have hxle : x.a ≤ 18446744073709551615 := by omega
  obtain ⟨p, hp⟩ : ∃ p, a + 2 = p := ⟨_, rfl⟩
  have HMK : Hid (∀ W : World, Calls Try.prog 119 #[.agg #[.int .i64 (k : Int), .int .i64 (m : Int), .int .i64 0], .int .i64 (p : Int)] W fun e w' => e = .returned (.int .i64 (a : Int)) ∧ Below W.heap.size W w') := Lib.hid (fun W => pool_markAt k m a p (by omega) (by omega) W)
  rw [hp] at hpi
  have h1 : ¬ (p : Int) < 2 := by omega
  have h3 : ((2 : Int) + (m : Int)) % 18446744073709551616 = 2 + (m : Int) := by omega
  have h2 : ¬ (2 : Int) + (m : Int) ≤ (p : Int) := by omega
  obtain ⟨V, hV⟩ : ∃ V : Int, V = (v : Int) := ⟨_, rfl⟩
  rw [← hV] at hvi
  have h4 : ¬ (1099511627776 : Int) ≤ V := by omega
  have HVV := Lib.hid hV
  have HHV := Lib.hid hv
  have h5 : p ≤ 600 := by omega
  unfold callAgg
  rw [hk]
  clear hx hp hV hv
  go_enter Try.func118, Try.ntmps118
  go_wp2_with fail
  go_quiet (fail)
  go_wp2_with fail
  refine (HMK.out _).mono ?_
  rintro e w4 ⟨rfl, hb4⟩
  have HB4 : Hid (Below W.heap.size W w4) := Lib.hid ((below_drewN (((Below.refl W.heap.size W).alloc (Nat.le_refl _) (.cells #[.int .i64 (k : Int), .int .i64 (m : Int), .int .i64 0] 185)).alloc (by simp) (.cells #[.int .i64 x.t, .int .i64 x.o, .int .i64 1, .int .u64 (x.a : Int), .int .u64 (x.b : Int), .int .u64 (x.c : Int)] 43)) _).trans (hb4.mono (by show W.heap.size ≤ Array.size (World.heap ((World.alloc (World.alloc _ _) _))); simp; omega)))
  clear hb4
  go_wp2_with fail
  go_ret2
  exact ⟨by show Ending.returned (.tuple #[.iface 216 (.agg #[.int .i64 (a : Int), .int .u64 V]), .int .i64 0]) = _; rw [HVV.out], HB4.out⟩
end Go.Proofs.Ytebfkkgemccbfaa
