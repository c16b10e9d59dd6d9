/- Walks of pool: an allocation's steps, a release's step. -/
import Derived.Test.YtebfkkgemccbfaaPO3
import Derived.WalkMore
namespace Go.Proofs.Ytebfkkgemccbfaa
open Go.ChangeShapes Go.WideShapes Go.ChangeAt Go.RowKit
set_option linter.unusedVariables false
set_option linter.unusedSimpArgs false
theorem alc_meth (a : Addr) (w : World) : (method 340 212 (.pointer (some a)) "Step").run Try.prog w = .ok (152, .pointer (some a)) w := by kernel_rfl
theorem alc_enter (args : Array Value) (w : World) : (callFunc 152 args).run Try.prog w = .ok (.enter 152 args) w := by kernel_rfl
theorem rel_meth (a b : Int) (w : World) : (method 340 216 (.agg #[.int .i64 a, .int .u64 b]) "Step").run Try.prog w = .ok (157, .agg #[.int .i64 a, .int .u64 b]) w := by kernel_rfl
theorem rel_enter (args : Array Value) (w : World) : (callFunc 157 args).run Try.prog w = .ok (.enter 157 args) w := by kernel_rfl
theorem buts_drewN {S : Nat → Prop} {a w : World} (h : ButS S a w) (n : Nat) : ButS S a (w.drewN n) := ⟨h.os, h.tape, h.output, h.size, h.block⟩
def boolM : Value → Nat
  | .bool true => 0
  | _ => 1
def PoolStepped (er val : Nat) (d : Bool) (g bm bw : Nat) (vs : List Value) (l : List Nat) (c : Cn) (w : World) (en : Ending) (w' : World) : Prop := en = .returned (.tuple #[.agg #[.int .i64 (er : Int), .int .u64 (val : Int), .slice none 0 0], .bool d]) ∧ MemIs 133 w' bm bw l c ∧ ButS (fun b => b = bm ∨ b = bw ∨ b = g) w w' ∧ RowBlk 214 w' g vs
set_option maxRecDepth 100000 in
set_option maxHeartbeats 2000000 in
theorem alc_even (k m pl E f0 x g bm bw a : Nat) (l : List Nat) (c : Cn) (t : Nat) (w : World) (hM : MemIs 133 w bm bw l c) (hg : RowBlk 214 w g (AlcVs k m pl E false f0 false 0)) (ha : a < l.length) (hl : l.length ≤ 65536) (hpl : pl = a + 2) (hE : pl < E) (hE2 : E ≤ 65536) (hc : c.r < 9223372036854775807) (hx : l.getD a 0 = x) (hxx : x ≤ 9223372036854775807) (hx2 : x % 2 = 0) :
    Calls Try.prog 152 #[.pointer (some ⟨g, 0, none⟩), turnAgg bm (t : Int)] w (PoolStepped 0 0 false g bm bw (AlcVs k m pl E true x false 0) l { c with r := c.r + 1 } w) := by
  have hgm : g ≠ bm := by intro e; have h1 := hg; have h2 := hM.1; unfold RowBlk at h1; rw [e, h2] at h1; simp at h1
  have hgw : g ≠ bw := by intro e; have h1 := hg; have h2 := hM.2.1; unfold RowBlk at h1; rw [e, h2] at h1; simp at h1
  have HX0 := hx

  have HMK : Hid (∀ W : World, Calls Try.prog 119 #[.agg #[.int .i64 (k : Int), .int .i64 (m : Int), .int .i64 0], .int .i64 (pl : Int)] W fun e w' => e = .returned (.int .i64 (a : Int)) ∧ Below W.heap.size W w') := Lib.hid (fun W => pool_markAt k m a pl hpl (by omega) W)
  have HCALL : Hid (∀ W : World, MemIs 133 W bm bw l c → RowBlk 214 W g (AlcVs k m pl E false f0 false 0) → Calls Try.prog 153 #[.pointer (some ⟨g, 0, none⟩), turnAgg bm (t : Int), .int .i64 (a : Int)] W (PoolLooked g bm bw (AlcVs k m pl E true x false 0) (l) ({ c with r := c.r + 1 }) W)) := Lib.hid (fun W h1 h2 => (by have := pool_lookF k m pl E f0 g bm bw a l c t W h1 h2 ha hl hc (by omega) (by rw [HX0]; exact hxx); rw [HX0, if_pos hx2] at this; exact this _ rfl))
  have HM := Lib.hid hM
  have HG := Lib.hid hg
  have hbm := hM.lt1
  have hbw := hM.lt2
  have hgl := hg.lt
  have hpl6 : pl ≤ 70000 := by omega
  clear hM hg HX0 hpl
  unfold turnAgg at *
  go_enter Try.func152, Try.ntmps152
  go_wp2_with fail
  have HMa : Hid (MemIs 133 ((w.alloc (.cells #[.iface 91 (.pointer (some ⟨bm, 0, none⟩)), .int .i64 (t : Int)] 107)).alloc (.cells #[.int .i64 0, .int .u64 0, .slice none 0 0] 39)) bm bw l c) := Lib.hid ((HM.out.alloc _).alloc _)
  have HGa : Hid (RowBlk 214 ((w.alloc (.cells #[.iface 91 (.pointer (some ⟨bm, 0, none⟩)), .int .i64 (t : Int)] 107)).alloc (.cells #[.int .i64 0, .int .u64 0, .slice none 0 0] 39)) g (AlcVs k m pl E false f0 false 0)) := Lib.hid ((HG.out.alloc _).alloc _)
  have HTa : Hid (RowBlk 107 ((w.alloc (.cells #[.iface 91 (.pointer (some ⟨bm, 0, none⟩)), .int .i64 (t : Int)] 107)).alloc (.cells #[.int .i64 0, .int .u64 0, .slice none 0 0] 39)) w.heap.size [.iface 91 (.pointer (some ⟨bm, 0, none⟩)), .int .i64 (t : Int)]) := Lib.hid ((RowBlk.new _ _ _).alloc _)
  have HAa : Hid (RowBlk 39 ((w.alloc (.cells #[.iface 91 (.pointer (some ⟨bm, 0, none⟩)), .int .i64 (t : Int)] 107)).alloc (.cells #[.int .i64 0, .int .u64 0, .slice none 0 0] 39)) (w.heap.size + 1) [.int .i64 0, .int .u64 0, .slice none 0 0]) := Lib.hid (by
    have h := RowBlk.new (w.alloc (.cells #[.iface 91 (.pointer (some ⟨bm, 0, none⟩)), .int .i64 (t : Int)] 107)) [.int .i64 0, .int .u64 0, .slice none 0 0] 39
    have e : (w.alloc (.cells #[.iface 91 (.pointer (some ⟨bm, 0, none⟩)), .int .i64 (t : Int)] 107)).heap.size = w.heap.size + 1 := by simp
    rw [e] at h; exact h)
  have HBa : Hid (ButS (fun b => b = bm ∨ b = bw ∨ b = g) w ((w.alloc (.cells #[.iface 91 (.pointer (some ⟨bm, 0, none⟩)), .int .i64 (t : Int)] 107)).alloc (.cells #[.int .i64 0, .int .u64 0, .slice none 0 0] 39))) := Lib.hid (((ButS.refl _ _).alloc _).alloc _)
  generalize ((w.alloc (.cells #[.iface 91 (.pointer (some ⟨bm, 0, none⟩)), .int .i64 (t : Int)] 107)).alloc (.cells #[.int .i64 0, .int .u64 0, .slice none 0 0] 39)) = wa at HMa HGa HTa HAa HBa ⊢
  have d0 : wa.cell? ⟨g, 0, none⟩ = some (.int .i64 (k : Int)) := HGa.out.cell rfl
  have d1 : wa.cell? ⟨g, 1, none⟩ = some (.int .i64 (m : Int)) := HGa.out.cell rfl
  have d2 : wa.cell? ⟨g, 2, none⟩ = some (.int .i64 0) := HGa.out.cell rfl
  have d3 : wa.cell? ⟨g, 3, none⟩ = some (.int .i64 (pl : Int)) := HGa.out.cell rfl
  go_step3
  go_wp2_with fail
  go_region_held3 (fun w' => w'.cell? ⟨g, 0, none⟩ = some (.int .i64 (k : Int)) ∧ w'.cell? ⟨g, 1, none⟩ = some (.int .i64 (m : Int)) ∧ w'.cell? ⟨g, 2, none⟩ = some (.int .i64 0) ∧ w'.cell? ⟨g, 3, none⟩ = some (.int .i64 (pl : Int)))
    (first | with_reducible exact ⟨d0, d1, d2, d3⟩ | go_keep)
    (first
      | (go_at_call 119
         refine (HMK.out _).mono ?_
         rintro e w4 ⟨rfl, hb4⟩
         have hG4 := HGa.out.drew.same (hb4.block _ HGa.out.lt)
         have hT4 := HTa.out.drew.same (hb4.block _ HTa.out.lt)
         have hA4 := HAa.out.drew.same (hb4.block _ HAa.out.lt)
         have d0 : w4.cell? ⟨g, 0, none⟩ = some (.int .i64 (k : Int)) := hG4.cell rfl
         have d1 : w4.cell? ⟨g, 1, none⟩ = some (.int .i64 (m : Int)) := hG4.cell rfl
         have d2 : w4.cell? ⟨g, 2, none⟩ = some (.int .i64 0) := hG4.cell rfl
         have d3 : w4.cell? ⟨g, 3, none⟩ = some (.int .i64 (pl : Int)) := hG4.cell rfl
         have HG4 := Lib.hid hG4
         have HT4 := Lib.hid hT4
         have HA4 := Lib.hid hA4
         have HM4 := Lib.hid (HMa.out.drew.of_blocks (hb4.block _ HMa.out.lt1) (hb4.block _ HMa.out.lt2))
         have HB4 := Lib.hid (HBa.out.drew.trans (ButS.of_below hb4))
         clear hG4 hT4 hA4 hb4))
  have hg4 := HG4.out.lt
  clear d0 d1 d2 d3
  go_wp2_with fail
  go_step3
  go_wp2_with fail
  go_loopw [7] (fun mv wr => (mv = .bool false ∧ Hid (RowBlk 214 wr g (AlcVs k m pl E false f0 false 0) ∧ MemIs 133 wr bm bw l c ∧ RowBlk 107 wr w.heap.size [.iface 91 (.pointer (some ⟨bm, 0, none⟩)), .int .i64 (t : Int)] ∧ RowBlk 39 wr (w.heap.size + 1) [.int .i64 0, .int .u64 0, .slice none 0 0] ∧ ButS (fun b => b = bm ∨ b = bw ∨ b = g) w wr)) ∨
      (mv = .bool true ∧ Hid (RowBlk 214 wr g (AlcVs k m pl E true x false 0) ∧ MemIs 133 wr bm bw (l) ({ c with r := c.r + 1 }) ∧ RowBlk 39 wr (w.heap.size + 1) [.int .i64 0, .int .u64 0, .slice none 0 0] ∧ ButS (fun b => b = bm ∨ b = bw ∨ b = g) w wr))) (fun mv _ => boolM mv)
  case atStart => exact .inl ⟨rfl, Lib.hid ⟨HG4.out, HM4.out, HT4.out, HA4.out, HB4.out⟩⟩
  case round =>
    rcases hrel with ⟨rfl, H0⟩ | ⟨rfl, H1⟩
    · have c3 : wr.cell? ⟨g, 3, none⟩ = some (.int .i64 (pl : Int)) := H0.out.1.cell rfl
      have c4 : wr.cell? ⟨g, 4, none⟩ = some (.int .i64 (E : Int)) := H0.out.1.cell rfl
      have c5 : wr.cell? ⟨g, 5, none⟩ = some (.bool false) := H0.out.1.cell rfl
      have c7 : wr.cell? ⟨g, 7, none⟩ = some (.bool false) := H0.out.1.cell rfl
      have t0 : wr.cell? ⟨w.heap.size, 0, none⟩ = some (.iface 91 (.pointer (some ⟨bm, 0, none⟩))) := H0.out.2.2.1.cell rfl
      have t1 : wr.cell? ⟨w.heap.size, 1, none⟩ = some (.int .i64 (t : Int)) := H0.out.2.2.1.cell rfl
      have hgr := H0.out.1.lt
      have n1 : ¬ (pl : Int) = (E : Int) := by omega
      have n2 : ((pl : Int) == (E : Int)) = false := by rw [beq_eq_false_iff_ne]; exact n1
      have n3 : decide ((pl : Int) = (E : Int)) = false := decide_eq_false n1
      go_wp2_with fail
      go_quiet (fail)
      go_wp2_with fail
      refine (HCALL.out _ (by exact H0.out.2.1) (by exact H0.out.1)).mono ?_
      rintro e w5 ⟨rfl, hM5, hB5, hG5⟩
      have hA0 : RowBlk 39 (wr.drewN nq) (w.heap.size + 1) [.int .i64 0, .int .u64 0, .slice none 0 0] := H0.out.2.2.2.1
      have hA5 : RowBlk 39 w5 (w.heap.size + 1) [.int .i64 0, .int .u64 0, .slice none 0 0] := RowBlk.same hA0 (hB5.block _ hA0.lt (by omega))
      have hB0 : ButS (fun b => b = bm ∨ b = bw ∨ b = g) w (wr.drewN nq) := buts_drewN H0.out.2.2.2.2 _
      have H5 := Lib.hid (And.intro hG5 (And.intro hM5 (And.intro hA5 (hB0.trans hB5))))
      clear hG5 hM5 hA5 hB5 hA0 hB0 c3 c4 c7 t0 t1
      go_wp2_with fail
      go_roundw
      case rel => exact .inr ⟨rfl, H5⟩
      case measure => simp [boolM]
    · have c7 : wr.cell? ⟨g, 7, none⟩ = some (.bool false) := H1.out.1.cell rfl
      have c3 : wr.cell? ⟨g, 3, none⟩ = some (.int .i64 (pl : Int)) := H1.out.1.cell rfl
      have c4 : wr.cell? ⟨g, 4, none⟩ = some (.int .i64 (E : Int)) := H1.out.1.cell rfl
      have m1 : ¬ (pl : Int) = (E : Int) := by omega
      have m2 : ((pl : Int) == (E : Int)) = false := by rw [beq_eq_false_iff_ne]; exact m1
      have m3 : decide ((pl : Int) = (E : Int)) = false := decide_eq_false m1
      have a0 := H1.out.2.2.1.cell (i := 0) rfl
      have a1 := H1.out.2.2.1.cell (i := 1) rfl
      have a2 := H1.out.2.2.1.cell (i := 2) rfl
      have z0 : ∀ j, wr.frozen? ⟨w.heap.size + 1, j, none⟩ = false := fun j => H1.out.2.2.1.free
      have hgr := H1.out.1.lt
      have n1 : g ≠ w.heap.size + 1 := by omega
      have n2 : w.heap.size + 1 ≠ g := by omega
      go_wp2_with fail
      go_quiet (fail)
      have H2 : Hid (RowBlk 214 (wr.drewN nq) g (AlcVs k m pl E true x false 0) ∧ MemIs 133 (wr.drewN nq) bm bw (l) ({ c with r := c.r + 1 }) ∧ RowBlk 39 (wr.drewN nq) (w.heap.size + 1) [.int .i64 0, .int .u64 0, .slice none 0 0] ∧ ButS (fun b => b = bm ∨ b = bw ∨ b = g) w (wr.drewN nq)) := Lib.hid ⟨H1.out.1, H1.out.2.1, H1.out.2.2.1, buts_drewN H1.out.2.2.2 _⟩
      clear a0 a1 a2 z0 hgr H1
      generalize wr.drewN nq = wr at H2 ⊢
      have H1 := H2
      have a0 := H1.out.2.2.1.cell (i := 0) rfl
      have a1 := H1.out.2.2.1.cell (i := 1) rfl
      have a2 := H1.out.2.2.1.cell (i := 2) rfl
      have z0 : ∀ j, wr.frozen? ⟨w.heap.size + 1, j, none⟩ = false := fun j => H1.out.2.2.1.free
      have hgr := H1.out.1.lt
      have HX : Hid (RowBlk 39 (((wr.setCell ⟨w.heap.size + 1, 0, none⟩ (.int .i64 0)).setCell ⟨w.heap.size + 1, 1, none⟩ (.int .u64 0)).setCell ⟨w.heap.size + 1, 2, none⟩ (.slice none 0 0)) (w.heap.size + 1) [.int .i64 0, .int .u64 0, .slice none 0 0] ∧ RowBlk 214 (((wr.setCell ⟨w.heap.size + 1, 0, none⟩ (.int .i64 0)).setCell ⟨w.heap.size + 1, 1, none⟩ (.int .u64 0)).setCell ⟨w.heap.size + 1, 2, none⟩ (.slice none 0 0)) g (AlcVs k m pl E true x false 0) ∧ MemIs 133 (((wr.setCell ⟨w.heap.size + 1, 0, none⟩ (.int .i64 0)).setCell ⟨w.heap.size + 1, 1, none⟩ (.int .u64 0)).setCell ⟨w.heap.size + 1, 2, none⟩ (.slice none 0 0)) bm bw (l) ({ c with r := c.r + 1 }) ∧ ButS (fun b => b = bm ∨ b = bw ∨ b = g) w (((wr.setCell ⟨w.heap.size + 1, 0, none⟩ (.int .i64 0)).setCell ⟨w.heap.size + 1, 1, none⟩ (.int .u64 0)).setCell ⟨w.heap.size + 1, 2, none⟩ (.slice none 0 0))) := Lib.hid
        ⟨((H1.out.2.2.1.put 0 _).put 1 _).put 2 _, ((H1.out.1.other n1 _).other n1 _).other n1 _, ((H1.out.2.1.setNew _ _ (by omega) (by omega)).setNew _ _ (by omega) (by omega)).setNew _ _ (by omega) (by omega), ((H1.out.2.2.2.setCell (.inr (by show w.heap.size ≤ w.heap.size + 1; omega)) _).setCell (.inr (by show w.heap.size ≤ w.heap.size + 1; omega)) _).setCell (.inr (by show w.heap.size ≤ w.heap.size + 1; omega)) _⟩
      go_wp2_with fail
      generalize (((wr.setCell ⟨w.heap.size + 1, 0, none⟩ (.int .i64 0)).setCell ⟨w.heap.size + 1, 1, none⟩ (.int .u64 0)).setCell ⟨w.heap.size + 1, 2, none⟩ (.slice none 0 0)) = W5 at HX ⊢
      have q0 := HX.out.1.cell (i := 0) rfl
      have q1 := HX.out.1.cell (i := 1) rfl
      have q2 := HX.out.1.cell (i := 2) rfl
      exact bodyPost_ret (v := .tuple #[.agg #[.int .i64 0, .int .u64 0, .slice none 0 0], .bool false]) (by simp [results, Try.results152, go_sem, q0, q1, q2]) rfl ⟨rfl, HX.out.2.2.1, HX.out.2.2.2, HX.out.2.1⟩
set_option maxRecDepth 100000 in
set_option maxHeartbeats 2000000 in
theorem alc_odd (k m pl E f0 x g bm bw a : Nat) (l : List Nat) (c : Cn) (t : Nat) (w : World) (hM : MemIs 133 w bm bw l c) (hg : RowBlk 214 w g (AlcVs k m pl E false f0 false 0)) (ha : a < l.length) (hl : l.length ≤ 65536) (hpl : pl = a + 2) (hE : pl < E) (hE2 : E ≤ 65536) (hc : c.r < 9223372036854775807) (hx : l.getD a 0 = x) (hxx : x ≤ 9223372036854775807) (hx2 : ¬ x % 2 = 0) (hne : ¬ pl + 1 = E) :
    Calls Try.prog 152 #[.pointer (some ⟨g, 0, none⟩), turnAgg bm (t : Int)] w (PoolStepped 0 0 false g bm bw (AlcVs k m (pl + 1) E false x false 0) l { c with r := c.r + 1 } w) := by
  have hgm : g ≠ bm := by intro e; have h1 := hg; have h2 := hM.1; unfold RowBlk at h1; rw [e, h2] at h1; simp at h1
  have hgw : g ≠ bw := by intro e; have h1 := hg; have h2 := hM.2.1; unfold RowBlk at h1; rw [e, h2] at h1; simp at h1
  have HX0 := hx

  have HMK : Hid (∀ W : World, Calls Try.prog 119 #[.agg #[.int .i64 (k : Int), .int .i64 (m : Int), .int .i64 0], .int .i64 (pl : Int)] W fun e w' => e = .returned (.int .i64 (a : Int)) ∧ Below W.heap.size W w') := Lib.hid (fun W => pool_markAt k m a pl hpl (by omega) W)
  have HCALL : Hid (∀ W : World, MemIs 133 W bm bw l c → RowBlk 214 W g (AlcVs k m pl E false f0 false 0) → Calls Try.prog 153 #[.pointer (some ⟨g, 0, none⟩), turnAgg bm (t : Int), .int .i64 (a : Int)] W (PoolLooked g bm bw (AlcVs k m (pl + 1) E false x false 0) (l) ({ c with r := c.r + 1 }) W)) := Lib.hid (fun W h1 h2 => (by have := pool_lookF k m pl E f0 g bm bw a l c t W h1 h2 ha hl hc (by omega) (by rw [HX0]; exact hxx); rw [HX0, if_neg hx2] at this; exact this _ rfl))
  have HM := Lib.hid hM
  have HG := Lib.hid hg
  have hbm := hM.lt1
  have hbw := hM.lt2
  have hgl := hg.lt
  have hpl6 : pl ≤ 70000 := by omega
  clear hM hg HX0 hpl
  unfold turnAgg at *
  go_enter Try.func152, Try.ntmps152
  go_wp2_with fail
  have HMa : Hid (MemIs 133 ((w.alloc (.cells #[.iface 91 (.pointer (some ⟨bm, 0, none⟩)), .int .i64 (t : Int)] 107)).alloc (.cells #[.int .i64 0, .int .u64 0, .slice none 0 0] 39)) bm bw l c) := Lib.hid ((HM.out.alloc _).alloc _)
  have HGa : Hid (RowBlk 214 ((w.alloc (.cells #[.iface 91 (.pointer (some ⟨bm, 0, none⟩)), .int .i64 (t : Int)] 107)).alloc (.cells #[.int .i64 0, .int .u64 0, .slice none 0 0] 39)) g (AlcVs k m pl E false f0 false 0)) := Lib.hid ((HG.out.alloc _).alloc _)
  have HTa : Hid (RowBlk 107 ((w.alloc (.cells #[.iface 91 (.pointer (some ⟨bm, 0, none⟩)), .int .i64 (t : Int)] 107)).alloc (.cells #[.int .i64 0, .int .u64 0, .slice none 0 0] 39)) w.heap.size [.iface 91 (.pointer (some ⟨bm, 0, none⟩)), .int .i64 (t : Int)]) := Lib.hid ((RowBlk.new _ _ _).alloc _)
  have HAa : Hid (RowBlk 39 ((w.alloc (.cells #[.iface 91 (.pointer (some ⟨bm, 0, none⟩)), .int .i64 (t : Int)] 107)).alloc (.cells #[.int .i64 0, .int .u64 0, .slice none 0 0] 39)) (w.heap.size + 1) [.int .i64 0, .int .u64 0, .slice none 0 0]) := Lib.hid (by
    have h := RowBlk.new (w.alloc (.cells #[.iface 91 (.pointer (some ⟨bm, 0, none⟩)), .int .i64 (t : Int)] 107)) [.int .i64 0, .int .u64 0, .slice none 0 0] 39
    have e : (w.alloc (.cells #[.iface 91 (.pointer (some ⟨bm, 0, none⟩)), .int .i64 (t : Int)] 107)).heap.size = w.heap.size + 1 := by simp
    rw [e] at h; exact h)
  have HBa : Hid (ButS (fun b => b = bm ∨ b = bw ∨ b = g) w ((w.alloc (.cells #[.iface 91 (.pointer (some ⟨bm, 0, none⟩)), .int .i64 (t : Int)] 107)).alloc (.cells #[.int .i64 0, .int .u64 0, .slice none 0 0] 39))) := Lib.hid (((ButS.refl _ _).alloc _).alloc _)
  generalize ((w.alloc (.cells #[.iface 91 (.pointer (some ⟨bm, 0, none⟩)), .int .i64 (t : Int)] 107)).alloc (.cells #[.int .i64 0, .int .u64 0, .slice none 0 0] 39)) = wa at HMa HGa HTa HAa HBa ⊢
  have d0 : wa.cell? ⟨g, 0, none⟩ = some (.int .i64 (k : Int)) := HGa.out.cell rfl
  have d1 : wa.cell? ⟨g, 1, none⟩ = some (.int .i64 (m : Int)) := HGa.out.cell rfl
  have d2 : wa.cell? ⟨g, 2, none⟩ = some (.int .i64 0) := HGa.out.cell rfl
  have d3 : wa.cell? ⟨g, 3, none⟩ = some (.int .i64 (pl : Int)) := HGa.out.cell rfl
  go_step3
  go_wp2_with fail
  go_region_held3 (fun w' => w'.cell? ⟨g, 0, none⟩ = some (.int .i64 (k : Int)) ∧ w'.cell? ⟨g, 1, none⟩ = some (.int .i64 (m : Int)) ∧ w'.cell? ⟨g, 2, none⟩ = some (.int .i64 0) ∧ w'.cell? ⟨g, 3, none⟩ = some (.int .i64 (pl : Int)))
    (first | with_reducible exact ⟨d0, d1, d2, d3⟩ | go_keep)
    (first
      | (go_at_call 119
         refine (HMK.out _).mono ?_
         rintro e w4 ⟨rfl, hb4⟩
         have hG4 := HGa.out.drew.same (hb4.block _ HGa.out.lt)
         have hT4 := HTa.out.drew.same (hb4.block _ HTa.out.lt)
         have hA4 := HAa.out.drew.same (hb4.block _ HAa.out.lt)
         have d0 : w4.cell? ⟨g, 0, none⟩ = some (.int .i64 (k : Int)) := hG4.cell rfl
         have d1 : w4.cell? ⟨g, 1, none⟩ = some (.int .i64 (m : Int)) := hG4.cell rfl
         have d2 : w4.cell? ⟨g, 2, none⟩ = some (.int .i64 0) := hG4.cell rfl
         have d3 : w4.cell? ⟨g, 3, none⟩ = some (.int .i64 (pl : Int)) := hG4.cell rfl
         have HG4 := Lib.hid hG4
         have HT4 := Lib.hid hT4
         have HA4 := Lib.hid hA4
         have HM4 := Lib.hid (HMa.out.drew.of_blocks (hb4.block _ HMa.out.lt1) (hb4.block _ HMa.out.lt2))
         have HB4 := Lib.hid (HBa.out.drew.trans (ButS.of_below hb4))
         clear hG4 hT4 hA4 hb4))
  have hg4 := HG4.out.lt
  clear d0 d1 d2 d3
  go_wp2_with fail
  go_step3
  go_wp2_with fail
  go_loopw [7] (fun mv wr => (mv = .bool false ∧ Hid (RowBlk 214 wr g (AlcVs k m pl E false f0 false 0) ∧ MemIs 133 wr bm bw l c ∧ RowBlk 107 wr w.heap.size [.iface 91 (.pointer (some ⟨bm, 0, none⟩)), .int .i64 (t : Int)] ∧ RowBlk 39 wr (w.heap.size + 1) [.int .i64 0, .int .u64 0, .slice none 0 0] ∧ ButS (fun b => b = bm ∨ b = bw ∨ b = g) w wr)) ∨
      (mv = .bool true ∧ Hid (RowBlk 214 wr g (AlcVs k m (pl + 1) E false x false 0) ∧ MemIs 133 wr bm bw (l) ({ c with r := c.r + 1 }) ∧ RowBlk 39 wr (w.heap.size + 1) [.int .i64 0, .int .u64 0, .slice none 0 0] ∧ ButS (fun b => b = bm ∨ b = bw ∨ b = g) w wr))) (fun mv _ => boolM mv)
  case atStart => exact .inl ⟨rfl, Lib.hid ⟨HG4.out, HM4.out, HT4.out, HA4.out, HB4.out⟩⟩
  case round =>
    rcases hrel with ⟨rfl, H0⟩ | ⟨rfl, H1⟩
    · have c3 : wr.cell? ⟨g, 3, none⟩ = some (.int .i64 (pl : Int)) := H0.out.1.cell rfl
      have c4 : wr.cell? ⟨g, 4, none⟩ = some (.int .i64 (E : Int)) := H0.out.1.cell rfl
      have c5 : wr.cell? ⟨g, 5, none⟩ = some (.bool false) := H0.out.1.cell rfl
      have c7 : wr.cell? ⟨g, 7, none⟩ = some (.bool false) := H0.out.1.cell rfl
      have t0 : wr.cell? ⟨w.heap.size, 0, none⟩ = some (.iface 91 (.pointer (some ⟨bm, 0, none⟩))) := H0.out.2.2.1.cell rfl
      have t1 : wr.cell? ⟨w.heap.size, 1, none⟩ = some (.int .i64 (t : Int)) := H0.out.2.2.1.cell rfl
      have hgr := H0.out.1.lt
      have n1 : ¬ (pl : Int) = (E : Int) := by omega
      have n2 : ((pl : Int) == (E : Int)) = false := by rw [beq_eq_false_iff_ne]; exact n1
      have n3 : decide ((pl : Int) = (E : Int)) = false := decide_eq_false n1
      go_wp2_with fail
      go_quiet (fail)
      go_wp2_with fail
      refine (HCALL.out _ (by exact H0.out.2.1) (by exact H0.out.1)).mono ?_
      rintro e w5 ⟨rfl, hM5, hB5, hG5⟩
      have hA0 : RowBlk 39 (wr.drewN nq) (w.heap.size + 1) [.int .i64 0, .int .u64 0, .slice none 0 0] := H0.out.2.2.2.1
      have hA5 : RowBlk 39 w5 (w.heap.size + 1) [.int .i64 0, .int .u64 0, .slice none 0 0] := RowBlk.same hA0 (hB5.block _ hA0.lt (by omega))
      have hB0 : ButS (fun b => b = bm ∨ b = bw ∨ b = g) w (wr.drewN nq) := buts_drewN H0.out.2.2.2.2 _
      have H5 := Lib.hid (And.intro hG5 (And.intro hM5 (And.intro hA5 (hB0.trans hB5))))
      clear hG5 hM5 hA5 hB5 hA0 hB0 c3 c4 c7 t0 t1
      go_wp2_with fail
      go_roundw
      case rel => exact .inr ⟨rfl, H5⟩
      case measure => simp [boolM]
    · have c7 : wr.cell? ⟨g, 7, none⟩ = some (.bool false) := H1.out.1.cell rfl
      have c3 : wr.cell? ⟨g, 3, none⟩ = some (.int .i64 ((pl + 1 : Nat) : Int)) := H1.out.1.cell rfl
      have c4 : wr.cell? ⟨g, 4, none⟩ = some (.int .i64 (E : Int)) := H1.out.1.cell rfl
      have m1 : ¬ ((pl + 1 : Nat) : Int) = (E : Int) := by omega
      have m2 : (((pl + 1 : Nat) : Int) == (E : Int)) = false := by rw [beq_eq_false_iff_ne]; exact m1
      have m3 : decide (((pl + 1 : Nat) : Int) = (E : Int)) = false := decide_eq_false m1
      generalize ((pl + 1 : Nat) : Int) = P1 at *
      have a0 := H1.out.2.2.1.cell (i := 0) rfl
      have a1 := H1.out.2.2.1.cell (i := 1) rfl
      have a2 := H1.out.2.2.1.cell (i := 2) rfl
      have z0 : ∀ j, wr.frozen? ⟨w.heap.size + 1, j, none⟩ = false := fun j => H1.out.2.2.1.free
      have hgr := H1.out.1.lt
      have n1 : g ≠ w.heap.size + 1 := by omega
      have n2 : w.heap.size + 1 ≠ g := by omega
      go_wp2_with fail
      go_quiet (fail)
      have H2 : Hid (RowBlk 214 (wr.drewN nq) g (AlcVs k m (pl + 1) E false x false 0) ∧ MemIs 133 (wr.drewN nq) bm bw (l) ({ c with r := c.r + 1 }) ∧ RowBlk 39 (wr.drewN nq) (w.heap.size + 1) [.int .i64 0, .int .u64 0, .slice none 0 0] ∧ ButS (fun b => b = bm ∨ b = bw ∨ b = g) w (wr.drewN nq)) := Lib.hid ⟨H1.out.1, H1.out.2.1, H1.out.2.2.1, buts_drewN H1.out.2.2.2 _⟩
      clear a0 a1 a2 z0 hgr H1
      generalize wr.drewN nq = wr at H2 ⊢
      have H1 := H2
      have a0 := H1.out.2.2.1.cell (i := 0) rfl
      have a1 := H1.out.2.2.1.cell (i := 1) rfl
      have a2 := H1.out.2.2.1.cell (i := 2) rfl
      have z0 : ∀ j, wr.frozen? ⟨w.heap.size + 1, j, none⟩ = false := fun j => H1.out.2.2.1.free
      have hgr := H1.out.1.lt
      have HX : Hid (RowBlk 39 (((wr.setCell ⟨w.heap.size + 1, 0, none⟩ (.int .i64 0)).setCell ⟨w.heap.size + 1, 1, none⟩ (.int .u64 0)).setCell ⟨w.heap.size + 1, 2, none⟩ (.slice none 0 0)) (w.heap.size + 1) [.int .i64 0, .int .u64 0, .slice none 0 0] ∧ RowBlk 214 (((wr.setCell ⟨w.heap.size + 1, 0, none⟩ (.int .i64 0)).setCell ⟨w.heap.size + 1, 1, none⟩ (.int .u64 0)).setCell ⟨w.heap.size + 1, 2, none⟩ (.slice none 0 0)) g (AlcVs k m (pl + 1) E false x false 0) ∧ MemIs 133 (((wr.setCell ⟨w.heap.size + 1, 0, none⟩ (.int .i64 0)).setCell ⟨w.heap.size + 1, 1, none⟩ (.int .u64 0)).setCell ⟨w.heap.size + 1, 2, none⟩ (.slice none 0 0)) bm bw (l) ({ c with r := c.r + 1 }) ∧ ButS (fun b => b = bm ∨ b = bw ∨ b = g) w (((wr.setCell ⟨w.heap.size + 1, 0, none⟩ (.int .i64 0)).setCell ⟨w.heap.size + 1, 1, none⟩ (.int .u64 0)).setCell ⟨w.heap.size + 1, 2, none⟩ (.slice none 0 0))) := Lib.hid
        ⟨((H1.out.2.2.1.put 0 _).put 1 _).put 2 _, ((H1.out.1.other n1 _).other n1 _).other n1 _, ((H1.out.2.1.setNew _ _ (by omega) (by omega)).setNew _ _ (by omega) (by omega)).setNew _ _ (by omega) (by omega), ((H1.out.2.2.2.setCell (.inr (by show w.heap.size ≤ w.heap.size + 1; omega)) _).setCell (.inr (by show w.heap.size ≤ w.heap.size + 1; omega)) _).setCell (.inr (by show w.heap.size ≤ w.heap.size + 1; omega)) _⟩
      go_wp2_with fail
      generalize (((wr.setCell ⟨w.heap.size + 1, 0, none⟩ (.int .i64 0)).setCell ⟨w.heap.size + 1, 1, none⟩ (.int .u64 0)).setCell ⟨w.heap.size + 1, 2, none⟩ (.slice none 0 0)) = W5 at HX ⊢
      have q0 := HX.out.1.cell (i := 0) rfl
      have q1 := HX.out.1.cell (i := 1) rfl
      have q2 := HX.out.1.cell (i := 2) rfl
      exact bodyPost_ret (v := .tuple #[.agg #[.int .i64 0, .int .u64 0, .slice none 0 0], .bool false]) (by simp [results, Try.results152, go_sem, q0, q1, q2]) rfl ⟨rfl, HX.out.2.2.1, HX.out.2.2.2, HX.out.2.1⟩
set_option maxRecDepth 100000 in
set_option maxHeartbeats 2000000 in
theorem alc_full (k m pl E f0 x g bm bw a : Nat) (l : List Nat) (c : Cn) (t : Nat) (w : World) (hM : MemIs 133 w bm bw l c) (hg : RowBlk 214 w g (AlcVs k m pl E false f0 false 0)) (ha : a < l.length) (hl : l.length ≤ 65536) (hpl : pl = a + 2) (hE : pl < E) (hE2 : E ≤ 65536) (hc : c.r < 9223372036854775807) (hx : l.getD a 0 = x) (hxx : x ≤ 9223372036854775807) (hx2 : ¬ x % 2 = 0) (hne : pl + 1 = E) :
    Calls Try.prog 152 #[.pointer (some ⟨g, 0, none⟩), turnAgg bm (t : Int)] w (PoolStepped 6 0 true g bm bw (AlcVs k m E E false x false 0) l { c with r := c.r + 1 } w) := by
  have hgm : g ≠ bm := by intro e; have h1 := hg; have h2 := hM.1; unfold RowBlk at h1; rw [e, h2] at h1; simp at h1
  have hgw : g ≠ bw := by intro e; have h1 := hg; have h2 := hM.2.1; unfold RowBlk at h1; rw [e, h2] at h1; simp at h1
  have HX0 := hx

  have HMK : Hid (∀ W : World, Calls Try.prog 119 #[.agg #[.int .i64 (k : Int), .int .i64 (m : Int), .int .i64 0], .int .i64 (pl : Int)] W fun e w' => e = .returned (.int .i64 (a : Int)) ∧ Below W.heap.size W w') := Lib.hid (fun W => pool_markAt k m a pl hpl (by omega) W)
  have HCALL : Hid (∀ W : World, MemIs 133 W bm bw l c → RowBlk 214 W g (AlcVs k m pl E false f0 false 0) → Calls Try.prog 153 #[.pointer (some ⟨g, 0, none⟩), turnAgg bm (t : Int), .int .i64 (a : Int)] W (PoolLooked g bm bw (AlcVs k m E E false x false 0) (l) ({ c with r := c.r + 1 }) W)) := Lib.hid (fun W h1 h2 => (by have := pool_lookF k m pl E f0 g bm bw a l c t W h1 h2 ha hl hc (by omega) (by rw [HX0]; exact hxx); rw [HX0, if_neg hx2] at this; rw [hne] at this; exact this _ rfl))
  have HM := Lib.hid hM
  have HG := Lib.hid hg
  have hbm := hM.lt1
  have hbw := hM.lt2
  have hgl := hg.lt
  have hpl6 : pl ≤ 70000 := by omega
  clear hM hg HX0 hpl
  unfold turnAgg at *
  go_enter Try.func152, Try.ntmps152
  go_wp2_with fail
  have HMa : Hid (MemIs 133 ((w.alloc (.cells #[.iface 91 (.pointer (some ⟨bm, 0, none⟩)), .int .i64 (t : Int)] 107)).alloc (.cells #[.int .i64 0, .int .u64 0, .slice none 0 0] 39)) bm bw l c) := Lib.hid ((HM.out.alloc _).alloc _)
  have HGa : Hid (RowBlk 214 ((w.alloc (.cells #[.iface 91 (.pointer (some ⟨bm, 0, none⟩)), .int .i64 (t : Int)] 107)).alloc (.cells #[.int .i64 0, .int .u64 0, .slice none 0 0] 39)) g (AlcVs k m pl E false f0 false 0)) := Lib.hid ((HG.out.alloc _).alloc _)
  have HTa : Hid (RowBlk 107 ((w.alloc (.cells #[.iface 91 (.pointer (some ⟨bm, 0, none⟩)), .int .i64 (t : Int)] 107)).alloc (.cells #[.int .i64 0, .int .u64 0, .slice none 0 0] 39)) w.heap.size [.iface 91 (.pointer (some ⟨bm, 0, none⟩)), .int .i64 (t : Int)]) := Lib.hid ((RowBlk.new _ _ _).alloc _)
  have HAa : Hid (RowBlk 39 ((w.alloc (.cells #[.iface 91 (.pointer (some ⟨bm, 0, none⟩)), .int .i64 (t : Int)] 107)).alloc (.cells #[.int .i64 0, .int .u64 0, .slice none 0 0] 39)) (w.heap.size + 1) [.int .i64 0, .int .u64 0, .slice none 0 0]) := Lib.hid (by
    have h := RowBlk.new (w.alloc (.cells #[.iface 91 (.pointer (some ⟨bm, 0, none⟩)), .int .i64 (t : Int)] 107)) [.int .i64 0, .int .u64 0, .slice none 0 0] 39
    have e : (w.alloc (.cells #[.iface 91 (.pointer (some ⟨bm, 0, none⟩)), .int .i64 (t : Int)] 107)).heap.size = w.heap.size + 1 := by simp
    rw [e] at h; exact h)
  have HBa : Hid (ButS (fun b => b = bm ∨ b = bw ∨ b = g) w ((w.alloc (.cells #[.iface 91 (.pointer (some ⟨bm, 0, none⟩)), .int .i64 (t : Int)] 107)).alloc (.cells #[.int .i64 0, .int .u64 0, .slice none 0 0] 39))) := Lib.hid (((ButS.refl _ _).alloc _).alloc _)
  generalize ((w.alloc (.cells #[.iface 91 (.pointer (some ⟨bm, 0, none⟩)), .int .i64 (t : Int)] 107)).alloc (.cells #[.int .i64 0, .int .u64 0, .slice none 0 0] 39)) = wa at HMa HGa HTa HAa HBa ⊢
  have d0 : wa.cell? ⟨g, 0, none⟩ = some (.int .i64 (k : Int)) := HGa.out.cell rfl
  have d1 : wa.cell? ⟨g, 1, none⟩ = some (.int .i64 (m : Int)) := HGa.out.cell rfl
  have d2 : wa.cell? ⟨g, 2, none⟩ = some (.int .i64 0) := HGa.out.cell rfl
  have d3 : wa.cell? ⟨g, 3, none⟩ = some (.int .i64 (pl : Int)) := HGa.out.cell rfl
  go_step3
  go_wp2_with fail
  go_region_held3 (fun w' => w'.cell? ⟨g, 0, none⟩ = some (.int .i64 (k : Int)) ∧ w'.cell? ⟨g, 1, none⟩ = some (.int .i64 (m : Int)) ∧ w'.cell? ⟨g, 2, none⟩ = some (.int .i64 0) ∧ w'.cell? ⟨g, 3, none⟩ = some (.int .i64 (pl : Int)))
    (first | with_reducible exact ⟨d0, d1, d2, d3⟩ | go_keep)
    (first
      | (go_at_call 119
         refine (HMK.out _).mono ?_
         rintro e w4 ⟨rfl, hb4⟩
         have hG4 := HGa.out.drew.same (hb4.block _ HGa.out.lt)
         have hT4 := HTa.out.drew.same (hb4.block _ HTa.out.lt)
         have hA4 := HAa.out.drew.same (hb4.block _ HAa.out.lt)
         have d0 : w4.cell? ⟨g, 0, none⟩ = some (.int .i64 (k : Int)) := hG4.cell rfl
         have d1 : w4.cell? ⟨g, 1, none⟩ = some (.int .i64 (m : Int)) := hG4.cell rfl
         have d2 : w4.cell? ⟨g, 2, none⟩ = some (.int .i64 0) := hG4.cell rfl
         have d3 : w4.cell? ⟨g, 3, none⟩ = some (.int .i64 (pl : Int)) := hG4.cell rfl
         have HG4 := Lib.hid hG4
         have HT4 := Lib.hid hT4
         have HA4 := Lib.hid hA4
         have HM4 := Lib.hid (HMa.out.drew.of_blocks (hb4.block _ HMa.out.lt1) (hb4.block _ HMa.out.lt2))
         have HB4 := Lib.hid (HBa.out.drew.trans (ButS.of_below hb4))
         clear hG4 hT4 hA4 hb4))
  have hg4 := HG4.out.lt
  clear d0 d1 d2 d3
  go_wp2_with fail
  go_step3
  go_wp2_with fail
  go_loopw [7] (fun mv wr => (mv = .bool false ∧ Hid (RowBlk 214 wr g (AlcVs k m pl E false f0 false 0) ∧ MemIs 133 wr bm bw l c ∧ RowBlk 107 wr w.heap.size [.iface 91 (.pointer (some ⟨bm, 0, none⟩)), .int .i64 (t : Int)] ∧ RowBlk 39 wr (w.heap.size + 1) [.int .i64 0, .int .u64 0, .slice none 0 0] ∧ ButS (fun b => b = bm ∨ b = bw ∨ b = g) w wr)) ∨
      (mv = .bool true ∧ Hid (RowBlk 214 wr g (AlcVs k m E E false x false 0) ∧ MemIs 133 wr bm bw (l) ({ c with r := c.r + 1 }) ∧ RowBlk 39 wr (w.heap.size + 1) [.int .i64 0, .int .u64 0, .slice none 0 0] ∧ ButS (fun b => b = bm ∨ b = bw ∨ b = g) w wr))) (fun mv _ => boolM mv)
  case atStart => exact .inl ⟨rfl, Lib.hid ⟨HG4.out, HM4.out, HT4.out, HA4.out, HB4.out⟩⟩
  case round =>
    rcases hrel with ⟨rfl, H0⟩ | ⟨rfl, H1⟩
    · have c3 : wr.cell? ⟨g, 3, none⟩ = some (.int .i64 (pl : Int)) := H0.out.1.cell rfl
      have c4 : wr.cell? ⟨g, 4, none⟩ = some (.int .i64 (E : Int)) := H0.out.1.cell rfl
      have c5 : wr.cell? ⟨g, 5, none⟩ = some (.bool false) := H0.out.1.cell rfl
      have c7 : wr.cell? ⟨g, 7, none⟩ = some (.bool false) := H0.out.1.cell rfl
      have t0 : wr.cell? ⟨w.heap.size, 0, none⟩ = some (.iface 91 (.pointer (some ⟨bm, 0, none⟩))) := H0.out.2.2.1.cell rfl
      have t1 : wr.cell? ⟨w.heap.size, 1, none⟩ = some (.int .i64 (t : Int)) := H0.out.2.2.1.cell rfl
      have hgr := H0.out.1.lt
      have n1 : ¬ (pl : Int) = (E : Int) := by omega
      have n2 : ((pl : Int) == (E : Int)) = false := by rw [beq_eq_false_iff_ne]; exact n1
      have n3 : decide ((pl : Int) = (E : Int)) = false := decide_eq_false n1
      go_wp2_with fail
      go_quiet (fail)
      go_wp2_with fail
      refine (HCALL.out _ (by exact H0.out.2.1) (by exact H0.out.1)).mono ?_
      rintro e w5 ⟨rfl, hM5, hB5, hG5⟩
      have hA0 : RowBlk 39 (wr.drewN nq) (w.heap.size + 1) [.int .i64 0, .int .u64 0, .slice none 0 0] := H0.out.2.2.2.1
      have hA5 : RowBlk 39 w5 (w.heap.size + 1) [.int .i64 0, .int .u64 0, .slice none 0 0] := RowBlk.same hA0 (hB5.block _ hA0.lt (by omega))
      have hB0 : ButS (fun b => b = bm ∨ b = bw ∨ b = g) w (wr.drewN nq) := buts_drewN H0.out.2.2.2.2 _
      have H5 := Lib.hid (And.intro hG5 (And.intro hM5 (And.intro hA5 (hB0.trans hB5))))
      clear hG5 hM5 hA5 hB5 hA0 hB0 c3 c4 c7 t0 t1
      go_wp2_with fail
      go_roundw
      case rel => exact .inr ⟨rfl, H5⟩
      case measure => simp [boolM]
    · have c7 : wr.cell? ⟨g, 7, none⟩ = some (.bool false) := H1.out.1.cell rfl
      have c3 : wr.cell? ⟨g, 3, none⟩ = some (.int .i64 (E : Int)) := H1.out.1.cell rfl
      have c4 : wr.cell? ⟨g, 4, none⟩ = some (.int .i64 (E : Int)) := H1.out.1.cell rfl
      have a0 := H1.out.2.2.1.cell (i := 0) rfl
      have a1 := H1.out.2.2.1.cell (i := 1) rfl
      have a2 := H1.out.2.2.1.cell (i := 2) rfl
      have z0 : ∀ j, wr.frozen? ⟨w.heap.size + 1, j, none⟩ = false := fun j => H1.out.2.2.1.free
      have hgr := H1.out.1.lt
      have n1 : g ≠ w.heap.size + 1 := by omega
      have n2 : w.heap.size + 1 ≠ g := by omega
      go_wp2_with fail
      go_quiet (fail)
      have H2 : Hid (RowBlk 214 (wr.drewN nq) g (AlcVs k m E E false x false 0) ∧ MemIs 133 (wr.drewN nq) bm bw (l) ({ c with r := c.r + 1 }) ∧ RowBlk 39 (wr.drewN nq) (w.heap.size + 1) [.int .i64 0, .int .u64 0, .slice none 0 0] ∧ ButS (fun b => b = bm ∨ b = bw ∨ b = g) w (wr.drewN nq)) := Lib.hid ⟨H1.out.1, H1.out.2.1, H1.out.2.2.1, buts_drewN H1.out.2.2.2 _⟩
      clear a0 a1 a2 z0 hgr H1
      generalize wr.drewN nq = wr at H2 ⊢
      have H1 := H2
      have a0 := H1.out.2.2.1.cell (i := 0) rfl
      have a1 := H1.out.2.2.1.cell (i := 1) rfl
      have a2 := H1.out.2.2.1.cell (i := 2) rfl
      have z0 : ∀ j, wr.frozen? ⟨w.heap.size + 1, j, none⟩ = false := fun j => H1.out.2.2.1.free
      have hgr := H1.out.1.lt
      have HX : Hid (RowBlk 39 (((wr.setCell ⟨w.heap.size + 1, 0, none⟩ (.int .i64 6)).setCell ⟨w.heap.size + 1, 1, none⟩ (.int .u64 0)).setCell ⟨w.heap.size + 1, 2, none⟩ (.slice none 0 0)) (w.heap.size + 1) [.int .i64 6, .int .u64 0, .slice none 0 0] ∧ RowBlk 214 (((wr.setCell ⟨w.heap.size + 1, 0, none⟩ (.int .i64 6)).setCell ⟨w.heap.size + 1, 1, none⟩ (.int .u64 0)).setCell ⟨w.heap.size + 1, 2, none⟩ (.slice none 0 0)) g (AlcVs k m E E false x false 0) ∧ MemIs 133 (((wr.setCell ⟨w.heap.size + 1, 0, none⟩ (.int .i64 6)).setCell ⟨w.heap.size + 1, 1, none⟩ (.int .u64 0)).setCell ⟨w.heap.size + 1, 2, none⟩ (.slice none 0 0)) bm bw (l) ({ c with r := c.r + 1 }) ∧ ButS (fun b => b = bm ∨ b = bw ∨ b = g) w (((wr.setCell ⟨w.heap.size + 1, 0, none⟩ (.int .i64 6)).setCell ⟨w.heap.size + 1, 1, none⟩ (.int .u64 0)).setCell ⟨w.heap.size + 1, 2, none⟩ (.slice none 0 0))) := Lib.hid
        ⟨((H1.out.2.2.1.put 0 _).put 1 _).put 2 _, ((H1.out.1.other n1 _).other n1 _).other n1 _, ((H1.out.2.1.setNew _ _ (by omega) (by omega)).setNew _ _ (by omega) (by omega)).setNew _ _ (by omega) (by omega), ((H1.out.2.2.2.setCell (.inr (by show w.heap.size ≤ w.heap.size + 1; omega)) _).setCell (.inr (by show w.heap.size ≤ w.heap.size + 1; omega)) _).setCell (.inr (by show w.heap.size ≤ w.heap.size + 1; omega)) _⟩
      go_wp2_with fail
      generalize (((wr.setCell ⟨w.heap.size + 1, 0, none⟩ (.int .i64 6)).setCell ⟨w.heap.size + 1, 1, none⟩ (.int .u64 0)).setCell ⟨w.heap.size + 1, 2, none⟩ (.slice none 0 0)) = W5 at HX ⊢
      have q0 := HX.out.1.cell (i := 0) rfl
      have q1 := HX.out.1.cell (i := 1) rfl
      have q2 := HX.out.1.cell (i := 2) rfl
      exact bodyPost_ret (v := .tuple #[.agg #[.int .i64 6, .int .u64 0, .slice none 0 0], .bool true]) (by simp [results, Try.results152, go_sem, q0, q1, q2]) rfl ⟨rfl, HX.out.2.2.1, HX.out.2.2.2, HX.out.2.1⟩
set_option maxRecDepth 100000 in
set_option maxHeartbeats 2000000 in
theorem alc_mark (k m pl E x v g bm bw a : Nat) (l : List Nat) (c : Cn) (t : Nat) (w : World) (hM : MemIs 133 w bm bw l c) (hg : RowBlk 214 w g (AlcVs k m pl E true x false 0)) (ha : a < l.length) (hl : l.length ≤ 65536) (hpl : pl = a + 2) (hE : pl < E) (hE2 : E ≤ 65536) (hc : c.w < 9223372036854775807) (hxx : x ≤ 1000000) (hx2 : x % 2 = 0) (hv : x / 2 + 1 = v) :
    Calls Try.prog 152 #[.pointer (some ⟨g, 0, none⟩), turnAgg bm (t : Int)] w (PoolStepped 0 (pl + 1024 * v) true g bm bw (AlcVs k m pl E true x true v) (l.set a (x + 3)) { c with w := c.w + 1 } w) := by
  have hgm : g ≠ bm := by intro e; have h1 := hg; have h2 := hM.1; unfold RowBlk at h1; rw [e, h2] at h1; simp at h1
  have hgw : g ≠ bw := by intro e; have h1 := hg; have h2 := hM.2.1; unfold RowBlk at h1; rw [e, h2] at h1; simp at h1
  have HX0 := hx2
  have HVAL : Hid ((pl : Int) + 1024 * (v : Int) = ((pl + 1024 * v : Nat) : Int)) := Lib.hid (by omega)
  have hv6 : v ≤ 1000000 := by omega

  have HMK : Hid (∀ W : World, Calls Try.prog 119 #[.agg #[.int .i64 (k : Int), .int .i64 (m : Int), .int .i64 0], .int .i64 (pl : Int)] W fun e w' => e = .returned (.int .i64 (a : Int)) ∧ Below W.heap.size W w') := Lib.hid (fun W => pool_markAt k m a pl hpl (by omega) W)
  have HCALL : Hid (∀ W : World, MemIs 133 W bm bw l c → RowBlk 214 W g (AlcVs k m pl E true x false 0) → Calls Try.prog 154 #[.pointer (some ⟨g, 0, none⟩), turnAgg bm (t : Int), .int .i64 (a : Int)] W (PoolLooked g bm bw (AlcVs k m pl E true x true v) (l.set a (x + 3)) ({ c with w := c.w + 1 }) W)) := Lib.hid (fun W h1 h2 => (by have := pool_markF k m pl E x g bm bw a l c t W h1 h2 ha hl hc (by omega) hx2; rw [hv] at this; exact this))
  have HM := Lib.hid hM
  have HG := Lib.hid hg
  have hbm := hM.lt1
  have hbw := hM.lt2
  have hgl := hg.lt
  have hpl6 : pl ≤ 70000 := by omega
  clear hM hg HX0 hpl
  unfold turnAgg at *
  go_enter Try.func152, Try.ntmps152
  go_wp2_with fail
  have HMa : Hid (MemIs 133 ((w.alloc (.cells #[.iface 91 (.pointer (some ⟨bm, 0, none⟩)), .int .i64 (t : Int)] 107)).alloc (.cells #[.int .i64 0, .int .u64 0, .slice none 0 0] 39)) bm bw l c) := Lib.hid ((HM.out.alloc _).alloc _)
  have HGa : Hid (RowBlk 214 ((w.alloc (.cells #[.iface 91 (.pointer (some ⟨bm, 0, none⟩)), .int .i64 (t : Int)] 107)).alloc (.cells #[.int .i64 0, .int .u64 0, .slice none 0 0] 39)) g (AlcVs k m pl E true x false 0)) := Lib.hid ((HG.out.alloc _).alloc _)
  have HTa : Hid (RowBlk 107 ((w.alloc (.cells #[.iface 91 (.pointer (some ⟨bm, 0, none⟩)), .int .i64 (t : Int)] 107)).alloc (.cells #[.int .i64 0, .int .u64 0, .slice none 0 0] 39)) w.heap.size [.iface 91 (.pointer (some ⟨bm, 0, none⟩)), .int .i64 (t : Int)]) := Lib.hid ((RowBlk.new _ _ _).alloc _)
  have HAa : Hid (RowBlk 39 ((w.alloc (.cells #[.iface 91 (.pointer (some ⟨bm, 0, none⟩)), .int .i64 (t : Int)] 107)).alloc (.cells #[.int .i64 0, .int .u64 0, .slice none 0 0] 39)) (w.heap.size + 1) [.int .i64 0, .int .u64 0, .slice none 0 0]) := Lib.hid (by
    have h := RowBlk.new (w.alloc (.cells #[.iface 91 (.pointer (some ⟨bm, 0, none⟩)), .int .i64 (t : Int)] 107)) [.int .i64 0, .int .u64 0, .slice none 0 0] 39
    have e : (w.alloc (.cells #[.iface 91 (.pointer (some ⟨bm, 0, none⟩)), .int .i64 (t : Int)] 107)).heap.size = w.heap.size + 1 := by simp
    rw [e] at h; exact h)
  have HBa : Hid (ButS (fun b => b = bm ∨ b = bw ∨ b = g) w ((w.alloc (.cells #[.iface 91 (.pointer (some ⟨bm, 0, none⟩)), .int .i64 (t : Int)] 107)).alloc (.cells #[.int .i64 0, .int .u64 0, .slice none 0 0] 39))) := Lib.hid (((ButS.refl _ _).alloc _).alloc _)
  generalize ((w.alloc (.cells #[.iface 91 (.pointer (some ⟨bm, 0, none⟩)), .int .i64 (t : Int)] 107)).alloc (.cells #[.int .i64 0, .int .u64 0, .slice none 0 0] 39)) = wa at HMa HGa HTa HAa HBa ⊢
  have d0 : wa.cell? ⟨g, 0, none⟩ = some (.int .i64 (k : Int)) := HGa.out.cell rfl
  have d1 : wa.cell? ⟨g, 1, none⟩ = some (.int .i64 (m : Int)) := HGa.out.cell rfl
  have d2 : wa.cell? ⟨g, 2, none⟩ = some (.int .i64 0) := HGa.out.cell rfl
  have d3 : wa.cell? ⟨g, 3, none⟩ = some (.int .i64 (pl : Int)) := HGa.out.cell rfl
  go_step3
  go_wp2_with fail
  go_region_held3 (fun w' => w'.cell? ⟨g, 0, none⟩ = some (.int .i64 (k : Int)) ∧ w'.cell? ⟨g, 1, none⟩ = some (.int .i64 (m : Int)) ∧ w'.cell? ⟨g, 2, none⟩ = some (.int .i64 0) ∧ w'.cell? ⟨g, 3, none⟩ = some (.int .i64 (pl : Int)))
    (first | with_reducible exact ⟨d0, d1, d2, d3⟩ | go_keep)
    (first
      | (go_at_call 119
         refine (HMK.out _).mono ?_
         rintro e w4 ⟨rfl, hb4⟩
         have hG4 := HGa.out.drew.same (hb4.block _ HGa.out.lt)
         have hT4 := HTa.out.drew.same (hb4.block _ HTa.out.lt)
         have hA4 := HAa.out.drew.same (hb4.block _ HAa.out.lt)
         have d0 : w4.cell? ⟨g, 0, none⟩ = some (.int .i64 (k : Int)) := hG4.cell rfl
         have d1 : w4.cell? ⟨g, 1, none⟩ = some (.int .i64 (m : Int)) := hG4.cell rfl
         have d2 : w4.cell? ⟨g, 2, none⟩ = some (.int .i64 0) := hG4.cell rfl
         have d3 : w4.cell? ⟨g, 3, none⟩ = some (.int .i64 (pl : Int)) := hG4.cell rfl
         have HG4 := Lib.hid hG4
         have HT4 := Lib.hid hT4
         have HA4 := Lib.hid hA4
         have HM4 := Lib.hid (HMa.out.drew.of_blocks (hb4.block _ HMa.out.lt1) (hb4.block _ HMa.out.lt2))
         have HB4 := Lib.hid (HBa.out.drew.trans (ButS.of_below hb4))
         clear hG4 hT4 hA4 hb4))
  have hg4 := HG4.out.lt
  clear d0 d1 d2 d3
  go_wp2_with fail
  go_step3
  go_wp2_with fail
  go_loopw [7] (fun mv wr => (mv = .bool false ∧ Hid (RowBlk 214 wr g (AlcVs k m pl E true x false 0) ∧ MemIs 133 wr bm bw l c ∧ RowBlk 107 wr w.heap.size [.iface 91 (.pointer (some ⟨bm, 0, none⟩)), .int .i64 (t : Int)] ∧ RowBlk 39 wr (w.heap.size + 1) [.int .i64 0, .int .u64 0, .slice none 0 0] ∧ ButS (fun b => b = bm ∨ b = bw ∨ b = g) w wr)) ∨
      (mv = .bool true ∧ Hid (RowBlk 214 wr g (AlcVs k m pl E true x true v) ∧ MemIs 133 wr bm bw (l.set a (x + 3)) ({ c with w := c.w + 1 }) ∧ RowBlk 39 wr (w.heap.size + 1) [.int .i64 0, .int .u64 0, .slice none 0 0] ∧ ButS (fun b => b = bm ∨ b = bw ∨ b = g) w wr))) (fun mv _ => boolM mv)
  case atStart => exact .inl ⟨rfl, Lib.hid ⟨HG4.out, HM4.out, HT4.out, HA4.out, HB4.out⟩⟩
  case round =>
    rcases hrel with ⟨rfl, H0⟩ | ⟨rfl, H1⟩
    · have c3 : wr.cell? ⟨g, 3, none⟩ = some (.int .i64 (pl : Int)) := H0.out.1.cell rfl
      have c4 : wr.cell? ⟨g, 4, none⟩ = some (.int .i64 (E : Int)) := H0.out.1.cell rfl
      have c5 : wr.cell? ⟨g, 5, none⟩ = some (.bool true) := H0.out.1.cell rfl
      have c7 : wr.cell? ⟨g, 7, none⟩ = some (.bool false) := H0.out.1.cell rfl
      have t0 : wr.cell? ⟨w.heap.size, 0, none⟩ = some (.iface 91 (.pointer (some ⟨bm, 0, none⟩))) := H0.out.2.2.1.cell rfl
      have t1 : wr.cell? ⟨w.heap.size, 1, none⟩ = some (.int .i64 (t : Int)) := H0.out.2.2.1.cell rfl
      have hgr := H0.out.1.lt
      have n1 : ¬ (pl : Int) = (E : Int) := by omega
      have n2 : ((pl : Int) == (E : Int)) = false := by rw [beq_eq_false_iff_ne]; exact n1
      have n3 : decide ((pl : Int) = (E : Int)) = false := decide_eq_false n1
      go_wp2_with fail
      go_quiet (fail)
      go_wp2_with fail
      refine (HCALL.out _ (by exact H0.out.2.1) (by exact H0.out.1)).mono ?_
      rintro e w5 ⟨rfl, hM5, hB5, hG5⟩
      have hA0 : RowBlk 39 (wr.drewN nq) (w.heap.size + 1) [.int .i64 0, .int .u64 0, .slice none 0 0] := H0.out.2.2.2.1
      have hA5 : RowBlk 39 w5 (w.heap.size + 1) [.int .i64 0, .int .u64 0, .slice none 0 0] := RowBlk.same hA0 (hB5.block _ hA0.lt (by omega))
      have hB0 : ButS (fun b => b = bm ∨ b = bw ∨ b = g) w (wr.drewN nq) := buts_drewN H0.out.2.2.2.2 _
      have H5 := Lib.hid (And.intro hG5 (And.intro hM5 (And.intro hA5 (hB0.trans hB5))))
      clear hG5 hM5 hA5 hB5 hA0 hB0 c3 c4 c7 t0 t1
      go_wp2_with fail
      go_roundw
      case rel => exact .inr ⟨rfl, H5⟩
      case measure => simp [boolM]
    · have c7 : wr.cell? ⟨g, 7, none⟩ = some (.bool true) := H1.out.1.cell rfl
      have c3 : wr.cell? ⟨g, 3, none⟩ = some (.int .i64 (pl : Int)) := H1.out.1.cell rfl
      have c8 : wr.cell? ⟨g, 8, none⟩ = some (.int .u64 (v : Int)) := H1.out.1.cell rfl
      have w1 : ((pl : Int) + 1024 * (v : Int)) ≤ 18446744073709551615 := by omega
      have a0 := H1.out.2.2.1.cell (i := 0) rfl
      have a1 := H1.out.2.2.1.cell (i := 1) rfl
      have a2 := H1.out.2.2.1.cell (i := 2) rfl
      have z0 : ∀ j, wr.frozen? ⟨w.heap.size + 1, j, none⟩ = false := fun j => H1.out.2.2.1.free
      have hgr := H1.out.1.lt
      have n1 : g ≠ w.heap.size + 1 := by omega
      have n2 : w.heap.size + 1 ≠ g := by omega
      have HX : Hid (RowBlk 39 (((wr.setCell ⟨w.heap.size + 1, 0, none⟩ (.int .i64 0)).setCell ⟨w.heap.size + 1, 1, none⟩ (.int .u64 ((pl : Int) + 1024 * (v : Int)))).setCell ⟨w.heap.size + 1, 2, none⟩ (.slice none 0 0)) (w.heap.size + 1) [.int .i64 0, .int .u64 ((pl : Int) + 1024 * (v : Int)), .slice none 0 0] ∧ RowBlk 214 (((wr.setCell ⟨w.heap.size + 1, 0, none⟩ (.int .i64 0)).setCell ⟨w.heap.size + 1, 1, none⟩ (.int .u64 ((pl : Int) + 1024 * (v : Int)))).setCell ⟨w.heap.size + 1, 2, none⟩ (.slice none 0 0)) g (AlcVs k m pl E true x true v) ∧ MemIs 133 (((wr.setCell ⟨w.heap.size + 1, 0, none⟩ (.int .i64 0)).setCell ⟨w.heap.size + 1, 1, none⟩ (.int .u64 ((pl : Int) + 1024 * (v : Int)))).setCell ⟨w.heap.size + 1, 2, none⟩ (.slice none 0 0)) bm bw (l.set a (x + 3)) ({ c with w := c.w + 1 }) ∧ ButS (fun b => b = bm ∨ b = bw ∨ b = g) w (((wr.setCell ⟨w.heap.size + 1, 0, none⟩ (.int .i64 0)).setCell ⟨w.heap.size + 1, 1, none⟩ (.int .u64 ((pl : Int) + 1024 * (v : Int)))).setCell ⟨w.heap.size + 1, 2, none⟩ (.slice none 0 0))) := Lib.hid
        ⟨((H1.out.2.2.1.put 0 _).put 1 _).put 2 _, ((H1.out.1.other n1 _).other n1 _).other n1 _, ((H1.out.2.1.setNew _ _ (by omega) (by omega)).setNew _ _ (by omega) (by omega)).setNew _ _ (by omega) (by omega), ((H1.out.2.2.2.setCell (.inr (by show w.heap.size ≤ w.heap.size + 1; omega)) _).setCell (.inr (by show w.heap.size ≤ w.heap.size + 1; omega)) _).setCell (.inr (by show w.heap.size ≤ w.heap.size + 1; omega)) _⟩
      go_wp2_with fail
      go_region
      go_wp2_with fail
      generalize (((wr.setCell ⟨w.heap.size + 1, 0, none⟩ (.int .i64 0)).setCell ⟨w.heap.size + 1, 1, none⟩ (.int .u64 ((pl : Int) + 1024 * (v : Int)))).setCell ⟨w.heap.size + 1, 2, none⟩ (.slice none 0 0)) = W5 at HX ⊢
      have q0 := HX.out.1.cell (i := 0) rfl
      have q1 := HX.out.1.cell (i := 1) rfl
      have q2 := HX.out.1.cell (i := 2) rfl
      exact bodyPost_ret (v := .tuple #[.agg #[.int .i64 0, .int .u64 ((pl : Int) + 1024 * (v : Int)), .slice none 0 0], .bool true]) (by simp [results, Try.results152, go_sem, q0, q1, q2]) rfl ⟨by rw [HVAL.out]; rfl, HX.out.2.2.1, HX.out.2.2.2.drew, HX.out.2.1⟩
def RelStepped (er : Nat) (bm bw : Nat) (l : List Nat) (c : Cn) (w : World) (en : Ending) (w' : World) : Prop := en = .returned (.tuple #[.agg #[.int .i64 (er : Int), .int .u64 0, .slice none 0 0], .bool true]) ∧ MemIs 133 w' bm bw l c ∧ ButS (fun b => b = bm ∨ b = bw) w w'
set_option maxRecDepth 100000 in
set_option maxHeartbeats 2000000 in
theorem rel_step (d : Bool) (er v bm bw a : Nat) (l : List Nat) (c : Cn) (t : Nat) (w : World) (hM : MemIs 133 w bm bw l c) (ha : a < l.length) (hl : l.length ≤ 65536) (hv : v ≤ 4611686018427387903) (hc : c.s < 9223372036854775807) (hd : decide (l.getD a 0 = 2 * v + 1) = d) (her : er = if d then 0 else 8) :
    Calls Try.prog 157 #[.agg #[.int .i64 (a : Int), .int .u64 (v : Int)], turnAgg bm (t : Int)] w (RelStepped er bm bw ((Acc.sw a (2 * v + 1) (2 * v)).run l c).2.1 ((Acc.sw a (2 * v + 1) (2 * v)).run l c).2.2 w) := by
  obtain ⟨y, hy⟩ : ∃ y, 2 * v + 1 = y := ⟨_, rfl⟩
  obtain ⟨z, hz⟩ : ∃ z, 2 * v = z := ⟨_, rfl⟩
  have HAL : Hid (∀ W : World, Calls Try.prog 155 #[.int .u64 (v : Int)] W fun e w' => e = .returned (.int .u64 (y : Int)) ∧ W = w') := Lib.hid (fun W => by rw [← hy]; exact pool_allocated v hv W)
  have HRL : Hid (∀ W : World, Calls Try.prog 156 #[.int .u64 (v : Int)] W fun e w' => e = .returned (.int .u64 (z : Int)) ∧ W = w') := Lib.hid (fun W => by rw [← hz]; exact pool_released v hv W)
  rw [hy] at hd
  rw [hy, hz]
  have HSW : Hid (∀ W : World, MemIs 133 W bm bw l c → Calls Try.prog 163 #[.pointer (some ⟨bm, 0, none⟩), .int .i64 (a : Int), .int .u64 (y : Int), .int .u64 (z : Int)] W (AccPost (.bool d) (.sw a y z) bm bw l c W)) := Lib.hid (fun W hW => by rw [← hd]; exact sw_acc (i := a) y z hW ha hl hc)
  obtain ⟨L2, hL2⟩ : ∃ L2, ((Acc.sw a y z).run l c).2.1 = L2 := ⟨_, rfl⟩
  obtain ⟨C2, hC2⟩ : ∃ C2, ((Acc.sw a y z).run l c).2.2 = C2 := ⟨_, rfl⟩
  unfold AccPost at HSW
  rw [hL2, hC2] at HSW ⊢
  unfold turnAgg
  have HM := Lib.hid hM
  have HER := Lib.hid her
  have hmm := m_Swap ⟨bm, 0, none⟩
  have hbm := hM.lt1
  have hbw := hM.lt2
  have n0 : w.heap.size ≠ w.heap.size + 1 := by omega
  clear hM hy hz hd hL2 hC2 her
  go_enter Try.func157, Try.ntmps157
  go_wp2_with fail
  generalize hw3 : ((w.alloc (.cells #[.int .i64 (a : Int), .int .u64 (v : Int)] 216)).alloc (.cells #[.iface 91 (.pointer (some ⟨bm, 0, none⟩)), .int .i64 (t : Int)] 107)).alloc (.cells #[.int .i64 0, .int .u64 0, .slice none 0 0] 39) = wa
  have HMa : Hid (MemIs 133 wa bm bw l c) := Lib.hid (by rw [← hw3]; exact ((HM.out.alloc _).alloc _).alloc _)
  have HBa : Hid (ButS (fun b => b = bm ∨ b = bw) w wa) := Lib.hid (by rw [← hw3]; exact (((ButS.refl _ _).alloc _).alloc _).alloc _)
  have HRa : Hid (RowBlk 216 wa w.heap.size [.int .i64 (a : Int), .int .u64 (v : Int)]) := Lib.hid (by rw [← hw3]; exact ((RowBlk.new _ _ _).alloc _).alloc _)
  have HTa : Hid (RowBlk 107 wa (w.heap.size + 1) [.iface 91 (.pointer (some ⟨bm, 0, none⟩)), .int .i64 (t : Int)]) := Lib.hid (by
    rw [← hw3]
    have h := RowBlk.new (w.alloc (.cells #[.int .i64 (a : Int), .int .u64 (v : Int)] 216)) [.iface 91 (.pointer (some ⟨bm, 0, none⟩)), .int .i64 (t : Int)] 107
    have e : (w.alloc (.cells #[.int .i64 (a : Int), .int .u64 (v : Int)] 216)).heap.size = w.heap.size + 1 := by simp
    rw [e] at h; exact h.alloc _)
  have HAa : Hid (RowBlk 39 wa (w.heap.size + 1 + 1) [.int .i64 0, .int .u64 0, .slice none 0 0]) := Lib.hid (by
    rw [← hw3]
    have h := RowBlk.new ((w.alloc (.cells #[.int .i64 (a : Int), .int .u64 (v : Int)] 216)).alloc (.cells #[.iface 91 (.pointer (some ⟨bm, 0, none⟩)), .int .i64 (t : Int)] 107)) [.int .i64 0, .int .u64 0, .slice none 0 0] 39
    have e : ((w.alloc (.cells #[.int .i64 (a : Int), .int .u64 (v : Int)] 216)).alloc (.cells #[.iface 91 (.pointer (some ⟨bm, 0, none⟩)), .int .i64 (t : Int)] 107)).heap.size = w.heap.size + 1 + 1 := by simp
    rw [e] at h; exact h)
  clear hw3
  have d0 : wa.cell? ⟨w.heap.size, 0, none⟩ = some (.int .i64 (a : Int)) := HRa.out.cell rfl
  have d1 : wa.cell? ⟨w.heap.size, 1, none⟩ = some (.int .u64 (v : Int)) := HRa.out.cell rfl
  have t0 : wa.cell? ⟨w.heap.size + 1, 0, none⟩ = some (.iface 91 (.pointer (some ⟨bm, 0, none⟩))) := HTa.out.cell rfl
  go_region_held3 (fun w' => w'.cell? ⟨w.heap.size, 0, none⟩ = some (.int .i64 (a : Int)) ∧ w'.cell? ⟨w.heap.size, 1, none⟩ = some (.int .u64 (v : Int)) ∧ w'.cell? ⟨w.heap.size + 1, 0, none⟩ = some (.iface 91 (.pointer (some ⟨bm, 0, none⟩))))
    (first | with_reducible exact ⟨d0, d1, t0⟩ | go_keep)
    (first
      | (go_at_call 155
         refine (HAL.out _).mono ?_
         rintro e w4 ⟨rfl, rfl⟩)
      | (go_at_call 156
         refine (HRL.out _).mono ?_
         rintro e w4 ⟨rfl, rfl⟩)
      | (go_at_call 163
         refine (HSW.out _ HMa.out.drew).mono ?_
         rintro e w4 ⟨rfl, hM4, hB4⟩
         have hR4 := HRa.out.drew.same (hB4.block _ HRa.out.lt (by omega) (by omega))
         have hT4 := HTa.out.drew.same (hB4.block _ HTa.out.lt (by omega) (by omega))
         have hA4 := HAa.out.drew.same (hB4.block _ HAa.out.lt (by omega) (by omega))
         have d0 : w4.cell? ⟨w.heap.size, 0, none⟩ = some (.int .i64 (a : Int)) := hR4.cell rfl
         have d1 : w4.cell? ⟨w.heap.size, 1, none⟩ = some (.int .u64 (v : Int)) := hR4.cell rfl
         have t0 : w4.cell? ⟨w.heap.size + 1, 0, none⟩ = some (.iface 91 (.pointer (some ⟨bm, 0, none⟩))) := hT4.cell rfl
         have HA4 := Lib.hid hA4
         have HM4 := Lib.hid hM4
         have HB4 := Lib.hid hB4
         clear hR4 hT4 hA4 hM4 hB4))
  have a0 := HA4.out.cell (i := 0) rfl
  have a1 := HA4.out.cell (i := 1) rfl
  have a2 := HA4.out.cell (i := 2) rfl
  have z0 : ∀ j, w4.frozen? ⟨w.heap.size + 1 + 1, j, none⟩ = false := fun j => HA4.out.free
  have HX : Hid (∀ u : Value, RowBlk 39 (((w4.setCell ⟨w.heap.size + 1 + 1, 0, none⟩ u).setCell ⟨w.heap.size + 1 + 1, 1, none⟩ (.int .u64 0)).setCell ⟨w.heap.size + 1 + 1, 2, none⟩ (.slice none 0 0)) (w.heap.size + 1 + 1) [u, .int .u64 0, .slice none 0 0] ∧ MemIs 133 (((w4.setCell ⟨w.heap.size + 1 + 1, 0, none⟩ u).setCell ⟨w.heap.size + 1 + 1, 1, none⟩ (.int .u64 0)).setCell ⟨w.heap.size + 1 + 1, 2, none⟩ (.slice none 0 0)) bm bw L2 C2 ∧ ButS (fun b => b = bm ∨ b = bw) w (((w4.setCell ⟨w.heap.size + 1 + 1, 0, none⟩ u).setCell ⟨w.heap.size + 1 + 1, 1, none⟩ (.int .u64 0)).setCell ⟨w.heap.size + 1 + 1, 2, none⟩ (.slice none 0 0))) := Lib.hid (fun u =>
    ⟨((HA4.out.put 0 _).put 1 _).put 2 _, ((HM4.out.setNew _ _ (by omega) (by omega)).setNew _ _ (by omega) (by omega)).setNew _ _ (by omega) (by omega), (((HBa.out.drew.trans (ButS.of_but HB4.out (.inl rfl) (.inr rfl))).setCell (.inr (by show w.heap.size ≤ w.heap.size + 1 + 1; omega)) _).setCell (.inr (by show w.heap.size ≤ w.heap.size + 1 + 1; omega)) _).setCell (.inr (by show w.heap.size ≤ w.heap.size + 1 + 1; omega)) _⟩)
  clear d0 d1 t0
  cases d with
  | true =>
    have hx := HX.out (.int .i64 0)
    have HX := Lib.hid hx
    clear hx
    go_wp2_with fail
    generalize (((w4.setCell ⟨w.heap.size + 1 + 1, 0, none⟩ (.int .i64 0)).setCell ⟨w.heap.size + 1 + 1, 1, none⟩ (.int .u64 0)).setCell ⟨w.heap.size + 1 + 1, 2, none⟩ (.slice none 0 0)) = W5 at HX ⊢
    have q0 := HX.out.1.cell (i := 0) rfl
    have q1 := HX.out.1.cell (i := 1) rfl
    have q2 := HX.out.1.cell (i := 2) rfl
    exact bodyPost_ret (v := .tuple #[.agg #[.int .i64 0, .int .u64 0, .slice none 0 0], .bool true]) (by simp [results, Try.results157, go_sem, q0, q1, q2]) rfl ⟨by rw [HER.out]; rfl, HX.out.2.1, HX.out.2.2⟩
  | false =>
    have hx := HX.out (.int .i64 8)
    have HX := Lib.hid hx
    clear hx
    go_wp2_with fail
    generalize (((w4.setCell ⟨w.heap.size + 1 + 1, 0, none⟩ (.int .i64 8)).setCell ⟨w.heap.size + 1 + 1, 1, none⟩ (.int .u64 0)).setCell ⟨w.heap.size + 1 + 1, 2, none⟩ (.slice none 0 0)) = W5 at HX ⊢
    have q0 := HX.out.1.cell (i := 0) rfl
    have q1 := HX.out.1.cell (i := 1) rfl
    have q2 := HX.out.1.cell (i := 2) rfl
    exact bodyPost_ret (v := .tuple #[.agg #[.int .i64 8, .int .u64 0, .slice none 0 0], .bool true]) (by simp [results, Try.results157, go_sem, q0, q1, q2]) rfl ⟨by rw [HER.out]; rfl, HX.out.2.1, HX.out.2.2⟩
end Go.Proofs.Ytebfkkgemccbfaa
