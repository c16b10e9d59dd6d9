/- Walks of splitters: the steps. -/
import Derived.Test.YtglpalomhhhmhaaSQ4
import Derived.WalkMore
import Derived.ScopeJumps
namespace Go.Proofs.Ytglpalomhhhmhaa
open Go.ChangeShapes Go.WideShapes Go.ChangeAt Go.RowKit
set_option linter.unusedVariables false
set_option linter.unusedSimpArgs false
/-- one jump back to a label at most -/
def onceQ (P : Program) (l : Nat) (rest : Code) (Q : Exit → Act → World → Prop) : Exit → Act → World → Prop
  | .goto l', a, w => l' = l ∧ rest.wp P (Exit.noGoto Q) a w
  | e, a, w => Q e a w
theorem wp_scope_once {P : Program} {a : Act} {w : World} {Q : Exit → Act → World → Prop} {c rest : Code} (l : Nat) (hf : findLabel c l = some rest) (h : c.wp P (onceQ P l rest Q) a w) : (Code.scope c).wp P Q a w := by
  refine wp_scope_jumps l (fun a w => rest.wp P (Exit.noGoto Q) a w) (fun _ _ => 0) hf ?_ ?_
  · exact wp_mono h (fun e a w he => by cases e <;> exact he)
  · intro a w hJ
    exact wp_mono hJ (fun e a w he => by cases e <;> first | exact he.elim | exact he)
/-- a step that does not end the operation -/
def SpMore (g bo bm bw th st r c nm la cl : Nat) (l : List Nat) (cn : Cn) (w : World) (en : Ending) (w' : World) : Prop := en = .returned (.tuple #[.agg #[.int .i64 0, .int .u64 0, .slice none 0 0], .bool false]) ∧ MemIs 108 w' bm bw l cn ∧ ButS (fun b => b = bm ∨ b = bw ∨ b = g) w w' ∧ RowBlk 160 w' g (SpVs bo th st r c nm la cl)
/-- a step that takes a name -/
def SpStop (n g bo bm bw th nm : Nat) (f : Nat → Bool) (l : List Nat) (cn : Cn) (w : World) (en : Ending) (w' : World) : Prop := en = .returned (.tuple #[.agg #[.int .i64 0, .int .u64 (nm : Int), .slice none 0 0], .bool true]) ∧ MemIs 108 w' bm bw l cn ∧ ButS (fun b => b = bm ∨ b = bw ∨ (b = g ∨ b = bo)) w w' ∧ RowBlk 4 w' bo (prVs n (setB f th))
set_option maxRecDepth 100000 in
set_option maxHeartbeats 4000000 in
theorem sp_s0 (g bo bm bw th : Nat) (l : List Nat) (cn : Cn) (t : Nat) (w : World) (hM : MemIs 108 w bm bw l cn) (hg : RowBlk 160 w g (SpVs bo th 0 0 0 0 0 0)) (hth : th < 16) (hnm : 1 < l.length) (hl : l.length ≤ 65536) (hc : cn.w < 9223372036854775807) :
    Calls Try.prog 73 #[.pointer (some ⟨g, 0, none⟩), turnAgg bm (t : Int)] w (SpMore g bo bm bw th 2 0 0 0 0 1 ((Acc.wr 0 (th + 1)).run l cn).2.1 ((Acc.wr 0 (th + 1)).run l cn).2.2 w) := by
  unfold SpVs at hg
  have hgm : g ≠ bm := by intro e; have h1 := hg; have h2 := hM.1; unfold RowBlk at h1; rw [e, h2] at h1; simp at h1
  have hgw : g ≠ bw := by intro e; have h1 := hg; have h2 := hM.2.1; unfold RowBlk at h1; rw [e, h2] at h1; simp at h1
  obtain ⟨L2, hL2⟩ : ∃ L2, ((Acc.wr 0 (th + 1)).run l cn).2.1 = L2 := ⟨_, rfl⟩
  obtain ⟨C2, hC2⟩ : ∃ C2, ((Acc.wr 0 (th + 1)).run l cn).2.2 = C2 := ⟨_, rfl⟩
  have HSW : Hid (∀ W : World, MemIs 108 W bm bw l cn → Calls Try.prog 88 #[.pointer (some ⟨bm, 0, none⟩), .int .i64 0, .int .u64 ((th : Int) + 1)] W fun e w' => e = .returned (.tuple #[]) ∧ MemIs 108 w' bm bw L2 C2 ∧ But bm bw W w') := Lib.hid (fun W hW => by
    have h := wr_acc (i := 0) (th + 1) hW (by omega) hl hc
    unfold AccPost at h
    rw [hL2, hC2] at h
    exact h)
  rw [hL2, hC2]
  have HM := Lib.hid hM
  have HG : Hid (RowBlk 160 w g [.int .i64 0, .int .u64 ((th : Int) + 1), .pointer (some ⟨bo, th, none⟩), .int .i64 0, .int .i64 0, .int .i64 0, .int .i64 0, .int .i64 0, .int .i64 0]) := Lib.hid hg
  have hmm := m_Write ⟨bm, 0, none⟩
  have hbm := hM.lt1
  have hbw := hM.lt2
  have hgl := hg.lt
  unfold turnAgg
  clear hM hg
  go_enter Try.func73, Try.ntmps73
  go_wp2_with fail
  have HMa : Hid (MemIs 108 ((w.alloc (.cells #[.iface 71 (.pointer (some ⟨bm, 0, none⟩)), .int .i64 (t : Int)] 87)).alloc (.cells #[.int .i64 0, .int .u64 0, .slice none 0 0] 39)) bm bw l cn) := Lib.hid ((HM.out.alloc _).alloc _)
  have HTa : Hid (RowBlk 87 ((w.alloc (.cells #[.iface 71 (.pointer (some ⟨bm, 0, none⟩)), .int .i64 (t : Int)] 87)).alloc (.cells #[.int .i64 0, .int .u64 0, .slice none 0 0] 39)) w.heap.size [.iface 71 (.pointer (some ⟨bm, 0, none⟩)), .int .i64 (t : Int)]) := Lib.hid ((RowBlk.new w [.iface 71 (.pointer (some ⟨bm, 0, none⟩)), .int .i64 (t : Int)] 87).alloc _)
  have HAa : Hid (RowBlk 39 ((w.alloc (.cells #[.iface 71 (.pointer (some ⟨bm, 0, none⟩)), .int .i64 (t : Int)] 87)).alloc (.cells #[.int .i64 0, .int .u64 0, .slice none 0 0] 39)) (w.heap.size + 1) [.int .i64 0, .int .u64 0, .slice none 0 0]) := Lib.hid (by
    have h := RowBlk.new (w.alloc (.cells #[.iface 71 (.pointer (some ⟨bm, 0, none⟩)), .int .i64 (t : Int)] 87)) [.int .i64 0, .int .u64 0, .slice none 0 0] 39
    have e : (w.alloc (.cells #[.iface 71 (.pointer (some ⟨bm, 0, none⟩)), .int .i64 (t : Int)] 87)).heap.size = w.heap.size + 1 := by simp
    rw [e] at h; exact h)
  have HBa : Hid (ButS (fun b => b = bm ∨ b = bw ∨ b = g) w ((w.alloc (.cells #[.iface 71 (.pointer (some ⟨bm, 0, none⟩)), .int .i64 (t : Int)] 87)).alloc (.cells #[.int .i64 0, .int .u64 0, .slice none 0 0] 39))) := Lib.hid (((ButS.refl _ _).alloc _).alloc _)
  have HZa : Hid (((w.alloc (.cells #[.iface 71 (.pointer (some ⟨bm, 0, none⟩)), .int .i64 (t : Int)] 87)).alloc (.cells #[.int .i64 0, .int .u64 0, .slice none 0 0] 39)).heap.size = w.heap.size + 2) := Lib.hid (by simp)
  have HGa : Hid (RowBlk 160 ((w.alloc (.cells #[.iface 71 (.pointer (some ⟨bm, 0, none⟩)), .int .i64 (t : Int)] 87)).alloc (.cells #[.int .i64 0, .int .u64 0, .slice none 0 0] 39)) g [.int .i64 0, .int .u64 ((th : Int) + 1), .pointer (some ⟨bo, th, none⟩), .int .i64 0, .int .i64 0, .int .i64 0, .int .i64 0, .int .i64 0, .int .i64 0]) := Lib.hid ((HG.out.alloc _).alloc _)
  generalize ((w.alloc (.cells #[.iface 71 (.pointer (some ⟨bm, 0, none⟩)), .int .i64 (t : Int)] 87)).alloc (.cells #[.int .i64 0, .int .u64 0, .slice none 0 0] 39)) = wa at HMa HTa HAa HBa HZa HGa ⊢
  have g3 : wa.cell? ⟨g, 3, none⟩ = some (.int .i64 0) := HGa.out.cell rfl
  refine wp_scope_once 0 rfl ?_
  go_wp2_with fail
  go_step3
  go_upto_region 4 with fail
  go_wp2_with fail
  refine (sp_arrive g 0 0 ((th : Int) + 1) 0 0 0 0 ⟨bo, th, none⟩ wa HGa.out (by omega)).mono ?_
  rintro e w7 ⟨rfl, hg7, hb7⟩
  have HGb : Hid (RowBlk 160 w7 g [.int .i64 0, .int .u64 ((th : Int) + 1), .pointer (some ⟨bo, th, none⟩), .int .i64 1, .int .i64 0, .int .i64 0, .int .i64 0, .int .i64 0, .int .i64 1]) := Lib.hid hg7
  have HMb := Lib.hid (HMa.out.of_blocks (hb7.block bm HMa.out.lt1 (fun e => hgm e.symm)) (hb7.block bw HMa.out.lt2 (fun e => hgw e.symm)))
  have HTb := Lib.hid (HTa.out.same (hb7.block w.heap.size HTa.out.lt (by omega)))
  have HAb := Lib.hid (HAa.out.same (hb7.block (w.heap.size + 1) HAa.out.lt (by omega)))
  have HBb : Hid (ButS (fun b => b = bm ∨ b = bw ∨ b = g) w w7) := Lib.hid (HBa.out.trans (hb7.mono (fun b _ h => .inr (.inr h))))
  clear hg7 hb7 g3
  have g3 : w7.cell? ⟨g, 3, none⟩ = some (.int .i64 1) := HGb.out.cell rfl
  go_wp2_with fail
  go_step3
  refine ⟨rfl, ?_⟩
  go_upto_region 7 with fail
  have t0 : w7.cell? ⟨w.heap.size, 0, none⟩ = some (.iface 71 (.pointer (some ⟨bm, 0, none⟩))) := HTb.out.cell rfl
  have g1 : w7.cell? ⟨g, 1, none⟩ = some (.int .u64 ((th : Int) + 1)) := HGb.out.cell rfl
  have g7 : w7.cell? ⟨g, 7, none⟩ = some (.int .i64 0) := HGb.out.cell rfl
  go_region_held3 (fun w' => w'.cell? ⟨w.heap.size, 0, none⟩ = some (.iface 71 (.pointer (some ⟨bm, 0, none⟩))) ∧ w'.cell? ⟨g, 1, none⟩ = some (.int .u64 ((th : Int) + 1)) ∧ w'.cell? ⟨g, 7, none⟩ = some (.int .i64 0))
    (first | with_reducible exact ⟨t0, g1, g7⟩ | go_keep)
    (first
      | (go_at_call 88
         refine (HSW.out _ HMb.out.drew).mono ?_
         rintro e w4 ⟨rfl, hM4, hB4⟩
         have HG4 := Lib.hid (HGb.out.drew.same (hB4.block (g) HGb.out.lt hgm hgw))
         have HT4 := Lib.hid (HTb.out.drew.same (hB4.block (w.heap.size) HTb.out.lt (by omega) (by omega)))
         have HA4 := Lib.hid (HAb.out.drew.same (hB4.block (w.heap.size + 1) HAb.out.lt (by omega) (by omega)))
         have HM4 := Lib.hid hM4
         have HB4 : Hid (ButS (fun b => b = bm ∨ b = bw ∨ b = g) w w4) := Lib.hid (HBb.out.drew.trans (ButS.of_but hB4 (.inl rfl) (.inr (.inl rfl))))
         have t0 : w4.cell? ⟨w.heap.size, 0, none⟩ = some (.iface 71 (.pointer (some ⟨bm, 0, none⟩))) := HT4.out.cell rfl
         have g1 : w4.cell? ⟨g, 1, none⟩ = some (.int .u64 ((th : Int) + 1)) := HG4.out.cell rfl
         have g7 : w4.cell? ⟨g, 7, none⟩ = some (.int .i64 0) := HG4.out.cell rfl
         clear hM4 hB4)
      | fail)
  clear t0 g1 g7 g3
  have g3 : w4.cell? ⟨g, 3, none⟩ = some (.int .i64 1) := HG4.out.cell rfl
  have fz4 : ∀ j, w4.frozen? ⟨g, j, none⟩ = false := fun j => HG4.out.free
  have HM6 := Lib.hid (show MemIs 108 (w4.setCell ⟨g, 3, none⟩ (.int .i64 2)) bm bw L2 C2 from (HM4.out.setNew _ _ hgm hgw))
  have HT6 := Lib.hid (show RowBlk 87 (w4.setCell ⟨g, 3, none⟩ (.int .i64 2)) w.heap.size [.iface 71 (.pointer (some ⟨bm, 0, none⟩)), .int .i64 (t : Int)] from (HT4.out.other (a := ⟨g, 3, none⟩) (show w.heap.size ≠ g by omega) _))
  have HA6 := Lib.hid (show RowBlk 39 (w4.setCell ⟨g, 3, none⟩ (.int .i64 2)) (w.heap.size + 1) [.int .i64 0, .int .u64 0, .slice none 0 0] from (HA4.out.other (a := ⟨g, 3, none⟩) (show w.heap.size + 1 ≠ g by omega) _))
  have HG6 := Lib.hid (show RowBlk 160 (w4.setCell ⟨g, 3, none⟩ (.int .i64 2)) g [.int .i64 0, .int .u64 ((th : Int) + 1), .pointer (some ⟨bo, th, none⟩), .int .i64 2, .int .i64 0, .int .i64 0, .int .i64 0, .int .i64 0, .int .i64 1] from (HG4.out.put 3 _))
  have HB6 := Lib.hid (show ButS (fun b => b = bm ∨ b = bw ∨ b = g) w (w4.setCell ⟨g, 3, none⟩ (.int .i64 2)) from (HB4.out.setCell (x := ⟨g, 3, none⟩) (.inl (.inr (.inr rfl))) _))
  go_upto_region 23 with fail
  generalize (w4.setCell ⟨g, 3, none⟩ (.int .i64 2)) = w6 at HM6 HT6 HA6 HG6 HB6 ⊢
  clear g3 fz4
  have n1 : g ≠ w.heap.size + 1 := by omega
  have n2 : w.heap.size + 1 ≠ g := by omega
  have a0 : w6.cell? ⟨w.heap.size + 1, 0, none⟩ = some (.int .i64 0) := HA6.out.cell rfl
  have a1 : w6.cell? ⟨w.heap.size + 1, 1, none⟩ = some (.int .u64 0) := HA6.out.cell rfl
  have a2 : w6.cell? ⟨w.heap.size + 1, 2, none⟩ = some (.slice none 0 0) := HA6.out.cell rfl
  have z0 : ∀ j, w6.frozen? ⟨w.heap.size + 1, j, none⟩ = false := fun j => HA6.out.free
  have HX : Hid (RowBlk 39 (((w6.setCell ⟨w.heap.size + 1, 0, none⟩ (.int .i64 0)).setCell ⟨w.heap.size + 1, 1, none⟩ (.int .u64 0)).setCell ⟨w.heap.size + 1, 2, none⟩ (.slice none 0 0)) (w.heap.size + 1) [.int .i64 0, .int .u64 0, .slice none 0 0] ∧ RowBlk 160 (((w6.setCell ⟨w.heap.size + 1, 0, none⟩ (.int .i64 0)).setCell ⟨w.heap.size + 1, 1, none⟩ (.int .u64 0)).setCell ⟨w.heap.size + 1, 2, none⟩ (.slice none 0 0)) g [.int .i64 0, .int .u64 ((th : Int) + 1), .pointer (some ⟨bo, th, none⟩), .int .i64 2, .int .i64 0, .int .i64 0, .int .i64 0, .int .i64 0, .int .i64 1] ∧ MemIs 108 (((w6.setCell ⟨w.heap.size + 1, 0, none⟩ (.int .i64 0)).setCell ⟨w.heap.size + 1, 1, none⟩ (.int .u64 0)).setCell ⟨w.heap.size + 1, 2, none⟩ (.slice none 0 0)) bm bw L2 C2 ∧ ButS (fun b => b = bm ∨ b = bw ∨ b = g) w (((w6.setCell ⟨w.heap.size + 1, 0, none⟩ (.int .i64 0)).setCell ⟨w.heap.size + 1, 1, none⟩ (.int .u64 0)).setCell ⟨w.heap.size + 1, 2, none⟩ (.slice none 0 0))) := Lib.hid
    ⟨(((HA6.out.put 0 _).put 1 _).put 2 _), (((HG6.out.other (a := ⟨w.heap.size + 1, 0, none⟩) n1 _).other (a := ⟨w.heap.size + 1, 1, none⟩) n1 _).other (a := ⟨w.heap.size + 1, 2, none⟩) n1 _), (((HM6.out.setNew _ _ (by omega) (by omega)).setNew _ _ (by omega) (by omega)).setNew _ _ (by omega) (by omega)), (((HB6.out.setCell (x := ⟨w.heap.size + 1, 0, none⟩) (.inr (by show w.heap.size ≤ w.heap.size + 1; omega)) _).setCell (x := ⟨w.heap.size + 1, 1, none⟩) (.inr (by show w.heap.size ≤ w.heap.size + 1; omega)) _).setCell (x := ⟨w.heap.size + 1, 2, none⟩) (.inr (by show w.heap.size ≤ w.heap.size + 1; omega)) _)⟩
  go_wp2_with fail
  generalize (((w6.setCell ⟨w.heap.size + 1, 0, none⟩ (.int .i64 0)).setCell ⟨w.heap.size + 1, 1, none⟩ (.int .u64 0)).setCell ⟨w.heap.size + 1, 2, none⟩ (.slice none 0 0)) = W5 at HX ⊢
  have q0 := HX.out.1.cell (i := 0) rfl
  have q1 := HX.out.1.cell (i := 1) rfl
  have q2 := HX.out.1.cell (i := 2) rfl
  exact bodyPost_ret (v := .tuple #[.agg #[.int .i64 0, .int .u64 0, .slice none 0 0], .bool false]) (by simp [results, Try.results73, go_sem, q0, q1, q2]) rfl ⟨rfl, HX.out.2.2.1, HX.out.2.2.2, HX.out.2.1⟩
set_option maxRecDepth 100000 in
set_option maxHeartbeats 4000000 in
theorem sp_s1 (g bo bm bw th r c nm : Nat) (l : List Nat) (cn : Cn) (t : Nat) (w : World) (hM : MemIs 108 w bm bw l cn) (hg : RowBlk 160 w g (SpVs bo th 1 r c nm (2 * nm) (2 * nm + 1))) (hth : th < 16) (hnm : 2 * nm + 1 < l.length) (hl : l.length ≤ 65536) (hc : cn.w < 9223372036854775807) :
    Calls Try.prog 73 #[.pointer (some ⟨g, 0, none⟩), turnAgg bm (t : Int)] w (SpMore g bo bm bw th 2 r c nm (2 * nm) (2 * nm + 1) ((Acc.wr (2 * nm) (th + 1)).run l cn).2.1 ((Acc.wr (2 * nm) (th + 1)).run l cn).2.2 w) := by
  unfold SpVs at hg
  have hgm : g ≠ bm := by intro e; have h1 := hg; have h2 := hM.1; unfold RowBlk at h1; rw [e, h2] at h1; simp at h1
  have hgw : g ≠ bw := by intro e; have h1 := hg; have h2 := hM.2.1; unfold RowBlk at h1; rw [e, h2] at h1; simp at h1
  obtain ⟨L2, hL2⟩ : ∃ L2, ((Acc.wr (2 * nm) (th + 1)).run l cn).2.1 = L2 := ⟨_, rfl⟩
  obtain ⟨C2, hC2⟩ : ∃ C2, ((Acc.wr (2 * nm) (th + 1)).run l cn).2.2 = C2 := ⟨_, rfl⟩
  have HSW : Hid (∀ W : World, MemIs 108 W bm bw l cn → Calls Try.prog 88 #[.pointer (some ⟨bm, 0, none⟩), .int .i64 (2 * (nm : Int)), .int .u64 ((th : Int) + 1)] W fun e w' => e = .returned (.tuple #[]) ∧ MemIs 108 w' bm bw L2 C2 ∧ But bm bw W w') := Lib.hid (fun W hW => by
    have h := wr_acc (i := 2 * nm) (th + 1) hW (by omega) hl hc
    unfold AccPost at h
    rw [hL2, hC2] at h
    exact h)
  rw [hL2, hC2]
  have HM := Lib.hid hM
  have HG : Hid (RowBlk 160 w g [.int .i64 0, .int .u64 ((th : Int) + 1), .pointer (some ⟨bo, th, none⟩), .int .i64 1, .int .i64 (r : Int), .int .i64 (c : Int), .int .i64 (nm : Int), .int .i64 (2 * (nm : Int)), .int .i64 (2 * (nm : Int) + 1)]) := Lib.hid hg
  have hmm := m_Write ⟨bm, 0, none⟩
  have hbm := hM.lt1
  have hbw := hM.lt2
  have hgl := hg.lt
  unfold turnAgg
  clear hM hg
  go_enter Try.func73, Try.ntmps73
  go_wp2_with fail
  have HMa : Hid (MemIs 108 ((w.alloc (.cells #[.iface 71 (.pointer (some ⟨bm, 0, none⟩)), .int .i64 (t : Int)] 87)).alloc (.cells #[.int .i64 0, .int .u64 0, .slice none 0 0] 39)) bm bw l cn) := Lib.hid ((HM.out.alloc _).alloc _)
  have HTa : Hid (RowBlk 87 ((w.alloc (.cells #[.iface 71 (.pointer (some ⟨bm, 0, none⟩)), .int .i64 (t : Int)] 87)).alloc (.cells #[.int .i64 0, .int .u64 0, .slice none 0 0] 39)) w.heap.size [.iface 71 (.pointer (some ⟨bm, 0, none⟩)), .int .i64 (t : Int)]) := Lib.hid ((RowBlk.new w [.iface 71 (.pointer (some ⟨bm, 0, none⟩)), .int .i64 (t : Int)] 87).alloc _)
  have HAa : Hid (RowBlk 39 ((w.alloc (.cells #[.iface 71 (.pointer (some ⟨bm, 0, none⟩)), .int .i64 (t : Int)] 87)).alloc (.cells #[.int .i64 0, .int .u64 0, .slice none 0 0] 39)) (w.heap.size + 1) [.int .i64 0, .int .u64 0, .slice none 0 0]) := Lib.hid (by
    have h := RowBlk.new (w.alloc (.cells #[.iface 71 (.pointer (some ⟨bm, 0, none⟩)), .int .i64 (t : Int)] 87)) [.int .i64 0, .int .u64 0, .slice none 0 0] 39
    have e : (w.alloc (.cells #[.iface 71 (.pointer (some ⟨bm, 0, none⟩)), .int .i64 (t : Int)] 87)).heap.size = w.heap.size + 1 := by simp
    rw [e] at h; exact h)
  have HBa : Hid (ButS (fun b => b = bm ∨ b = bw ∨ b = g) w ((w.alloc (.cells #[.iface 71 (.pointer (some ⟨bm, 0, none⟩)), .int .i64 (t : Int)] 87)).alloc (.cells #[.int .i64 0, .int .u64 0, .slice none 0 0] 39))) := Lib.hid (((ButS.refl _ _).alloc _).alloc _)
  have HZa : Hid (((w.alloc (.cells #[.iface 71 (.pointer (some ⟨bm, 0, none⟩)), .int .i64 (t : Int)] 87)).alloc (.cells #[.int .i64 0, .int .u64 0, .slice none 0 0] 39)).heap.size = w.heap.size + 2) := Lib.hid (by simp)
  have HGa : Hid (RowBlk 160 ((w.alloc (.cells #[.iface 71 (.pointer (some ⟨bm, 0, none⟩)), .int .i64 (t : Int)] 87)).alloc (.cells #[.int .i64 0, .int .u64 0, .slice none 0 0] 39)) g [.int .i64 0, .int .u64 ((th : Int) + 1), .pointer (some ⟨bo, th, none⟩), .int .i64 1, .int .i64 (r : Int), .int .i64 (c : Int), .int .i64 (nm : Int), .int .i64 (2 * (nm : Int)), .int .i64 (2 * (nm : Int) + 1)]) := Lib.hid ((HG.out.alloc _).alloc _)
  generalize ((w.alloc (.cells #[.iface 71 (.pointer (some ⟨bm, 0, none⟩)), .int .i64 (t : Int)] 87)).alloc (.cells #[.int .i64 0, .int .u64 0, .slice none 0 0] 39)) = wa at HMa HTa HAa HBa HZa HGa ⊢
  have t0 : wa.cell? ⟨w.heap.size, 0, none⟩ = some (.iface 71 (.pointer (some ⟨bm, 0, none⟩))) := HTa.out.cell rfl
  have g1 : wa.cell? ⟨g, 1, none⟩ = some (.int .u64 ((th : Int) + 1)) := HGa.out.cell rfl
  have g2 : wa.cell? ⟨g, 2, none⟩ = some (.pointer (some ⟨bo, th, none⟩)) := HGa.out.cell rfl
  have g3 : wa.cell? ⟨g, 3, none⟩ = some (.int .i64 1) := HGa.out.cell rfl
  have g4 : wa.cell? ⟨g, 4, none⟩ = some (.int .i64 (r : Int)) := HGa.out.cell rfl
  have g5 : wa.cell? ⟨g, 5, none⟩ = some (.int .i64 (c : Int)) := HGa.out.cell rfl
  have g6 : wa.cell? ⟨g, 6, none⟩ = some (.int .i64 (nm : Int)) := HGa.out.cell rfl
  have g7 : wa.cell? ⟨g, 7, none⟩ = some (.int .i64 (2 * (nm : Int))) := HGa.out.cell rfl
  have g8 : wa.cell? ⟨g, 8, none⟩ = some (.int .i64 (2 * (nm : Int) + 1)) := HGa.out.cell rfl
  go_step3
  go_wp2_with fail
  go_step3
  go_upto_region 7 with fail
  go_region_held3 (fun w' => w'.cell? ⟨w.heap.size, 0, none⟩ = some (.iface 71 (.pointer (some ⟨bm, 0, none⟩))) ∧ w'.cell? ⟨g, 1, none⟩ = some (.int .u64 ((th : Int) + 1)) ∧ w'.cell? ⟨g, 7, none⟩ = some (.int .i64 (2 * (nm : Int))))
    (first | with_reducible exact ⟨t0, g1, g7⟩ | go_keep)
    (first
      | (go_at_call 88
         refine (HSW.out _ HMa.out.drew).mono ?_
         rintro e w4 ⟨rfl, hM4, hB4⟩
         have HG4 := Lib.hid (HGa.out.drew.same (hB4.block (g) HGa.out.lt hgm hgw))
         have HT4 := Lib.hid (HTa.out.drew.same (hB4.block (w.heap.size) HTa.out.lt (by omega) (by omega)))
         have HA4 := Lib.hid (HAa.out.drew.same (hB4.block (w.heap.size + 1) HAa.out.lt (by omega) (by omega)))
         have HM4 := Lib.hid hM4
         have HB4 : Hid (ButS (fun b => b = bm ∨ b = bw ∨ b = g) w w4) := Lib.hid (HBa.out.drew.trans (ButS.of_but hB4 (.inl rfl) (.inr (.inl rfl))))
         have t0 : w4.cell? ⟨w.heap.size, 0, none⟩ = some (.iface 71 (.pointer (some ⟨bm, 0, none⟩))) := HT4.out.cell rfl
         have g1 : w4.cell? ⟨g, 1, none⟩ = some (.int .u64 ((th : Int) + 1)) := HG4.out.cell rfl
         have g7 : w4.cell? ⟨g, 7, none⟩ = some (.int .i64 (2 * (nm : Int))) := HG4.out.cell rfl
         clear hM4 hB4)
      | fail)
  clear t0 g7 g1 g2 g3 g4 g5 g6 g8
  have g3 : w4.cell? ⟨g, 3, none⟩ = some (.int .i64 1) := HG4.out.cell rfl
  have fz4 : ∀ j, w4.frozen? ⟨g, j, none⟩ = false := fun j => HG4.out.free
  have HM6 := Lib.hid (show MemIs 108 (w4.setCell ⟨g, 3, none⟩ (.int .i64 2)) bm bw L2 C2 from (HM4.out.setNew _ _ hgm hgw))
  have HT6 := Lib.hid (show RowBlk 87 (w4.setCell ⟨g, 3, none⟩ (.int .i64 2)) w.heap.size [.iface 71 (.pointer (some ⟨bm, 0, none⟩)), .int .i64 (t : Int)] from (HT4.out.other (a := ⟨g, 3, none⟩) (show w.heap.size ≠ g by omega) _))
  have HA6 := Lib.hid (show RowBlk 39 (w4.setCell ⟨g, 3, none⟩ (.int .i64 2)) (w.heap.size + 1) [.int .i64 0, .int .u64 0, .slice none 0 0] from (HA4.out.other (a := ⟨g, 3, none⟩) (show w.heap.size + 1 ≠ g by omega) _))
  have HG6 := Lib.hid (show RowBlk 160 (w4.setCell ⟨g, 3, none⟩ (.int .i64 2)) g [.int .i64 0, .int .u64 ((th : Int) + 1), .pointer (some ⟨bo, th, none⟩), .int .i64 2, .int .i64 (r : Int), .int .i64 (c : Int), .int .i64 (nm : Int), .int .i64 (2 * (nm : Int)), .int .i64 (2 * (nm : Int) + 1)] from (HG4.out.put 3 _))
  have HB6 := Lib.hid (show ButS (fun b => b = bm ∨ b = bw ∨ b = g) w (w4.setCell ⟨g, 3, none⟩ (.int .i64 2)) from (HB4.out.setCell (x := ⟨g, 3, none⟩) (.inl (.inr (.inr rfl))) _))
  go_upto_region 23 with fail
  generalize (w4.setCell ⟨g, 3, none⟩ (.int .i64 2)) = w6 at HM6 HT6 HA6 HG6 HB6 ⊢
  clear g3 fz4
  have n1 : g ≠ w.heap.size + 1 := by omega
  have n2 : w.heap.size + 1 ≠ g := by omega
  have a0 : w6.cell? ⟨w.heap.size + 1, 0, none⟩ = some (.int .i64 0) := HA6.out.cell rfl
  have a1 : w6.cell? ⟨w.heap.size + 1, 1, none⟩ = some (.int .u64 0) := HA6.out.cell rfl
  have a2 : w6.cell? ⟨w.heap.size + 1, 2, none⟩ = some (.slice none 0 0) := HA6.out.cell rfl
  have z0 : ∀ j, w6.frozen? ⟨w.heap.size + 1, j, none⟩ = false := fun j => HA6.out.free
  have HX : Hid (RowBlk 39 (((w6.setCell ⟨w.heap.size + 1, 0, none⟩ (.int .i64 0)).setCell ⟨w.heap.size + 1, 1, none⟩ (.int .u64 0)).setCell ⟨w.heap.size + 1, 2, none⟩ (.slice none 0 0)) (w.heap.size + 1) [.int .i64 0, .int .u64 0, .slice none 0 0] ∧ RowBlk 160 (((w6.setCell ⟨w.heap.size + 1, 0, none⟩ (.int .i64 0)).setCell ⟨w.heap.size + 1, 1, none⟩ (.int .u64 0)).setCell ⟨w.heap.size + 1, 2, none⟩ (.slice none 0 0)) g [.int .i64 0, .int .u64 ((th : Int) + 1), .pointer (some ⟨bo, th, none⟩), .int .i64 2, .int .i64 (r : Int), .int .i64 (c : Int), .int .i64 (nm : Int), .int .i64 (2 * (nm : Int)), .int .i64 (2 * (nm : Int) + 1)] ∧ MemIs 108 (((w6.setCell ⟨w.heap.size + 1, 0, none⟩ (.int .i64 0)).setCell ⟨w.heap.size + 1, 1, none⟩ (.int .u64 0)).setCell ⟨w.heap.size + 1, 2, none⟩ (.slice none 0 0)) bm bw L2 C2 ∧ ButS (fun b => b = bm ∨ b = bw ∨ b = g) w (((w6.setCell ⟨w.heap.size + 1, 0, none⟩ (.int .i64 0)).setCell ⟨w.heap.size + 1, 1, none⟩ (.int .u64 0)).setCell ⟨w.heap.size + 1, 2, none⟩ (.slice none 0 0))) := Lib.hid
    ⟨(((HA6.out.put 0 _).put 1 _).put 2 _), (((HG6.out.other (a := ⟨w.heap.size + 1, 0, none⟩) n1 _).other (a := ⟨w.heap.size + 1, 1, none⟩) n1 _).other (a := ⟨w.heap.size + 1, 2, none⟩) n1 _), (((HM6.out.setNew _ _ (by omega) (by omega)).setNew _ _ (by omega) (by omega)).setNew _ _ (by omega) (by omega)), (((HB6.out.setCell (x := ⟨w.heap.size + 1, 0, none⟩) (.inr (by show w.heap.size ≤ w.heap.size + 1; omega)) _).setCell (x := ⟨w.heap.size + 1, 1, none⟩) (.inr (by show w.heap.size ≤ w.heap.size + 1; omega)) _).setCell (x := ⟨w.heap.size + 1, 2, none⟩) (.inr (by show w.heap.size ≤ w.heap.size + 1; omega)) _)⟩
  go_wp2_with fail
  generalize (((w6.setCell ⟨w.heap.size + 1, 0, none⟩ (.int .i64 0)).setCell ⟨w.heap.size + 1, 1, none⟩ (.int .u64 0)).setCell ⟨w.heap.size + 1, 2, none⟩ (.slice none 0 0)) = W5 at HX ⊢
  have q0 := HX.out.1.cell (i := 0) rfl
  have q1 := HX.out.1.cell (i := 1) rfl
  have q2 := HX.out.1.cell (i := 2) rfl
  exact bodyPost_ret (v := .tuple #[.agg #[.int .i64 0, .int .u64 0, .slice none 0 0], .bool false]) (by simp [results, Try.results73, go_sem, q0, q1, q2]) rfl ⟨rfl, HX.out.2.2.1, HX.out.2.2.2, HX.out.2.1⟩
set_option maxRecDepth 100000 in
set_option maxHeartbeats 4000000 in
theorem sp_s2n (g bo bm bw th r c nm : Nat) (l : List Nat) (cn : Cn) (t : Nat) (w : World) (hM : MemIs 108 w bm bw l cn) (hg : RowBlk 160 w g (SpVs bo th 2 r c nm (2 * nm) (2 * nm + 1))) (hth : th < 16) (hnm : 2 * nm + 1 < l.length) (hl : l.length ≤ 65536) (hc : cn.r < 9223372036854775807) (hv : l.getD (2 * nm + 1) 0 = 0) :
    Calls Try.prog 73 #[.pointer (some ⟨g, 0, none⟩), turnAgg bm (t : Int)] w (SpMore g bo bm bw th 3 r c nm (2 * nm) (2 * nm + 1) ((Acc.rd (2 * nm + 1)).run l cn).2.1 ((Acc.rd (2 * nm + 1)).run l cn).2.2 w) := by
  unfold SpVs at hg
  have hgm : g ≠ bm := by intro e; have h1 := hg; have h2 := hM.1; unfold RowBlk at h1; rw [e, h2] at h1; simp at h1
  have hgw : g ≠ bw := by intro e; have h1 := hg; have h2 := hM.2.1; unfold RowBlk at h1; rw [e, h2] at h1; simp at h1
  obtain ⟨L2, hL2⟩ : ∃ L2, ((Acc.rd (2 * nm + 1)).run l cn).2.1 = L2 := ⟨_, rfl⟩
  obtain ⟨C2, hC2⟩ : ∃ C2, ((Acc.rd (2 * nm + 1)).run l cn).2.2 = C2 := ⟨_, rfl⟩
  have HSW : Hid (∀ W : World, MemIs 108 W bm bw l cn → Calls Try.prog 86 #[.pointer (some ⟨bm, 0, none⟩), .int .i64 (2 * (nm : Int) + 1)] W fun e w' => e = .returned (.int .u64 0) ∧ MemIs 108 w' bm bw L2 C2 ∧ But bm bw W w') := Lib.hid (fun W hW => by
    have h := rd_acc (i := 2 * nm + 1) hW (by omega) hl hc
    unfold AccPost at h
    rw [hL2, hC2, hv] at h
    exact h)
  rw [hL2, hC2]
  clear hv
  have HM := Lib.hid hM
  have HG : Hid (RowBlk 160 w g [.int .i64 0, .int .u64 ((th : Int) + 1), .pointer (some ⟨bo, th, none⟩), .int .i64 2, .int .i64 (r : Int), .int .i64 (c : Int), .int .i64 (nm : Int), .int .i64 (2 * (nm : Int)), .int .i64 (2 * (nm : Int) + 1)]) := Lib.hid hg
  have hmm := m_Read ⟨bm, 0, none⟩
  have hbm := hM.lt1
  have hbw := hM.lt2
  have hgl := hg.lt
  unfold turnAgg
  clear hM hg
  go_enter Try.func73, Try.ntmps73
  go_wp2_with fail
  have HMa : Hid (MemIs 108 ((w.alloc (.cells #[.iface 71 (.pointer (some ⟨bm, 0, none⟩)), .int .i64 (t : Int)] 87)).alloc (.cells #[.int .i64 0, .int .u64 0, .slice none 0 0] 39)) bm bw l cn) := Lib.hid ((HM.out.alloc _).alloc _)
  have HTa : Hid (RowBlk 87 ((w.alloc (.cells #[.iface 71 (.pointer (some ⟨bm, 0, none⟩)), .int .i64 (t : Int)] 87)).alloc (.cells #[.int .i64 0, .int .u64 0, .slice none 0 0] 39)) w.heap.size [.iface 71 (.pointer (some ⟨bm, 0, none⟩)), .int .i64 (t : Int)]) := Lib.hid ((RowBlk.new w [.iface 71 (.pointer (some ⟨bm, 0, none⟩)), .int .i64 (t : Int)] 87).alloc _)
  have HAa : Hid (RowBlk 39 ((w.alloc (.cells #[.iface 71 (.pointer (some ⟨bm, 0, none⟩)), .int .i64 (t : Int)] 87)).alloc (.cells #[.int .i64 0, .int .u64 0, .slice none 0 0] 39)) (w.heap.size + 1) [.int .i64 0, .int .u64 0, .slice none 0 0]) := Lib.hid (by
    have h := RowBlk.new (w.alloc (.cells #[.iface 71 (.pointer (some ⟨bm, 0, none⟩)), .int .i64 (t : Int)] 87)) [.int .i64 0, .int .u64 0, .slice none 0 0] 39
    have e : (w.alloc (.cells #[.iface 71 (.pointer (some ⟨bm, 0, none⟩)), .int .i64 (t : Int)] 87)).heap.size = w.heap.size + 1 := by simp
    rw [e] at h; exact h)
  have HBa : Hid (ButS (fun b => b = bm ∨ b = bw ∨ b = g) w ((w.alloc (.cells #[.iface 71 (.pointer (some ⟨bm, 0, none⟩)), .int .i64 (t : Int)] 87)).alloc (.cells #[.int .i64 0, .int .u64 0, .slice none 0 0] 39))) := Lib.hid (((ButS.refl _ _).alloc _).alloc _)
  have HZa : Hid (((w.alloc (.cells #[.iface 71 (.pointer (some ⟨bm, 0, none⟩)), .int .i64 (t : Int)] 87)).alloc (.cells #[.int .i64 0, .int .u64 0, .slice none 0 0] 39)).heap.size = w.heap.size + 2) := Lib.hid (by simp)
  have HGa : Hid (RowBlk 160 ((w.alloc (.cells #[.iface 71 (.pointer (some ⟨bm, 0, none⟩)), .int .i64 (t : Int)] 87)).alloc (.cells #[.int .i64 0, .int .u64 0, .slice none 0 0] 39)) g [.int .i64 0, .int .u64 ((th : Int) + 1), .pointer (some ⟨bo, th, none⟩), .int .i64 2, .int .i64 (r : Int), .int .i64 (c : Int), .int .i64 (nm : Int), .int .i64 (2 * (nm : Int)), .int .i64 (2 * (nm : Int) + 1)]) := Lib.hid ((HG.out.alloc _).alloc _)
  generalize ((w.alloc (.cells #[.iface 71 (.pointer (some ⟨bm, 0, none⟩)), .int .i64 (t : Int)] 87)).alloc (.cells #[.int .i64 0, .int .u64 0, .slice none 0 0] 39)) = wa at HMa HTa HAa HBa HZa HGa ⊢
  have t0 : wa.cell? ⟨w.heap.size, 0, none⟩ = some (.iface 71 (.pointer (some ⟨bm, 0, none⟩))) := HTa.out.cell rfl
  have g1 : wa.cell? ⟨g, 1, none⟩ = some (.int .u64 ((th : Int) + 1)) := HGa.out.cell rfl
  have g2 : wa.cell? ⟨g, 2, none⟩ = some (.pointer (some ⟨bo, th, none⟩)) := HGa.out.cell rfl
  have g3 : wa.cell? ⟨g, 3, none⟩ = some (.int .i64 2) := HGa.out.cell rfl
  have g4 : wa.cell? ⟨g, 4, none⟩ = some (.int .i64 (r : Int)) := HGa.out.cell rfl
  have g5 : wa.cell? ⟨g, 5, none⟩ = some (.int .i64 (c : Int)) := HGa.out.cell rfl
  have g6 : wa.cell? ⟨g, 6, none⟩ = some (.int .i64 (nm : Int)) := HGa.out.cell rfl
  have g7 : wa.cell? ⟨g, 7, none⟩ = some (.int .i64 (2 * (nm : Int))) := HGa.out.cell rfl
  have g8 : wa.cell? ⟨g, 8, none⟩ = some (.int .i64 (2 * (nm : Int) + 1)) := HGa.out.cell rfl
  have fza : ∀ j, wa.frozen? ⟨g, j, none⟩ = false := fun j => HGa.out.free
  go_step3
  go_wp2_with fail
  go_step3
  have HMb := Lib.hid (show MemIs 108 (wa.setCell ⟨g, 3, none⟩ (.int .i64 3)) bm bw l cn from (HMa.out.setNew _ _ hgm hgw))
  have HTb := Lib.hid (show RowBlk 87 (wa.setCell ⟨g, 3, none⟩ (.int .i64 3)) w.heap.size [.iface 71 (.pointer (some ⟨bm, 0, none⟩)), .int .i64 (t : Int)] from (HTa.out.other (a := ⟨g, 3, none⟩) (show w.heap.size ≠ g by omega) _))
  have HAb := Lib.hid (show RowBlk 39 (wa.setCell ⟨g, 3, none⟩ (.int .i64 3)) (w.heap.size + 1) [.int .i64 0, .int .u64 0, .slice none 0 0] from (HAa.out.other (a := ⟨g, 3, none⟩) (show w.heap.size + 1 ≠ g by omega) _))
  have HGb := Lib.hid (show RowBlk 160 (wa.setCell ⟨g, 3, none⟩ (.int .i64 3)) g [.int .i64 0, .int .u64 ((th : Int) + 1), .pointer (some ⟨bo, th, none⟩), .int .i64 3, .int .i64 (r : Int), .int .i64 (c : Int), .int .i64 (nm : Int), .int .i64 (2 * (nm : Int)), .int .i64 (2 * (nm : Int) + 1)] from (HGa.out.put 3 _))
  have HBb := Lib.hid (show ButS (fun b => b = bm ∨ b = bw ∨ b = g) w (wa.setCell ⟨g, 3, none⟩ (.int .i64 3)) from (HBa.out.setCell (x := ⟨g, 3, none⟩) (.inl (.inr (.inr rfl))) _))
  go_upto_region 11 with fail
  generalize (wa.setCell ⟨g, 3, none⟩ (.int .i64 3)) = wb at HMb HTb HAb HGb HBb ⊢
  clear t0 g1 g2 g3 g4 g5 g6 g7 g8 fza
  have t0 : wb.cell? ⟨w.heap.size, 0, none⟩ = some (.iface 71 (.pointer (some ⟨bm, 0, none⟩))) := HTb.out.cell rfl
  have g8 : wb.cell? ⟨g, 8, none⟩ = some (.int .i64 (2 * (nm : Int) + 1)) := HGb.out.cell rfl
  go_region_held3 (fun w' => w'.cell? ⟨w.heap.size, 0, none⟩ = some (.iface 71 (.pointer (some ⟨bm, 0, none⟩))) ∧ w'.cell? ⟨g, 8, none⟩ = some (.int .i64 (2 * (nm : Int) + 1)))
    (first | with_reducible exact ⟨t0, g8⟩ | go_keep)
    (first
      | (go_at_call 86
         refine (HSW.out _ HMb.out.drew).mono ?_
         rintro e w4 ⟨rfl, hM4, hB4⟩
         have HG4 := Lib.hid (HGb.out.drew.same (hB4.block (g) HGb.out.lt hgm hgw))
         have HT4 := Lib.hid (HTb.out.drew.same (hB4.block (w.heap.size) HTb.out.lt (by omega) (by omega)))
         have HA4 := Lib.hid (HAb.out.drew.same (hB4.block (w.heap.size + 1) HAb.out.lt (by omega) (by omega)))
         have HM4 := Lib.hid hM4
         have HB4 : Hid (ButS (fun b => b = bm ∨ b = bw ∨ b = g) w w4) := Lib.hid (HBb.out.drew.trans (ButS.of_but hB4 (.inl rfl) (.inr (.inl rfl))))
         have t0 : w4.cell? ⟨w.heap.size, 0, none⟩ = some (.iface 71 (.pointer (some ⟨bm, 0, none⟩))) := HT4.out.cell rfl
         have g8 : w4.cell? ⟨g, 8, none⟩ = some (.int .i64 (2 * (nm : Int) + 1)) := HG4.out.cell rfl
         clear hM4 hB4)
      | fail)
  clear t0 g8
  go_upto_region 23 with fail
  have n1 : g ≠ w.heap.size + 1 := by omega
  have n2 : w.heap.size + 1 ≠ g := by omega
  have a0 : w4.cell? ⟨w.heap.size + 1, 0, none⟩ = some (.int .i64 0) := HA4.out.cell rfl
  have a1 : w4.cell? ⟨w.heap.size + 1, 1, none⟩ = some (.int .u64 0) := HA4.out.cell rfl
  have a2 : w4.cell? ⟨w.heap.size + 1, 2, none⟩ = some (.slice none 0 0) := HA4.out.cell rfl
  have z0 : ∀ j, w4.frozen? ⟨w.heap.size + 1, j, none⟩ = false := fun j => HA4.out.free
  have HX : Hid (RowBlk 39 (((w4.setCell ⟨w.heap.size + 1, 0, none⟩ (.int .i64 0)).setCell ⟨w.heap.size + 1, 1, none⟩ (.int .u64 0)).setCell ⟨w.heap.size + 1, 2, none⟩ (.slice none 0 0)) (w.heap.size + 1) [.int .i64 0, .int .u64 0, .slice none 0 0] ∧ RowBlk 160 (((w4.setCell ⟨w.heap.size + 1, 0, none⟩ (.int .i64 0)).setCell ⟨w.heap.size + 1, 1, none⟩ (.int .u64 0)).setCell ⟨w.heap.size + 1, 2, none⟩ (.slice none 0 0)) g [.int .i64 0, .int .u64 ((th : Int) + 1), .pointer (some ⟨bo, th, none⟩), .int .i64 3, .int .i64 (r : Int), .int .i64 (c : Int), .int .i64 (nm : Int), .int .i64 (2 * (nm : Int)), .int .i64 (2 * (nm : Int) + 1)] ∧ MemIs 108 (((w4.setCell ⟨w.heap.size + 1, 0, none⟩ (.int .i64 0)).setCell ⟨w.heap.size + 1, 1, none⟩ (.int .u64 0)).setCell ⟨w.heap.size + 1, 2, none⟩ (.slice none 0 0)) bm bw L2 C2 ∧ ButS (fun b => b = bm ∨ b = bw ∨ b = g) w (((w4.setCell ⟨w.heap.size + 1, 0, none⟩ (.int .i64 0)).setCell ⟨w.heap.size + 1, 1, none⟩ (.int .u64 0)).setCell ⟨w.heap.size + 1, 2, none⟩ (.slice none 0 0))) := Lib.hid
    ⟨(((HA4.out.put 0 _).put 1 _).put 2 _), (((HG4.out.other (a := ⟨w.heap.size + 1, 0, none⟩) n1 _).other (a := ⟨w.heap.size + 1, 1, none⟩) n1 _).other (a := ⟨w.heap.size + 1, 2, none⟩) n1 _), (((HM4.out.setNew _ _ (by omega) (by omega)).setNew _ _ (by omega) (by omega)).setNew _ _ (by omega) (by omega)), (((HB4.out.setCell (x := ⟨w.heap.size + 1, 0, none⟩) (.inr (by show w.heap.size ≤ w.heap.size + 1; omega)) _).setCell (x := ⟨w.heap.size + 1, 1, none⟩) (.inr (by show w.heap.size ≤ w.heap.size + 1; omega)) _).setCell (x := ⟨w.heap.size + 1, 2, none⟩) (.inr (by show w.heap.size ≤ w.heap.size + 1; omega)) _)⟩
  go_wp2_with fail
  generalize (((w4.setCell ⟨w.heap.size + 1, 0, none⟩ (.int .i64 0)).setCell ⟨w.heap.size + 1, 1, none⟩ (.int .u64 0)).setCell ⟨w.heap.size + 1, 2, none⟩ (.slice none 0 0)) = W5 at HX ⊢
  have q0 := HX.out.1.cell (i := 0) rfl
  have q1 := HX.out.1.cell (i := 1) rfl
  have q2 := HX.out.1.cell (i := 2) rfl
  exact bodyPost_ret (v := .tuple #[.agg #[.int .i64 0, .int .u64 0, .slice none 0 0], .bool false]) (by simp [results, Try.results73, go_sem, q0, q1, q2]) rfl ⟨rfl, HX.out.2.2.1, HX.out.2.2.2, HX.out.2.1⟩
set_option maxRecDepth 100000 in
set_option maxHeartbeats 4000000 in
theorem sp_s2r (g bo bm bw th r c nm : Nat) (l : List Nat) (cn : Cn) (t : Nat) (w : World) (hM : MemIs 108 w bm bw l cn) (hg : RowBlk 160 w g (SpVs bo th 2 r c nm (2 * nm) (2 * nm + 1))) (hth : th < 16) (hnm : 2 * nm + 1 < l.length) (hl : l.length ≤ 65536) (hc : cn.r < 9223372036854775807) (v : Nat) (hv : l.getD (2 * nm + 1) 0 = v) (hv0 : v ≠ 0) (hrc : r + (c + 1) ≤ 16) :
    Calls Try.prog 73 #[.pointer (some ⟨g, 0, none⟩), turnAgg bm (t : Int)] w (SpMore g bo bm bw th 1 r (c + 1) (spName r (c + 1)) (2 * spName r (c + 1)) (2 * spName r (c + 1) + 1) ((Acc.rd (2 * nm + 1)).run l cn).2.1 ((Acc.rd (2 * nm + 1)).run l cn).2.2 w) := by
  unfold SpVs at hg
  have hgm : g ≠ bm := by intro e; have h1 := hg; have h2 := hM.1; unfold RowBlk at h1; rw [e, h2] at h1; simp at h1
  have hgw : g ≠ bw := by intro e; have h1 := hg; have h2 := hM.2.1; unfold RowBlk at h1; rw [e, h2] at h1; simp at h1
  obtain ⟨L2, hL2⟩ : ∃ L2, ((Acc.rd (2 * nm + 1)).run l cn).2.1 = L2 := ⟨_, rfl⟩
  obtain ⟨C2, hC2⟩ : ∃ C2, ((Acc.rd (2 * nm + 1)).run l cn).2.2 = C2 := ⟨_, rfl⟩
  have HSW : Hid (∀ W : World, MemIs 108 W bm bw l cn → Calls Try.prog 86 #[.pointer (some ⟨bm, 0, none⟩), .int .i64 (2 * (nm : Int) + 1)] W fun e w' => e = .returned (.int .u64 (v : Int)) ∧ MemIs 108 w' bm bw L2 C2 ∧ But bm bw W w') := Lib.hid (fun W hW => by
    have h := rd_acc (i := 2 * nm + 1) hW (by omega) hl hc
    unfold AccPost at h
    rw [hL2, hC2, hv] at h
    exact h)
  rw [hL2, hC2]
  have hv1 : ¬ (v : Int) = 0 := by omega
  have hv2 : ((v : Int) == 0) = false := by rw [beq_eq_false_iff_ne]; exact hv1
  have hv3 : ((v : Int) != 0) = true := by rw [bne_iff_ne]; exact hv1
  obtain ⟨nz, hnz⟩ : ∃ nz, spName r (c + 1) = nz := ⟨_, rfl⟩
  rw [hnz]
  have HNZ := Lib.hid hnz
  clear hnz
  have hwc : IntKind.i64.wrap ((c : Int) + 1) = (c : Int) + 1 := by unfold IntKind.wrap; simp [IntKind.bits, IntKind.signed]; omega
  clear hv hv0
  have HM := Lib.hid hM
  have HG : Hid (RowBlk 160 w g [.int .i64 0, .int .u64 ((th : Int) + 1), .pointer (some ⟨bo, th, none⟩), .int .i64 2, .int .i64 (r : Int), .int .i64 (c : Int), .int .i64 (nm : Int), .int .i64 (2 * (nm : Int)), .int .i64 (2 * (nm : Int) + 1)]) := Lib.hid hg
  have hmm := m_Read ⟨bm, 0, none⟩
  have hbm := hM.lt1
  have hbw := hM.lt2
  have hgl := hg.lt
  unfold turnAgg
  clear hM hg
  go_enter Try.func73, Try.ntmps73
  go_wp2_with fail
  have HMa : Hid (MemIs 108 ((w.alloc (.cells #[.iface 71 (.pointer (some ⟨bm, 0, none⟩)), .int .i64 (t : Int)] 87)).alloc (.cells #[.int .i64 0, .int .u64 0, .slice none 0 0] 39)) bm bw l cn) := Lib.hid ((HM.out.alloc _).alloc _)
  have HTa : Hid (RowBlk 87 ((w.alloc (.cells #[.iface 71 (.pointer (some ⟨bm, 0, none⟩)), .int .i64 (t : Int)] 87)).alloc (.cells #[.int .i64 0, .int .u64 0, .slice none 0 0] 39)) w.heap.size [.iface 71 (.pointer (some ⟨bm, 0, none⟩)), .int .i64 (t : Int)]) := Lib.hid ((RowBlk.new w [.iface 71 (.pointer (some ⟨bm, 0, none⟩)), .int .i64 (t : Int)] 87).alloc _)
  have HAa : Hid (RowBlk 39 ((w.alloc (.cells #[.iface 71 (.pointer (some ⟨bm, 0, none⟩)), .int .i64 (t : Int)] 87)).alloc (.cells #[.int .i64 0, .int .u64 0, .slice none 0 0] 39)) (w.heap.size + 1) [.int .i64 0, .int .u64 0, .slice none 0 0]) := Lib.hid (by
    have h := RowBlk.new (w.alloc (.cells #[.iface 71 (.pointer (some ⟨bm, 0, none⟩)), .int .i64 (t : Int)] 87)) [.int .i64 0, .int .u64 0, .slice none 0 0] 39
    have e : (w.alloc (.cells #[.iface 71 (.pointer (some ⟨bm, 0, none⟩)), .int .i64 (t : Int)] 87)).heap.size = w.heap.size + 1 := by simp
    rw [e] at h; exact h)
  have HBa : Hid (ButS (fun b => b = bm ∨ b = bw ∨ b = g) w ((w.alloc (.cells #[.iface 71 (.pointer (some ⟨bm, 0, none⟩)), .int .i64 (t : Int)] 87)).alloc (.cells #[.int .i64 0, .int .u64 0, .slice none 0 0] 39))) := Lib.hid (((ButS.refl _ _).alloc _).alloc _)
  have HZa : Hid (((w.alloc (.cells #[.iface 71 (.pointer (some ⟨bm, 0, none⟩)), .int .i64 (t : Int)] 87)).alloc (.cells #[.int .i64 0, .int .u64 0, .slice none 0 0] 39)).heap.size = w.heap.size + 2) := Lib.hid (by simp)
  have HGa : Hid (RowBlk 160 ((w.alloc (.cells #[.iface 71 (.pointer (some ⟨bm, 0, none⟩)), .int .i64 (t : Int)] 87)).alloc (.cells #[.int .i64 0, .int .u64 0, .slice none 0 0] 39)) g [.int .i64 0, .int .u64 ((th : Int) + 1), .pointer (some ⟨bo, th, none⟩), .int .i64 2, .int .i64 (r : Int), .int .i64 (c : Int), .int .i64 (nm : Int), .int .i64 (2 * (nm : Int)), .int .i64 (2 * (nm : Int) + 1)]) := Lib.hid ((HG.out.alloc _).alloc _)
  generalize ((w.alloc (.cells #[.iface 71 (.pointer (some ⟨bm, 0, none⟩)), .int .i64 (t : Int)] 87)).alloc (.cells #[.int .i64 0, .int .u64 0, .slice none 0 0] 39)) = wa at HMa HTa HAa HBa HZa HGa ⊢
  have t0 : wa.cell? ⟨w.heap.size, 0, none⟩ = some (.iface 71 (.pointer (some ⟨bm, 0, none⟩))) := HTa.out.cell rfl
  have g1 : wa.cell? ⟨g, 1, none⟩ = some (.int .u64 ((th : Int) + 1)) := HGa.out.cell rfl
  have g2 : wa.cell? ⟨g, 2, none⟩ = some (.pointer (some ⟨bo, th, none⟩)) := HGa.out.cell rfl
  have g3 : wa.cell? ⟨g, 3, none⟩ = some (.int .i64 2) := HGa.out.cell rfl
  have g4 : wa.cell? ⟨g, 4, none⟩ = some (.int .i64 (r : Int)) := HGa.out.cell rfl
  have g5 : wa.cell? ⟨g, 5, none⟩ = some (.int .i64 (c : Int)) := HGa.out.cell rfl
  have g6 : wa.cell? ⟨g, 6, none⟩ = some (.int .i64 (nm : Int)) := HGa.out.cell rfl
  have g7 : wa.cell? ⟨g, 7, none⟩ = some (.int .i64 (2 * (nm : Int))) := HGa.out.cell rfl
  have g8 : wa.cell? ⟨g, 8, none⟩ = some (.int .i64 (2 * (nm : Int) + 1)) := HGa.out.cell rfl
  have fza : ∀ j, wa.frozen? ⟨g, j, none⟩ = false := fun j => HGa.out.free
  refine wp_scope_once 0 rfl ?_
  go_wp2_with fail
  go_step3
  have HMb := Lib.hid (show MemIs 108 (wa.setCell ⟨g, 3, none⟩ (.int .i64 3)) bm bw l cn from (HMa.out.setNew _ _ hgm hgw))
  have HTb := Lib.hid (show RowBlk 87 (wa.setCell ⟨g, 3, none⟩ (.int .i64 3)) w.heap.size [.iface 71 (.pointer (some ⟨bm, 0, none⟩)), .int .i64 (t : Int)] from (HTa.out.other (a := ⟨g, 3, none⟩) (show w.heap.size ≠ g by omega) _))
  have HAb := Lib.hid (show RowBlk 39 (wa.setCell ⟨g, 3, none⟩ (.int .i64 3)) (w.heap.size + 1) [.int .i64 0, .int .u64 0, .slice none 0 0] from (HAa.out.other (a := ⟨g, 3, none⟩) (show w.heap.size + 1 ≠ g by omega) _))
  have HGb := Lib.hid (show RowBlk 160 (wa.setCell ⟨g, 3, none⟩ (.int .i64 3)) g [.int .i64 0, .int .u64 ((th : Int) + 1), .pointer (some ⟨bo, th, none⟩), .int .i64 3, .int .i64 (r : Int), .int .i64 (c : Int), .int .i64 (nm : Int), .int .i64 (2 * (nm : Int)), .int .i64 (2 * (nm : Int) + 1)] from (HGa.out.put 3 _))
  have HBb := Lib.hid (show ButS (fun b => b = bm ∨ b = bw ∨ b = g) w (wa.setCell ⟨g, 3, none⟩ (.int .i64 3)) from (HBa.out.setCell (x := ⟨g, 3, none⟩) (.inl (.inr (.inr rfl))) _))
  go_upto_region 11 with fail
  generalize (wa.setCell ⟨g, 3, none⟩ (.int .i64 3)) = wb at HMb HTb HAb HGb HBb ⊢
  clear t0 g1 g2 g3 g4 g5 g6 g7 g8 fza
  have t0 : wb.cell? ⟨w.heap.size, 0, none⟩ = some (.iface 71 (.pointer (some ⟨bm, 0, none⟩))) := HTb.out.cell rfl
  have g8 : wb.cell? ⟨g, 8, none⟩ = some (.int .i64 (2 * (nm : Int) + 1)) := HGb.out.cell rfl
  go_region_held3 (fun w' => w'.cell? ⟨w.heap.size, 0, none⟩ = some (.iface 71 (.pointer (some ⟨bm, 0, none⟩))) ∧ w'.cell? ⟨g, 8, none⟩ = some (.int .i64 (2 * (nm : Int) + 1)))
    (first | with_reducible exact ⟨t0, g8⟩ | go_keep)
    (first
      | (go_at_call 86
         refine (HSW.out _ HMb.out.drew).mono ?_
         rintro e w4 ⟨rfl, hM4, hB4⟩
         have HG4 := Lib.hid (HGb.out.drew.same (hB4.block (g) HGb.out.lt hgm hgw))
         have HT4 := Lib.hid (HTb.out.drew.same (hB4.block (w.heap.size) HTb.out.lt (by omega) (by omega)))
         have HA4 := Lib.hid (HAb.out.drew.same (hB4.block (w.heap.size + 1) HAb.out.lt (by omega) (by omega)))
         have HM4 := Lib.hid hM4
         have HB4 : Hid (ButS (fun b => b = bm ∨ b = bw ∨ b = g) w w4) := Lib.hid (HBb.out.drew.trans (ButS.of_but hB4 (.inl rfl) (.inr (.inl rfl))))
         have t0 : w4.cell? ⟨w.heap.size, 0, none⟩ = some (.iface 71 (.pointer (some ⟨bm, 0, none⟩))) := HT4.out.cell rfl
         have g8 : w4.cell? ⟨g, 8, none⟩ = some (.int .i64 (2 * (nm : Int) + 1)) := HG4.out.cell rfl
         clear hM4 hB4)
      | fail)
  clear t0 g8
  have g3 : w4.cell? ⟨g, 3, none⟩ = some (.int .i64 3) := HG4.out.cell rfl
  have g5 : w4.cell? ⟨g, 5, none⟩ = some (.int .i64 (c : Int)) := HG4.out.cell rfl
  have fz4 : ∀ j, w4.frozen? ⟨g, j, none⟩ = false := fun j => HG4.out.free
  have HM6 := Lib.hid (show MemIs 108 ((w4.setCell ⟨g, 5, none⟩ (.int .i64 ((c : Int) + 1))).setCell ⟨g, 3, none⟩ (.int .i64 0)) bm bw L2 C2 from ((HM4.out.setNew _ _ hgm hgw).setNew _ _ hgm hgw))
  have HT6 := Lib.hid (show RowBlk 87 ((w4.setCell ⟨g, 5, none⟩ (.int .i64 ((c : Int) + 1))).setCell ⟨g, 3, none⟩ (.int .i64 0)) w.heap.size [.iface 71 (.pointer (some ⟨bm, 0, none⟩)), .int .i64 (t : Int)] from ((HT4.out.other (a := ⟨g, 5, none⟩) (show w.heap.size ≠ g by omega) _).other (a := ⟨g, 3, none⟩) (show w.heap.size ≠ g by omega) _))
  have HA6 := Lib.hid (show RowBlk 39 ((w4.setCell ⟨g, 5, none⟩ (.int .i64 ((c : Int) + 1))).setCell ⟨g, 3, none⟩ (.int .i64 0)) (w.heap.size + 1) [.int .i64 0, .int .u64 0, .slice none 0 0] from ((HA4.out.other (a := ⟨g, 5, none⟩) (show w.heap.size + 1 ≠ g by omega) _).other (a := ⟨g, 3, none⟩) (show w.heap.size + 1 ≠ g by omega) _))
  have HG6 := Lib.hid (show RowBlk 160 ((w4.setCell ⟨g, 5, none⟩ (.int .i64 ((c : Int) + 1))).setCell ⟨g, 3, none⟩ (.int .i64 0)) g [.int .i64 0, .int .u64 ((th : Int) + 1), .pointer (some ⟨bo, th, none⟩), .int .i64 0, .int .i64 (r : Int), .int .i64 ((c : Int) + 1), .int .i64 (nm : Int), .int .i64 (2 * (nm : Int)), .int .i64 (2 * (nm : Int) + 1)] from ((HG4.out.put 5 _).put 3 _))
  have HB6 := Lib.hid (show ButS (fun b => b = bm ∨ b = bw ∨ b = g) w ((w4.setCell ⟨g, 5, none⟩ (.int .i64 ((c : Int) + 1))).setCell ⟨g, 3, none⟩ (.int .i64 0)) from ((HB4.out.setCell (x := ⟨g, 5, none⟩) (.inl (.inr (.inr rfl))) _).setCell (x := ⟨g, 3, none⟩) (.inl (.inr (.inr rfl))) _))
  go_wp2_with fail
  go_step3
  refine ⟨rfl, ?_⟩
  generalize ((w4.setCell ⟨g, 5, none⟩ (.int .i64 ((c : Int) + 1))).setCell ⟨g, 3, none⟩ (.int .i64 0)) = w6 at HM6 HT6 HA6 HG6 HB6 ⊢
  clear g3 g5 fz4
  have g3 : w6.cell? ⟨g, 3, none⟩ = some (.int .i64 0) := HG6.out.cell rfl
  have hgl6 := HG6.out.lt
  go_upto_region 4 with fail
  go_wp2_with fail
  refine (sp_arrive g (r) (c + 1) ((th : Int) + 1) 0 (nm : Int) (2 * (nm : Int)) (2 * (nm : Int) + 1) ⟨bo, th, none⟩ w6 HG6.out (by omega)).mono ?_
  rintro e w7 ⟨rfl, hg7, hb7⟩
  have HG7' := Lib.hid hg7
  have HM7 := Lib.hid (HM6.out.of_blocks (hb7.block bm HM6.out.lt1 (fun e => hgm e.symm)) (hb7.block bw HM6.out.lt2 (fun e => hgw e.symm)))
  have HT7 := Lib.hid (HT6.out.same (hb7.block w.heap.size HT6.out.lt (by omega)))
  have HA7 := Lib.hid (HA6.out.same (hb7.block (w.heap.size + 1) HA6.out.lt (by omega)))
  have HB7 : Hid (ButS (fun b => b = bm ∨ b = bw ∨ b = g) w w7) := Lib.hid (HB6.out.trans (hb7.mono (fun b _ h => .inr (.inr h))))
  clear hg7 hb7 g3
  rw [HNZ.out] at HG7'
  have HG7 : Hid (RowBlk 160 w7 g [.int .i64 0, .int .u64 ((th : Int) + 1), .pointer (some ⟨bo, th, none⟩), .int .i64 1, .int .i64 (r : Int), .int .i64 ((c : Int) + 1), .int .i64 (nz : Int), .int .i64 (2 * (nz : Int)), .int .i64 (2 * (nz : Int) + 1)]) := HG7'
  clear HG7'
  go_upto_region 23 with fail
  have n1 : g ≠ w.heap.size + 1 := by omega
  have n2 : w.heap.size + 1 ≠ g := by omega
  have a0 : w7.cell? ⟨w.heap.size + 1, 0, none⟩ = some (.int .i64 0) := HA7.out.cell rfl
  have a1 : w7.cell? ⟨w.heap.size + 1, 1, none⟩ = some (.int .u64 0) := HA7.out.cell rfl
  have a2 : w7.cell? ⟨w.heap.size + 1, 2, none⟩ = some (.slice none 0 0) := HA7.out.cell rfl
  have z0 : ∀ j, w7.frozen? ⟨w.heap.size + 1, j, none⟩ = false := fun j => HA7.out.free
  have HX : Hid (RowBlk 39 (((w7.setCell ⟨w.heap.size + 1, 0, none⟩ (.int .i64 0)).setCell ⟨w.heap.size + 1, 1, none⟩ (.int .u64 0)).setCell ⟨w.heap.size + 1, 2, none⟩ (.slice none 0 0)) (w.heap.size + 1) [.int .i64 0, .int .u64 0, .slice none 0 0] ∧ RowBlk 160 (((w7.setCell ⟨w.heap.size + 1, 0, none⟩ (.int .i64 0)).setCell ⟨w.heap.size + 1, 1, none⟩ (.int .u64 0)).setCell ⟨w.heap.size + 1, 2, none⟩ (.slice none 0 0)) g [.int .i64 0, .int .u64 ((th : Int) + 1), .pointer (some ⟨bo, th, none⟩), .int .i64 1, .int .i64 (r : Int), .int .i64 ((c : Int) + 1), .int .i64 (nz : Int), .int .i64 (2 * (nz : Int)), .int .i64 (2 * (nz : Int) + 1)] ∧ MemIs 108 (((w7.setCell ⟨w.heap.size + 1, 0, none⟩ (.int .i64 0)).setCell ⟨w.heap.size + 1, 1, none⟩ (.int .u64 0)).setCell ⟨w.heap.size + 1, 2, none⟩ (.slice none 0 0)) bm bw L2 C2 ∧ ButS (fun b => b = bm ∨ b = bw ∨ b = g) w (((w7.setCell ⟨w.heap.size + 1, 0, none⟩ (.int .i64 0)).setCell ⟨w.heap.size + 1, 1, none⟩ (.int .u64 0)).setCell ⟨w.heap.size + 1, 2, none⟩ (.slice none 0 0))) := Lib.hid
    ⟨(((HA7.out.put 0 _).put 1 _).put 2 _), (((HG7.out.other (a := ⟨w.heap.size + 1, 0, none⟩) n1 _).other (a := ⟨w.heap.size + 1, 1, none⟩) n1 _).other (a := ⟨w.heap.size + 1, 2, none⟩) n1 _), (((HM7.out.setNew _ _ (by omega) (by omega)).setNew _ _ (by omega) (by omega)).setNew _ _ (by omega) (by omega)), (((HB7.out.setCell (x := ⟨w.heap.size + 1, 0, none⟩) (.inr (by show w.heap.size ≤ w.heap.size + 1; omega)) _).setCell (x := ⟨w.heap.size + 1, 1, none⟩) (.inr (by show w.heap.size ≤ w.heap.size + 1; omega)) _).setCell (x := ⟨w.heap.size + 1, 2, none⟩) (.inr (by show w.heap.size ≤ w.heap.size + 1; omega)) _)⟩
  go_wp2_with fail
  generalize (((w7.setCell ⟨w.heap.size + 1, 0, none⟩ (.int .i64 0)).setCell ⟨w.heap.size + 1, 1, none⟩ (.int .u64 0)).setCell ⟨w.heap.size + 1, 2, none⟩ (.slice none 0 0)) = W5 at HX ⊢
  have q0 := HX.out.1.cell (i := 0) rfl
  have q1 := HX.out.1.cell (i := 1) rfl
  have q2 := HX.out.1.cell (i := 2) rfl
  exact bodyPost_ret (v := .tuple #[.agg #[.int .i64 0, .int .u64 0, .slice none 0 0], .bool false]) (by simp [results, Try.results73, go_sem, q0, q1, q2]) rfl ⟨rfl, HX.out.2.2.1, HX.out.2.2.2, HX.out.2.1⟩
set_option maxRecDepth 100000 in
set_option maxHeartbeats 4000000 in
theorem sp_s3 (g bo bm bw th r c nm : Nat) (l : List Nat) (cn : Cn) (t : Nat) (w : World) (hM : MemIs 108 w bm bw l cn) (hg : RowBlk 160 w g (SpVs bo th 3 r c nm (2 * nm) (2 * nm + 1))) (hth : th < 16) (hnm : 2 * nm + 1 < l.length) (hl : l.length ≤ 65536) (hc : cn.w < 9223372036854775807) :
    Calls Try.prog 73 #[.pointer (some ⟨g, 0, none⟩), turnAgg bm (t : Int)] w (SpMore g bo bm bw th 4 r c nm (2 * nm) (2 * nm + 1) ((Acc.wr (2 * nm + 1) 1).run l cn).2.1 ((Acc.wr (2 * nm + 1) 1).run l cn).2.2 w) := by
  unfold SpVs at hg
  have hgm : g ≠ bm := by intro e; have h1 := hg; have h2 := hM.1; unfold RowBlk at h1; rw [e, h2] at h1; simp at h1
  have hgw : g ≠ bw := by intro e; have h1 := hg; have h2 := hM.2.1; unfold RowBlk at h1; rw [e, h2] at h1; simp at h1
  obtain ⟨L2, hL2⟩ : ∃ L2, ((Acc.wr (2 * nm + 1) 1).run l cn).2.1 = L2 := ⟨_, rfl⟩
  obtain ⟨C2, hC2⟩ : ∃ C2, ((Acc.wr (2 * nm + 1) 1).run l cn).2.2 = C2 := ⟨_, rfl⟩
  have HSW : Hid (∀ W : World, MemIs 108 W bm bw l cn → Calls Try.prog 88 #[.pointer (some ⟨bm, 0, none⟩), .int .i64 (2 * (nm : Int) + 1), .int .u64 1] W fun e w' => e = .returned (.tuple #[]) ∧ MemIs 108 w' bm bw L2 C2 ∧ But bm bw W w') := Lib.hid (fun W hW => by
    have h := wr_acc (i := 2 * nm + 1) 1 hW (by omega) hl hc
    unfold AccPost at h
    rw [hL2, hC2] at h
    exact h)
  rw [hL2, hC2]
  have HM := Lib.hid hM
  have HG : Hid (RowBlk 160 w g [.int .i64 0, .int .u64 ((th : Int) + 1), .pointer (some ⟨bo, th, none⟩), .int .i64 3, .int .i64 (r : Int), .int .i64 (c : Int), .int .i64 (nm : Int), .int .i64 (2 * (nm : Int)), .int .i64 (2 * (nm : Int) + 1)]) := Lib.hid hg
  have hmm := m_Write ⟨bm, 0, none⟩
  have hbm := hM.lt1
  have hbw := hM.lt2
  have hgl := hg.lt
  unfold turnAgg
  clear hM hg
  go_enter Try.func73, Try.ntmps73
  go_wp2_with fail
  have HMa : Hid (MemIs 108 ((w.alloc (.cells #[.iface 71 (.pointer (some ⟨bm, 0, none⟩)), .int .i64 (t : Int)] 87)).alloc (.cells #[.int .i64 0, .int .u64 0, .slice none 0 0] 39)) bm bw l cn) := Lib.hid ((HM.out.alloc _).alloc _)
  have HTa : Hid (RowBlk 87 ((w.alloc (.cells #[.iface 71 (.pointer (some ⟨bm, 0, none⟩)), .int .i64 (t : Int)] 87)).alloc (.cells #[.int .i64 0, .int .u64 0, .slice none 0 0] 39)) w.heap.size [.iface 71 (.pointer (some ⟨bm, 0, none⟩)), .int .i64 (t : Int)]) := Lib.hid ((RowBlk.new w [.iface 71 (.pointer (some ⟨bm, 0, none⟩)), .int .i64 (t : Int)] 87).alloc _)
  have HAa : Hid (RowBlk 39 ((w.alloc (.cells #[.iface 71 (.pointer (some ⟨bm, 0, none⟩)), .int .i64 (t : Int)] 87)).alloc (.cells #[.int .i64 0, .int .u64 0, .slice none 0 0] 39)) (w.heap.size + 1) [.int .i64 0, .int .u64 0, .slice none 0 0]) := Lib.hid (by
    have h := RowBlk.new (w.alloc (.cells #[.iface 71 (.pointer (some ⟨bm, 0, none⟩)), .int .i64 (t : Int)] 87)) [.int .i64 0, .int .u64 0, .slice none 0 0] 39
    have e : (w.alloc (.cells #[.iface 71 (.pointer (some ⟨bm, 0, none⟩)), .int .i64 (t : Int)] 87)).heap.size = w.heap.size + 1 := by simp
    rw [e] at h; exact h)
  have HBa : Hid (ButS (fun b => b = bm ∨ b = bw ∨ b = g) w ((w.alloc (.cells #[.iface 71 (.pointer (some ⟨bm, 0, none⟩)), .int .i64 (t : Int)] 87)).alloc (.cells #[.int .i64 0, .int .u64 0, .slice none 0 0] 39))) := Lib.hid (((ButS.refl _ _).alloc _).alloc _)
  have HZa : Hid (((w.alloc (.cells #[.iface 71 (.pointer (some ⟨bm, 0, none⟩)), .int .i64 (t : Int)] 87)).alloc (.cells #[.int .i64 0, .int .u64 0, .slice none 0 0] 39)).heap.size = w.heap.size + 2) := Lib.hid (by simp)
  have HGa : Hid (RowBlk 160 ((w.alloc (.cells #[.iface 71 (.pointer (some ⟨bm, 0, none⟩)), .int .i64 (t : Int)] 87)).alloc (.cells #[.int .i64 0, .int .u64 0, .slice none 0 0] 39)) g [.int .i64 0, .int .u64 ((th : Int) + 1), .pointer (some ⟨bo, th, none⟩), .int .i64 3, .int .i64 (r : Int), .int .i64 (c : Int), .int .i64 (nm : Int), .int .i64 (2 * (nm : Int)), .int .i64 (2 * (nm : Int) + 1)]) := Lib.hid ((HG.out.alloc _).alloc _)
  generalize ((w.alloc (.cells #[.iface 71 (.pointer (some ⟨bm, 0, none⟩)), .int .i64 (t : Int)] 87)).alloc (.cells #[.int .i64 0, .int .u64 0, .slice none 0 0] 39)) = wa at HMa HTa HAa HBa HZa HGa ⊢
  have t0 : wa.cell? ⟨w.heap.size, 0, none⟩ = some (.iface 71 (.pointer (some ⟨bm, 0, none⟩))) := HTa.out.cell rfl
  have g1 : wa.cell? ⟨g, 1, none⟩ = some (.int .u64 ((th : Int) + 1)) := HGa.out.cell rfl
  have g2 : wa.cell? ⟨g, 2, none⟩ = some (.pointer (some ⟨bo, th, none⟩)) := HGa.out.cell rfl
  have g3 : wa.cell? ⟨g, 3, none⟩ = some (.int .i64 3) := HGa.out.cell rfl
  have g4 : wa.cell? ⟨g, 4, none⟩ = some (.int .i64 (r : Int)) := HGa.out.cell rfl
  have g5 : wa.cell? ⟨g, 5, none⟩ = some (.int .i64 (c : Int)) := HGa.out.cell rfl
  have g6 : wa.cell? ⟨g, 6, none⟩ = some (.int .i64 (nm : Int)) := HGa.out.cell rfl
  have g7 : wa.cell? ⟨g, 7, none⟩ = some (.int .i64 (2 * (nm : Int))) := HGa.out.cell rfl
  have g8 : wa.cell? ⟨g, 8, none⟩ = some (.int .i64 (2 * (nm : Int) + 1)) := HGa.out.cell rfl
  go_step3
  go_wp2_with fail
  go_step3
  go_upto_region 15 with fail
  go_region_held3 (fun w' => w'.cell? ⟨w.heap.size, 0, none⟩ = some (.iface 71 (.pointer (some ⟨bm, 0, none⟩))) ∧ w'.cell? ⟨g, 8, none⟩ = some (.int .i64 (2 * (nm : Int) + 1)))
    (first | with_reducible exact ⟨t0, g8⟩ | go_keep)
    (first
      | (go_at_call 88
         refine (HSW.out _ HMa.out.drew).mono ?_
         rintro e w4 ⟨rfl, hM4, hB4⟩
         have HG4 := Lib.hid (HGa.out.drew.same (hB4.block (g) HGa.out.lt hgm hgw))
         have HT4 := Lib.hid (HTa.out.drew.same (hB4.block (w.heap.size) HTa.out.lt (by omega) (by omega)))
         have HA4 := Lib.hid (HAa.out.drew.same (hB4.block (w.heap.size + 1) HAa.out.lt (by omega) (by omega)))
         have HM4 := Lib.hid hM4
         have HB4 : Hid (ButS (fun b => b = bm ∨ b = bw ∨ b = g) w w4) := Lib.hid (HBa.out.drew.trans (ButS.of_but hB4 (.inl rfl) (.inr (.inl rfl))))
         have t0 : w4.cell? ⟨w.heap.size, 0, none⟩ = some (.iface 71 (.pointer (some ⟨bm, 0, none⟩))) := HT4.out.cell rfl
         have g8 : w4.cell? ⟨g, 8, none⟩ = some (.int .i64 (2 * (nm : Int) + 1)) := HG4.out.cell rfl
         clear hM4 hB4)
      | fail)
  clear t0 g8 g1 g2 g3 g4 g5 g6 g7
  have g3 : w4.cell? ⟨g, 3, none⟩ = some (.int .i64 3) := HG4.out.cell rfl
  have fz4 : ∀ j, w4.frozen? ⟨g, j, none⟩ = false := fun j => HG4.out.free
  have HM6 := Lib.hid (show MemIs 108 (w4.setCell ⟨g, 3, none⟩ (.int .i64 4)) bm bw L2 C2 from (HM4.out.setNew _ _ hgm hgw))
  have HT6 := Lib.hid (show RowBlk 87 (w4.setCell ⟨g, 3, none⟩ (.int .i64 4)) w.heap.size [.iface 71 (.pointer (some ⟨bm, 0, none⟩)), .int .i64 (t : Int)] from (HT4.out.other (a := ⟨g, 3, none⟩) (show w.heap.size ≠ g by omega) _))
  have HA6 := Lib.hid (show RowBlk 39 (w4.setCell ⟨g, 3, none⟩ (.int .i64 4)) (w.heap.size + 1) [.int .i64 0, .int .u64 0, .slice none 0 0] from (HA4.out.other (a := ⟨g, 3, none⟩) (show w.heap.size + 1 ≠ g by omega) _))
  have HG6 := Lib.hid (show RowBlk 160 (w4.setCell ⟨g, 3, none⟩ (.int .i64 4)) g [.int .i64 0, .int .u64 ((th : Int) + 1), .pointer (some ⟨bo, th, none⟩), .int .i64 4, .int .i64 (r : Int), .int .i64 (c : Int), .int .i64 (nm : Int), .int .i64 (2 * (nm : Int)), .int .i64 (2 * (nm : Int) + 1)] from (HG4.out.put 3 _))
  have HB6 := Lib.hid (show ButS (fun b => b = bm ∨ b = bw ∨ b = g) w (w4.setCell ⟨g, 3, none⟩ (.int .i64 4)) from (HB4.out.setCell (x := ⟨g, 3, none⟩) (.inl (.inr (.inr rfl))) _))
  go_upto_region 23 with fail
  generalize (w4.setCell ⟨g, 3, none⟩ (.int .i64 4)) = w6 at HM6 HT6 HA6 HG6 HB6 ⊢
  clear g3 fz4
  have n1 : g ≠ w.heap.size + 1 := by omega
  have n2 : w.heap.size + 1 ≠ g := by omega
  have a0 : w6.cell? ⟨w.heap.size + 1, 0, none⟩ = some (.int .i64 0) := HA6.out.cell rfl
  have a1 : w6.cell? ⟨w.heap.size + 1, 1, none⟩ = some (.int .u64 0) := HA6.out.cell rfl
  have a2 : w6.cell? ⟨w.heap.size + 1, 2, none⟩ = some (.slice none 0 0) := HA6.out.cell rfl
  have z0 : ∀ j, w6.frozen? ⟨w.heap.size + 1, j, none⟩ = false := fun j => HA6.out.free
  have HX : Hid (RowBlk 39 (((w6.setCell ⟨w.heap.size + 1, 0, none⟩ (.int .i64 0)).setCell ⟨w.heap.size + 1, 1, none⟩ (.int .u64 0)).setCell ⟨w.heap.size + 1, 2, none⟩ (.slice none 0 0)) (w.heap.size + 1) [.int .i64 0, .int .u64 0, .slice none 0 0] ∧ RowBlk 160 (((w6.setCell ⟨w.heap.size + 1, 0, none⟩ (.int .i64 0)).setCell ⟨w.heap.size + 1, 1, none⟩ (.int .u64 0)).setCell ⟨w.heap.size + 1, 2, none⟩ (.slice none 0 0)) g [.int .i64 0, .int .u64 ((th : Int) + 1), .pointer (some ⟨bo, th, none⟩), .int .i64 4, .int .i64 (r : Int), .int .i64 (c : Int), .int .i64 (nm : Int), .int .i64 (2 * (nm : Int)), .int .i64 (2 * (nm : Int) + 1)] ∧ MemIs 108 (((w6.setCell ⟨w.heap.size + 1, 0, none⟩ (.int .i64 0)).setCell ⟨w.heap.size + 1, 1, none⟩ (.int .u64 0)).setCell ⟨w.heap.size + 1, 2, none⟩ (.slice none 0 0)) bm bw L2 C2 ∧ ButS (fun b => b = bm ∨ b = bw ∨ b = g) w (((w6.setCell ⟨w.heap.size + 1, 0, none⟩ (.int .i64 0)).setCell ⟨w.heap.size + 1, 1, none⟩ (.int .u64 0)).setCell ⟨w.heap.size + 1, 2, none⟩ (.slice none 0 0))) := Lib.hid
    ⟨(((HA6.out.put 0 _).put 1 _).put 2 _), (((HG6.out.other (a := ⟨w.heap.size + 1, 0, none⟩) n1 _).other (a := ⟨w.heap.size + 1, 1, none⟩) n1 _).other (a := ⟨w.heap.size + 1, 2, none⟩) n1 _), (((HM6.out.setNew _ _ (by omega) (by omega)).setNew _ _ (by omega) (by omega)).setNew _ _ (by omega) (by omega)), (((HB6.out.setCell (x := ⟨w.heap.size + 1, 0, none⟩) (.inr (by show w.heap.size ≤ w.heap.size + 1; omega)) _).setCell (x := ⟨w.heap.size + 1, 1, none⟩) (.inr (by show w.heap.size ≤ w.heap.size + 1; omega)) _).setCell (x := ⟨w.heap.size + 1, 2, none⟩) (.inr (by show w.heap.size ≤ w.heap.size + 1; omega)) _)⟩
  go_wp2_with fail
  generalize (((w6.setCell ⟨w.heap.size + 1, 0, none⟩ (.int .i64 0)).setCell ⟨w.heap.size + 1, 1, none⟩ (.int .u64 0)).setCell ⟨w.heap.size + 1, 2, none⟩ (.slice none 0 0)) = W5 at HX ⊢
  have q0 := HX.out.1.cell (i := 0) rfl
  have q1 := HX.out.1.cell (i := 1) rfl
  have q2 := HX.out.1.cell (i := 2) rfl
  exact bodyPost_ret (v := .tuple #[.agg #[.int .i64 0, .int .u64 0, .slice none 0 0], .bool false]) (by simp [results, Try.results73, go_sem, q0, q1, q2]) rfl ⟨rfl, HX.out.2.2.1, HX.out.2.2.2, HX.out.2.1⟩
set_option maxRecDepth 100000 in
set_option maxHeartbeats 4000000 in
theorem sp_s4s (g bo bm bw th r c nm : Nat) (l : List Nat) (cn : Cn) (t : Nat) (w : World) (hM : MemIs 108 w bm bw l cn) (hg : RowBlk 160 w g (SpVs bo th 4 r c nm (2 * nm) (2 * nm + 1))) (hth : th < 16) (hnm : 2 * nm + 1 < l.length) (hl : l.length ≤ 65536) (hc : cn.r < 9223372036854775807) (hv : l.getD (2 * nm) 0 = th + 1) (n : Nat) (f : Nat → Bool) (hp : RowBlk 4 w bo (prVs n f)) (htn : th < n) (hbo : bo ≠ bw) :
    Calls Try.prog 73 #[.pointer (some ⟨g, 0, none⟩), turnAgg bm (t : Int)] w (SpStop n g bo bm bw th nm f ((Acc.rd (2 * nm)).run l cn).2.1 ((Acc.rd (2 * nm)).run l cn).2.2 w) := by
  unfold SpVs at hg
  have hgm : g ≠ bm := by intro e; have h1 := hg; have h2 := hM.1; unfold RowBlk at h1; rw [e, h2] at h1; simp at h1
  have hgw : g ≠ bw := by intro e; have h1 := hg; have h2 := hM.2.1; unfold RowBlk at h1; rw [e, h2] at h1; simp at h1
  obtain ⟨L2, hL2⟩ : ∃ L2, ((Acc.rd (2 * nm)).run l cn).2.1 = L2 := ⟨_, rfl⟩
  obtain ⟨C2, hC2⟩ : ∃ C2, ((Acc.rd (2 * nm)).run l cn).2.2 = C2 := ⟨_, rfl⟩
  have HSW : Hid (∀ W : World, MemIs 108 W bm bw l cn → Calls Try.prog 86 #[.pointer (some ⟨bm, 0, none⟩), .int .i64 (2 * (nm : Int))] W fun e w' => e = .returned (.int .u64 ((th : Int) + 1)) ∧ MemIs 108 w' bm bw L2 C2 ∧ But bm bw W w') := Lib.hid (fun W hW => by
    have h := rd_acc (i := 2 * nm) hW (by omega) hl hc
    unfold AccPost at h
    rw [hL2, hC2, hv] at h
    exact h)
  rw [hL2, hC2]
  have hwu : IntKind.u64.wrap (nm : Int) = (nm : Int) := by unfold IntKind.wrap; simp [IntKind.bits, IntKind.signed]; omega
  have hpm : bo ≠ bm := by intro e; have h1 := hp; have h2 := hM.1; unfold RowBlk at h1; rw [e, h2] at h1; simp at h1
  have hpw : bo ≠ bw := hbo
  have hpg : bo ≠ g := row_ne hp hg (by decide)
  have hpl := hp.lt
  have HP := Lib.hid hp
  have HTN := Lib.hid htn
  clear hv hp hbo
  have HM := Lib.hid hM
  have HG : Hid (RowBlk 160 w g [.int .i64 0, .int .u64 ((th : Int) + 1), .pointer (some ⟨bo, th, none⟩), .int .i64 4, .int .i64 (r : Int), .int .i64 (c : Int), .int .i64 (nm : Int), .int .i64 (2 * (nm : Int)), .int .i64 (2 * (nm : Int) + 1)]) := Lib.hid hg
  have hmm := m_Read ⟨bm, 0, none⟩
  have hbm := hM.lt1
  have hbw := hM.lt2
  have hgl := hg.lt
  unfold turnAgg
  clear hM hg
  go_enter Try.func73, Try.ntmps73
  go_wp2_with fail
  have HMa : Hid (MemIs 108 ((w.alloc (.cells #[.iface 71 (.pointer (some ⟨bm, 0, none⟩)), .int .i64 (t : Int)] 87)).alloc (.cells #[.int .i64 0, .int .u64 0, .slice none 0 0] 39)) bm bw l cn) := Lib.hid ((HM.out.alloc _).alloc _)
  have HTa : Hid (RowBlk 87 ((w.alloc (.cells #[.iface 71 (.pointer (some ⟨bm, 0, none⟩)), .int .i64 (t : Int)] 87)).alloc (.cells #[.int .i64 0, .int .u64 0, .slice none 0 0] 39)) w.heap.size [.iface 71 (.pointer (some ⟨bm, 0, none⟩)), .int .i64 (t : Int)]) := Lib.hid ((RowBlk.new w [.iface 71 (.pointer (some ⟨bm, 0, none⟩)), .int .i64 (t : Int)] 87).alloc _)
  have HAa : Hid (RowBlk 39 ((w.alloc (.cells #[.iface 71 (.pointer (some ⟨bm, 0, none⟩)), .int .i64 (t : Int)] 87)).alloc (.cells #[.int .i64 0, .int .u64 0, .slice none 0 0] 39)) (w.heap.size + 1) [.int .i64 0, .int .u64 0, .slice none 0 0]) := Lib.hid (by
    have h := RowBlk.new (w.alloc (.cells #[.iface 71 (.pointer (some ⟨bm, 0, none⟩)), .int .i64 (t : Int)] 87)) [.int .i64 0, .int .u64 0, .slice none 0 0] 39
    have e : (w.alloc (.cells #[.iface 71 (.pointer (some ⟨bm, 0, none⟩)), .int .i64 (t : Int)] 87)).heap.size = w.heap.size + 1 := by simp
    rw [e] at h; exact h)
  have HBa : Hid (ButS (fun b => b = bm ∨ b = bw ∨ (b = g ∨ b = bo)) w ((w.alloc (.cells #[.iface 71 (.pointer (some ⟨bm, 0, none⟩)), .int .i64 (t : Int)] 87)).alloc (.cells #[.int .i64 0, .int .u64 0, .slice none 0 0] 39))) := Lib.hid (((ButS.refl _ _).alloc _).alloc _)
  have HZa : Hid (((w.alloc (.cells #[.iface 71 (.pointer (some ⟨bm, 0, none⟩)), .int .i64 (t : Int)] 87)).alloc (.cells #[.int .i64 0, .int .u64 0, .slice none 0 0] 39)).heap.size = w.heap.size + 2) := Lib.hid (by simp)
  have HGa : Hid (RowBlk 160 ((w.alloc (.cells #[.iface 71 (.pointer (some ⟨bm, 0, none⟩)), .int .i64 (t : Int)] 87)).alloc (.cells #[.int .i64 0, .int .u64 0, .slice none 0 0] 39)) g [.int .i64 0, .int .u64 ((th : Int) + 1), .pointer (some ⟨bo, th, none⟩), .int .i64 4, .int .i64 (r : Int), .int .i64 (c : Int), .int .i64 (nm : Int), .int .i64 (2 * (nm : Int)), .int .i64 (2 * (nm : Int) + 1)]) := Lib.hid ((HG.out.alloc _).alloc _)
  have HPa : Hid (RowBlk 4 ((w.alloc (.cells #[.iface 71 (.pointer (some ⟨bm, 0, none⟩)), .int .i64 (t : Int)] 87)).alloc (.cells #[.int .i64 0, .int .u64 0, .slice none 0 0] 39)) bo (prVs n f)) := Lib.hid ((HP.out.alloc _).alloc _)
  generalize ((w.alloc (.cells #[.iface 71 (.pointer (some ⟨bm, 0, none⟩)), .int .i64 (t : Int)] 87)).alloc (.cells #[.int .i64 0, .int .u64 0, .slice none 0 0] 39)) = wa at HMa HTa HAa HBa HZa HGa HPa ⊢
  have t0 : wa.cell? ⟨w.heap.size, 0, none⟩ = some (.iface 71 (.pointer (some ⟨bm, 0, none⟩))) := HTa.out.cell rfl
  have g1 : wa.cell? ⟨g, 1, none⟩ = some (.int .u64 ((th : Int) + 1)) := HGa.out.cell rfl
  have g2 : wa.cell? ⟨g, 2, none⟩ = some (.pointer (some ⟨bo, th, none⟩)) := HGa.out.cell rfl
  have g3 : wa.cell? ⟨g, 3, none⟩ = some (.int .i64 4) := HGa.out.cell rfl
  have g4 : wa.cell? ⟨g, 4, none⟩ = some (.int .i64 (r : Int)) := HGa.out.cell rfl
  have g5 : wa.cell? ⟨g, 5, none⟩ = some (.int .i64 (c : Int)) := HGa.out.cell rfl
  have g6 : wa.cell? ⟨g, 6, none⟩ = some (.int .i64 (nm : Int)) := HGa.out.cell rfl
  have g7 : wa.cell? ⟨g, 7, none⟩ = some (.int .i64 (2 * (nm : Int))) := HGa.out.cell rfl
  have g8 : wa.cell? ⟨g, 8, none⟩ = some (.int .i64 (2 * (nm : Int) + 1)) := HGa.out.cell rfl
  go_step3
  go_wp2_with fail
  go_step3
  go_upto_region 18 with fail
  go_region_held3 (fun w' => w'.cell? ⟨w.heap.size, 0, none⟩ = some (.iface 71 (.pointer (some ⟨bm, 0, none⟩))) ∧ w'.cell? ⟨g, 1, none⟩ = some (.int .u64 ((th : Int) + 1)) ∧ w'.cell? ⟨g, 7, none⟩ = some (.int .i64 (2 * (nm : Int))))
    (first | with_reducible exact ⟨t0, g1, g7⟩ | go_keep)
    (first
      | (go_at_call 86
         refine (HSW.out _ HMa.out.drew).mono ?_
         rintro e w4 ⟨rfl, hM4, hB4⟩
         have HG4 := Lib.hid (HGa.out.drew.same (hB4.block (g) HGa.out.lt hgm hgw))
         have HT4 := Lib.hid (HTa.out.drew.same (hB4.block (w.heap.size) HTa.out.lt (by omega) (by omega)))
         have HA4 := Lib.hid (HAa.out.drew.same (hB4.block (w.heap.size + 1) HAa.out.lt (by omega) (by omega)))
         have HP4 := Lib.hid (HPa.out.drew.same (hB4.block (bo) HPa.out.lt hpm hpw))
         have HM4 := Lib.hid hM4
         have HB4 : Hid (ButS (fun b => b = bm ∨ b = bw ∨ (b = g ∨ b = bo)) w w4) := Lib.hid (HBa.out.drew.trans (ButS.of_but hB4 (.inl rfl) (.inr (.inl rfl))))
         have t0 : w4.cell? ⟨w.heap.size, 0, none⟩ = some (.iface 71 (.pointer (some ⟨bm, 0, none⟩))) := HT4.out.cell rfl
         have g1 : w4.cell? ⟨g, 1, none⟩ = some (.int .u64 ((th : Int) + 1)) := HG4.out.cell rfl
         have g7 : w4.cell? ⟨g, 7, none⟩ = some (.int .i64 (2 * (nm : Int))) := HG4.out.cell rfl
         clear hM4 hB4)
      | fail)
  clear t0 g7 g1 g2 g3 g4 g5 g6 g8
  have g2 : w4.cell? ⟨g, 2, none⟩ = some (.pointer (some ⟨bo, th, none⟩)) := HG4.out.cell rfl
  have g6 : w4.cell? ⟨g, 6, none⟩ = some (.int .i64 (nm : Int)) := HG4.out.cell rfl
  have p0 : w4.cell? ⟨bo, th, none⟩ = some (.bool (f th)) := HP4.out.cell (prVs_get HTN.out)
  have fp : w4.frozen? ⟨bo, th, none⟩ = false := HP4.out.free
  have HP6 : Hid (RowBlk 4 (w4.setCell ⟨bo, th, none⟩ (.bool true)) bo (prVs n (setB f th))) := Lib.hid (by rw [← prVs_put HTN.out]; exact HP4.out.put th _)
  have HM6 : Hid (MemIs 108 (w4.setCell ⟨bo, th, none⟩ (.bool true)) bm bw L2 C2) := Lib.hid (HM4.out.setNew _ _ hpm hpw)
  have HA6 : Hid (RowBlk 39 (w4.setCell ⟨bo, th, none⟩ (.bool true)) (w.heap.size + 1) [.int .i64 0, .int .u64 0, .slice none 0 0]) := Lib.hid (HA4.out.other (a := ⟨bo, th, none⟩) (show w.heap.size + 1 ≠ bo by omega) _)
  have HG6 : Hid (RowBlk 160 (w4.setCell ⟨bo, th, none⟩ (.bool true)) g [.int .i64 0, .int .u64 ((th : Int) + 1), .pointer (some ⟨bo, th, none⟩), .int .i64 4, .int .i64 (r : Int), .int .i64 (c : Int), .int .i64 (nm : Int), .int .i64 (2 * (nm : Int)), .int .i64 (2 * (nm : Int) + 1)]) := Lib.hid (HG4.out.other (a := ⟨bo, th, none⟩) (show g ≠ bo from fun e => hpg e.symm) _)
  have HB6 : Hid (ButS (fun b => b = bm ∨ b = bw ∨ (b = g ∨ b = bo)) w (w4.setCell ⟨bo, th, none⟩ (.bool true))) := Lib.hid (HB4.out.setCell (x := ⟨bo, th, none⟩) (.inl (.inr (.inr (.inr rfl)))) _)
  go_upto_region 20 with fail
  generalize (w4.setCell ⟨bo, th, none⟩ (.bool true)) = w6 at HP6 HM6 HA6 HG6 HB6 ⊢
  clear g2 g6 p0 fp
  have g6 : w6.cell? ⟨g, 6, none⟩ = some (.int .i64 (nm : Int)) := HG6.out.cell rfl
  have n1 : g ≠ w.heap.size + 1 := by omega
  have n2 : w.heap.size + 1 ≠ g := by omega
  have a0 : w6.cell? ⟨w.heap.size + 1, 0, none⟩ = some (.int .i64 0) := HA6.out.cell rfl
  have a1 : w6.cell? ⟨w.heap.size + 1, 1, none⟩ = some (.int .u64 0) := HA6.out.cell rfl
  have a2 : w6.cell? ⟨w.heap.size + 1, 2, none⟩ = some (.slice none 0 0) := HA6.out.cell rfl
  have z0 : ∀ j, w6.frozen? ⟨w.heap.size + 1, j, none⟩ = false := fun j => HA6.out.free
  have HX : Hid (RowBlk 39 (((w6.setCell ⟨w.heap.size + 1, 0, none⟩ (.int .i64 0)).setCell ⟨w.heap.size + 1, 1, none⟩ (.int .u64 (nm : Int))).setCell ⟨w.heap.size + 1, 2, none⟩ (.slice none 0 0)) (w.heap.size + 1) [.int .i64 0, .int .u64 (nm : Int), .slice none 0 0] ∧ MemIs 108 (((w6.setCell ⟨w.heap.size + 1, 0, none⟩ (.int .i64 0)).setCell ⟨w.heap.size + 1, 1, none⟩ (.int .u64 (nm : Int))).setCell ⟨w.heap.size + 1, 2, none⟩ (.slice none 0 0)) bm bw L2 C2 ∧ ButS (fun b => b = bm ∨ b = bw ∨ (b = g ∨ b = bo)) w (((w6.setCell ⟨w.heap.size + 1, 0, none⟩ (.int .i64 0)).setCell ⟨w.heap.size + 1, 1, none⟩ (.int .u64 (nm : Int))).setCell ⟨w.heap.size + 1, 2, none⟩ (.slice none 0 0)) ∧ RowBlk 4 (((w6.setCell ⟨w.heap.size + 1, 0, none⟩ (.int .i64 0)).setCell ⟨w.heap.size + 1, 1, none⟩ (.int .u64 (nm : Int))).setCell ⟨w.heap.size + 1, 2, none⟩ (.slice none 0 0)) bo (prVs n (setB f th))) := Lib.hid
    ⟨(((HA6.out.put 0 _).put 1 _).put 2 _), (((HM6.out.setNew _ _ (by omega) (by omega)).setNew _ _ (by omega) (by omega)).setNew _ _ (by omega) (by omega)), (((HB6.out.setCell (x := ⟨w.heap.size + 1, 0, none⟩) (.inr (by show w.heap.size ≤ w.heap.size + 1; omega)) _).setCell (x := ⟨w.heap.size + 1, 1, none⟩) (.inr (by show w.heap.size ≤ w.heap.size + 1; omega)) _).setCell (x := ⟨w.heap.size + 1, 2, none⟩) (.inr (by show w.heap.size ≤ w.heap.size + 1; omega)) _), (((HP6.out.other (a := ⟨w.heap.size + 1, 0, none⟩) (show bo ≠ w.heap.size + 1 by omega) _).other (a := ⟨w.heap.size + 1, 1, none⟩) (show bo ≠ w.heap.size + 1 by omega) _).other (a := ⟨w.heap.size + 1, 2, none⟩) (show bo ≠ w.heap.size + 1 by omega) _)⟩
  go_wp2_with fail
  generalize (((w6.setCell ⟨w.heap.size + 1, 0, none⟩ (.int .i64 0)).setCell ⟨w.heap.size + 1, 1, none⟩ (.int .u64 (nm : Int))).setCell ⟨w.heap.size + 1, 2, none⟩ (.slice none 0 0)) = W5 at HX ⊢
  have q0 := HX.out.1.cell (i := 0) rfl
  have q1 := HX.out.1.cell (i := 1) rfl
  have q2 := HX.out.1.cell (i := 2) rfl
  exact bodyPost_ret (v := .tuple #[.agg #[.int .i64 0, .int .u64 (nm : Int), .slice none 0 0], .bool true]) (by simp [results, Try.results73, go_sem, q0, q1, q2]) rfl ⟨rfl, HX.out.2.1, HX.out.2.2.1, HX.out.2.2.2⟩
set_option maxRecDepth 100000 in
set_option maxHeartbeats 4000000 in
theorem sp_s4d (g bo bm bw th r c nm : Nat) (l : List Nat) (cn : Cn) (t : Nat) (w : World) (hM : MemIs 108 w bm bw l cn) (hg : RowBlk 160 w g (SpVs bo th 4 r c nm (2 * nm) (2 * nm + 1))) (hth : th < 16) (hnm : 2 * nm + 1 < l.length) (hl : l.length ≤ 65536) (hc : cn.r < 9223372036854775807) (v : Nat) (hv : l.getD (2 * nm) 0 = v) (hv0 : v ≠ th + 1) (hrc : r + 1 + c ≤ 16) :
    Calls Try.prog 73 #[.pointer (some ⟨g, 0, none⟩), turnAgg bm (t : Int)] w (SpMore g bo bm bw th 1 (r + 1) c (spName (r + 1) c) (2 * spName (r + 1) c) (2 * spName (r + 1) c + 1) ((Acc.rd (2 * nm)).run l cn).2.1 ((Acc.rd (2 * nm)).run l cn).2.2 w) := by
  unfold SpVs at hg
  have hgm : g ≠ bm := by intro e; have h1 := hg; have h2 := hM.1; unfold RowBlk at h1; rw [e, h2] at h1; simp at h1
  have hgw : g ≠ bw := by intro e; have h1 := hg; have h2 := hM.2.1; unfold RowBlk at h1; rw [e, h2] at h1; simp at h1
  obtain ⟨L2, hL2⟩ : ∃ L2, ((Acc.rd (2 * nm)).run l cn).2.1 = L2 := ⟨_, rfl⟩
  obtain ⟨C2, hC2⟩ : ∃ C2, ((Acc.rd (2 * nm)).run l cn).2.2 = C2 := ⟨_, rfl⟩
  have HSW : Hid (∀ W : World, MemIs 108 W bm bw l cn → Calls Try.prog 86 #[.pointer (some ⟨bm, 0, none⟩), .int .i64 (2 * (nm : Int))] W fun e w' => e = .returned (.int .u64 (v : Int)) ∧ MemIs 108 w' bm bw L2 C2 ∧ But bm bw W w') := Lib.hid (fun W hW => by
    have h := rd_acc (i := 2 * nm) hW (by omega) hl hc
    unfold AccPost at h
    rw [hL2, hC2, hv] at h
    exact h)
  rw [hL2, hC2]
  have hv1 : ¬ (v : Int) = (th : Int) + 1 := by omega
  have hv2 : ((v : Int) == (th : Int) + 1) = false := by rw [beq_eq_false_iff_ne]; exact hv1
  have hv3 : decide ((v : Int) = (th : Int) + 1) = false := decide_eq_false hv1
  obtain ⟨nz, hnz⟩ : ∃ nz, spName (r + 1) c = nz := ⟨_, rfl⟩
  rw [hnz]
  have HNZ := Lib.hid hnz
  clear hnz
  have hwr : IntKind.i64.wrap ((r : Int) + 1) = (r : Int) + 1 := by unfold IntKind.wrap; simp [IntKind.bits, IntKind.signed]; omega
  clear hv hv0
  have HM := Lib.hid hM
  have HG : Hid (RowBlk 160 w g [.int .i64 0, .int .u64 ((th : Int) + 1), .pointer (some ⟨bo, th, none⟩), .int .i64 4, .int .i64 (r : Int), .int .i64 (c : Int), .int .i64 (nm : Int), .int .i64 (2 * (nm : Int)), .int .i64 (2 * (nm : Int) + 1)]) := Lib.hid hg
  have hmm := m_Read ⟨bm, 0, none⟩
  have hbm := hM.lt1
  have hbw := hM.lt2
  have hgl := hg.lt
  unfold turnAgg
  clear hM hg
  go_enter Try.func73, Try.ntmps73
  go_wp2_with fail
  have HMa : Hid (MemIs 108 ((w.alloc (.cells #[.iface 71 (.pointer (some ⟨bm, 0, none⟩)), .int .i64 (t : Int)] 87)).alloc (.cells #[.int .i64 0, .int .u64 0, .slice none 0 0] 39)) bm bw l cn) := Lib.hid ((HM.out.alloc _).alloc _)
  have HTa : Hid (RowBlk 87 ((w.alloc (.cells #[.iface 71 (.pointer (some ⟨bm, 0, none⟩)), .int .i64 (t : Int)] 87)).alloc (.cells #[.int .i64 0, .int .u64 0, .slice none 0 0] 39)) w.heap.size [.iface 71 (.pointer (some ⟨bm, 0, none⟩)), .int .i64 (t : Int)]) := Lib.hid ((RowBlk.new w [.iface 71 (.pointer (some ⟨bm, 0, none⟩)), .int .i64 (t : Int)] 87).alloc _)
  have HAa : Hid (RowBlk 39 ((w.alloc (.cells #[.iface 71 (.pointer (some ⟨bm, 0, none⟩)), .int .i64 (t : Int)] 87)).alloc (.cells #[.int .i64 0, .int .u64 0, .slice none 0 0] 39)) (w.heap.size + 1) [.int .i64 0, .int .u64 0, .slice none 0 0]) := Lib.hid (by
    have h := RowBlk.new (w.alloc (.cells #[.iface 71 (.pointer (some ⟨bm, 0, none⟩)), .int .i64 (t : Int)] 87)) [.int .i64 0, .int .u64 0, .slice none 0 0] 39
    have e : (w.alloc (.cells #[.iface 71 (.pointer (some ⟨bm, 0, none⟩)), .int .i64 (t : Int)] 87)).heap.size = w.heap.size + 1 := by simp
    rw [e] at h; exact h)
  have HBa : Hid (ButS (fun b => b = bm ∨ b = bw ∨ b = g) w ((w.alloc (.cells #[.iface 71 (.pointer (some ⟨bm, 0, none⟩)), .int .i64 (t : Int)] 87)).alloc (.cells #[.int .i64 0, .int .u64 0, .slice none 0 0] 39))) := Lib.hid (((ButS.refl _ _).alloc _).alloc _)
  have HZa : Hid (((w.alloc (.cells #[.iface 71 (.pointer (some ⟨bm, 0, none⟩)), .int .i64 (t : Int)] 87)).alloc (.cells #[.int .i64 0, .int .u64 0, .slice none 0 0] 39)).heap.size = w.heap.size + 2) := Lib.hid (by simp)
  have HGa : Hid (RowBlk 160 ((w.alloc (.cells #[.iface 71 (.pointer (some ⟨bm, 0, none⟩)), .int .i64 (t : Int)] 87)).alloc (.cells #[.int .i64 0, .int .u64 0, .slice none 0 0] 39)) g [.int .i64 0, .int .u64 ((th : Int) + 1), .pointer (some ⟨bo, th, none⟩), .int .i64 4, .int .i64 (r : Int), .int .i64 (c : Int), .int .i64 (nm : Int), .int .i64 (2 * (nm : Int)), .int .i64 (2 * (nm : Int) + 1)]) := Lib.hid ((HG.out.alloc _).alloc _)
  generalize ((w.alloc (.cells #[.iface 71 (.pointer (some ⟨bm, 0, none⟩)), .int .i64 (t : Int)] 87)).alloc (.cells #[.int .i64 0, .int .u64 0, .slice none 0 0] 39)) = wa at HMa HTa HAa HBa HZa HGa ⊢
  have t0 : wa.cell? ⟨w.heap.size, 0, none⟩ = some (.iface 71 (.pointer (some ⟨bm, 0, none⟩))) := HTa.out.cell rfl
  have g1 : wa.cell? ⟨g, 1, none⟩ = some (.int .u64 ((th : Int) + 1)) := HGa.out.cell rfl
  have g2 : wa.cell? ⟨g, 2, none⟩ = some (.pointer (some ⟨bo, th, none⟩)) := HGa.out.cell rfl
  have g3 : wa.cell? ⟨g, 3, none⟩ = some (.int .i64 4) := HGa.out.cell rfl
  have g4 : wa.cell? ⟨g, 4, none⟩ = some (.int .i64 (r : Int)) := HGa.out.cell rfl
  have g5 : wa.cell? ⟨g, 5, none⟩ = some (.int .i64 (c : Int)) := HGa.out.cell rfl
  have g6 : wa.cell? ⟨g, 6, none⟩ = some (.int .i64 (nm : Int)) := HGa.out.cell rfl
  have g7 : wa.cell? ⟨g, 7, none⟩ = some (.int .i64 (2 * (nm : Int))) := HGa.out.cell rfl
  have g8 : wa.cell? ⟨g, 8, none⟩ = some (.int .i64 (2 * (nm : Int) + 1)) := HGa.out.cell rfl
  refine wp_scope_once 0 rfl ?_
  go_wp2_with fail
  go_step3
  go_upto_region 18 with fail
  go_region_held3 (fun w' => w'.cell? ⟨w.heap.size, 0, none⟩ = some (.iface 71 (.pointer (some ⟨bm, 0, none⟩))) ∧ w'.cell? ⟨g, 1, none⟩ = some (.int .u64 ((th : Int) + 1)) ∧ w'.cell? ⟨g, 7, none⟩ = some (.int .i64 (2 * (nm : Int))))
    (first | with_reducible exact ⟨t0, g1, g7⟩ | go_keep)
    (first
      | (go_at_call 86
         refine (HSW.out _ HMa.out.drew).mono ?_
         rintro e w4 ⟨rfl, hM4, hB4⟩
         have HG4 := Lib.hid (HGa.out.drew.same (hB4.block (g) HGa.out.lt hgm hgw))
         have HT4 := Lib.hid (HTa.out.drew.same (hB4.block (w.heap.size) HTa.out.lt (by omega) (by omega)))
         have HA4 := Lib.hid (HAa.out.drew.same (hB4.block (w.heap.size + 1) HAa.out.lt (by omega) (by omega)))
         have HM4 := Lib.hid hM4
         have HB4 : Hid (ButS (fun b => b = bm ∨ b = bw ∨ b = g) w w4) := Lib.hid (HBa.out.drew.trans (ButS.of_but hB4 (.inl rfl) (.inr (.inl rfl))))
         have t0 : w4.cell? ⟨w.heap.size, 0, none⟩ = some (.iface 71 (.pointer (some ⟨bm, 0, none⟩))) := HT4.out.cell rfl
         have g1 : w4.cell? ⟨g, 1, none⟩ = some (.int .u64 ((th : Int) + 1)) := HG4.out.cell rfl
         have g7 : w4.cell? ⟨g, 7, none⟩ = some (.int .i64 (2 * (nm : Int))) := HG4.out.cell rfl
         clear hM4 hB4)
      | fail)
  clear t0 g7 g1 g2 g3 g4 g5 g6 g8
  have g3 : w4.cell? ⟨g, 3, none⟩ = some (.int .i64 4) := HG4.out.cell rfl
  have g4 : w4.cell? ⟨g, 4, none⟩ = some (.int .i64 (r : Int)) := HG4.out.cell rfl
  have fz4 : ∀ j, w4.frozen? ⟨g, j, none⟩ = false := fun j => HG4.out.free
  have HM6 := Lib.hid (show MemIs 108 ((w4.setCell ⟨g, 4, none⟩ (.int .i64 ((r : Int) + 1))).setCell ⟨g, 3, none⟩ (.int .i64 0)) bm bw L2 C2 from ((HM4.out.setNew _ _ hgm hgw).setNew _ _ hgm hgw))
  have HT6 := Lib.hid (show RowBlk 87 ((w4.setCell ⟨g, 4, none⟩ (.int .i64 ((r : Int) + 1))).setCell ⟨g, 3, none⟩ (.int .i64 0)) w.heap.size [.iface 71 (.pointer (some ⟨bm, 0, none⟩)), .int .i64 (t : Int)] from ((HT4.out.other (a := ⟨g, 4, none⟩) (show w.heap.size ≠ g by omega) _).other (a := ⟨g, 3, none⟩) (show w.heap.size ≠ g by omega) _))
  have HA6 := Lib.hid (show RowBlk 39 ((w4.setCell ⟨g, 4, none⟩ (.int .i64 ((r : Int) + 1))).setCell ⟨g, 3, none⟩ (.int .i64 0)) (w.heap.size + 1) [.int .i64 0, .int .u64 0, .slice none 0 0] from ((HA4.out.other (a := ⟨g, 4, none⟩) (show w.heap.size + 1 ≠ g by omega) _).other (a := ⟨g, 3, none⟩) (show w.heap.size + 1 ≠ g by omega) _))
  have HG6 := Lib.hid (show RowBlk 160 ((w4.setCell ⟨g, 4, none⟩ (.int .i64 ((r : Int) + 1))).setCell ⟨g, 3, none⟩ (.int .i64 0)) g [.int .i64 0, .int .u64 ((th : Int) + 1), .pointer (some ⟨bo, th, none⟩), .int .i64 0, .int .i64 ((r : Int) + 1), .int .i64 (c : Int), .int .i64 (nm : Int), .int .i64 (2 * (nm : Int)), .int .i64 (2 * (nm : Int) + 1)] from ((HG4.out.put 4 _).put 3 _))
  have HB6 := Lib.hid (show ButS (fun b => b = bm ∨ b = bw ∨ b = g) w ((w4.setCell ⟨g, 4, none⟩ (.int .i64 ((r : Int) + 1))).setCell ⟨g, 3, none⟩ (.int .i64 0)) from ((HB4.out.setCell (x := ⟨g, 4, none⟩) (.inl (.inr (.inr rfl))) _).setCell (x := ⟨g, 3, none⟩) (.inl (.inr (.inr rfl))) _))
  go_wp2_with fail
  go_step3
  refine ⟨rfl, ?_⟩
  generalize ((w4.setCell ⟨g, 4, none⟩ (.int .i64 ((r : Int) + 1))).setCell ⟨g, 3, none⟩ (.int .i64 0)) = w6 at HM6 HT6 HA6 HG6 HB6 ⊢
  clear g3 g4 fz4
  have g3 : w6.cell? ⟨g, 3, none⟩ = some (.int .i64 0) := HG6.out.cell rfl
  have hgl6 := HG6.out.lt
  go_upto_region 4 with fail
  go_wp2_with fail
  refine (sp_arrive g (r + 1) (c) ((th : Int) + 1) 0 (nm : Int) (2 * (nm : Int)) (2 * (nm : Int) + 1) ⟨bo, th, none⟩ w6 HG6.out (by omega)).mono ?_
  rintro e w7 ⟨rfl, hg7, hb7⟩
  have HG7' := Lib.hid hg7
  have HM7 := Lib.hid (HM6.out.of_blocks (hb7.block bm HM6.out.lt1 (fun e => hgm e.symm)) (hb7.block bw HM6.out.lt2 (fun e => hgw e.symm)))
  have HT7 := Lib.hid (HT6.out.same (hb7.block w.heap.size HT6.out.lt (by omega)))
  have HA7 := Lib.hid (HA6.out.same (hb7.block (w.heap.size + 1) HA6.out.lt (by omega)))
  have HB7 : Hid (ButS (fun b => b = bm ∨ b = bw ∨ b = g) w w7) := Lib.hid (HB6.out.trans (hb7.mono (fun b _ h => .inr (.inr h))))
  clear hg7 hb7 g3
  rw [HNZ.out] at HG7'
  have HG7 : Hid (RowBlk 160 w7 g [.int .i64 0, .int .u64 ((th : Int) + 1), .pointer (some ⟨bo, th, none⟩), .int .i64 1, .int .i64 ((r : Int) + 1), .int .i64 (c : Int), .int .i64 (nz : Int), .int .i64 (2 * (nz : Int)), .int .i64 (2 * (nz : Int) + 1)]) := HG7'
  clear HG7'
  go_upto_region 23 with fail
  have n1 : g ≠ w.heap.size + 1 := by omega
  have n2 : w.heap.size + 1 ≠ g := by omega
  have a0 : w7.cell? ⟨w.heap.size + 1, 0, none⟩ = some (.int .i64 0) := HA7.out.cell rfl
  have a1 : w7.cell? ⟨w.heap.size + 1, 1, none⟩ = some (.int .u64 0) := HA7.out.cell rfl
  have a2 : w7.cell? ⟨w.heap.size + 1, 2, none⟩ = some (.slice none 0 0) := HA7.out.cell rfl
  have z0 : ∀ j, w7.frozen? ⟨w.heap.size + 1, j, none⟩ = false := fun j => HA7.out.free
  have HX : Hid (RowBlk 39 (((w7.setCell ⟨w.heap.size + 1, 0, none⟩ (.int .i64 0)).setCell ⟨w.heap.size + 1, 1, none⟩ (.int .u64 0)).setCell ⟨w.heap.size + 1, 2, none⟩ (.slice none 0 0)) (w.heap.size + 1) [.int .i64 0, .int .u64 0, .slice none 0 0] ∧ RowBlk 160 (((w7.setCell ⟨w.heap.size + 1, 0, none⟩ (.int .i64 0)).setCell ⟨w.heap.size + 1, 1, none⟩ (.int .u64 0)).setCell ⟨w.heap.size + 1, 2, none⟩ (.slice none 0 0)) g [.int .i64 0, .int .u64 ((th : Int) + 1), .pointer (some ⟨bo, th, none⟩), .int .i64 1, .int .i64 ((r : Int) + 1), .int .i64 (c : Int), .int .i64 (nz : Int), .int .i64 (2 * (nz : Int)), .int .i64 (2 * (nz : Int) + 1)] ∧ MemIs 108 (((w7.setCell ⟨w.heap.size + 1, 0, none⟩ (.int .i64 0)).setCell ⟨w.heap.size + 1, 1, none⟩ (.int .u64 0)).setCell ⟨w.heap.size + 1, 2, none⟩ (.slice none 0 0)) bm bw L2 C2 ∧ ButS (fun b => b = bm ∨ b = bw ∨ b = g) w (((w7.setCell ⟨w.heap.size + 1, 0, none⟩ (.int .i64 0)).setCell ⟨w.heap.size + 1, 1, none⟩ (.int .u64 0)).setCell ⟨w.heap.size + 1, 2, none⟩ (.slice none 0 0))) := Lib.hid
    ⟨(((HA7.out.put 0 _).put 1 _).put 2 _), (((HG7.out.other (a := ⟨w.heap.size + 1, 0, none⟩) n1 _).other (a := ⟨w.heap.size + 1, 1, none⟩) n1 _).other (a := ⟨w.heap.size + 1, 2, none⟩) n1 _), (((HM7.out.setNew _ _ (by omega) (by omega)).setNew _ _ (by omega) (by omega)).setNew _ _ (by omega) (by omega)), (((HB7.out.setCell (x := ⟨w.heap.size + 1, 0, none⟩) (.inr (by show w.heap.size ≤ w.heap.size + 1; omega)) _).setCell (x := ⟨w.heap.size + 1, 1, none⟩) (.inr (by show w.heap.size ≤ w.heap.size + 1; omega)) _).setCell (x := ⟨w.heap.size + 1, 2, none⟩) (.inr (by show w.heap.size ≤ w.heap.size + 1; omega)) _)⟩
  go_wp2_with fail
  generalize (((w7.setCell ⟨w.heap.size + 1, 0, none⟩ (.int .i64 0)).setCell ⟨w.heap.size + 1, 1, none⟩ (.int .u64 0)).setCell ⟨w.heap.size + 1, 2, none⟩ (.slice none 0 0)) = W5 at HX ⊢
  have q0 := HX.out.1.cell (i := 0) rfl
  have q1 := HX.out.1.cell (i := 1) rfl
  have q2 := HX.out.1.cell (i := 2) rfl
  exact bodyPost_ret (v := .tuple #[.agg #[.int .i64 0, .int .u64 0, .slice none 0 0], .bool false]) (by simp [results, Try.results73, go_sem, q0, q1, q2]) rfl ⟨rfl, HX.out.2.2.1, HX.out.2.2.2, HX.out.2.1⟩
end Go.Proofs.Ytglpalomhhhmhaa
