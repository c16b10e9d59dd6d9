/- Walks of adopters: the steps. -/
import Derived.Test.YtglpalomhhhmhaaAD4
import Derived.Test.YtglpalomhhhmhaaOA
import Derived.Deep.AppendLies
namespace Go.Proofs.Ytglpalomhhhmhaa
open Go.ChangeShapes Go.WideShapes Go.ChangeAt Go.RowKit
set_option linter.unusedVariables false
set_option linter.unusedSimpArgs false
/-- a step that does not end the operation, and leaves its row of marks -/
def AdMore (n bo g bm bw th num stp : Nat) (oth : Bool) (sv : Value) (l : List Nat) (c : Cn) (w : World) (en : Ending) (w' : World) : Prop := en = .returned (.tuple #[.agg #[.int .i64 0, .int .u64 0, .slice none 0 0], .bool false]) ∧ MemIs 108 w' bm bw l c ∧ ButS (fun b => b = bm ∨ b = bw ∨ b = g) w w' ∧ RowBlk 163 w' g (AdVs n bo th num stp oth sv)
set_option maxRecDepth 100000 in
set_option maxHeartbeats 4000000 in
theorem ad_s0 (n bo g bm bw th num : Nat) (oth : Bool) (ao : Option Addr) (ln cp : Nat) (l : List Nat) (c : Cn) (t : Nat) (w : World) (hM : MemIs 108 w bm bw l c) (hg : RowBlk 163 w g (AdVs n bo th num 0 oth (.slice ao ln cp))) (hn : 1 ≤ n ∧ n ≤ 16) (hth : th < n) (hnum : num < 4294967296) (hlen : l.length = 2 * n) (hl : l.length ≤ 65536) (hln : ln < n) (hc : c.w < 9223372036854775807) : Calls Try.prog 75 #[.pointer (some ⟨g, 0, none⟩), turnAgg bm (t : Int)] w (AdMore n bo g bm bw th num 1 oth (.slice ao ln cp) ((Acc.wr th num).run l c).2.1 ((Acc.wr th num).run l c).2.2 w) := by
  unfold AdVs at hg
  have hgm : g ≠ bm := by intro e; have h1 := hg; have h2 := hM.1; unfold RowBlk at h1; rw [e, h2] at h1; simp at h1
  have hgw : g ≠ bw := by intro e; have h1 := hg; have h2 := hM.2.1; unfold RowBlk at h1; rw [e, h2] at h1; simp at h1
  have hw0 : IntKind.i64.wrap (th : Int) = (th : Int) := by unfold IntKind.wrap; simp [IntKind.bits, IntKind.signed]; omega
  have hw1 : IntKind.i64.wrap ((n : Int) + 1) = ((n + 1 : Nat) : Int) := by unfold IntKind.wrap; simp [IntKind.bits, IntKind.signed]; omega
  have hlnn : (ln : Int) < (n : Int) := by omega
  obtain ⟨L2, hL2⟩ : ∃ L2, ((Acc.wr th num).run l c).2.1 = L2 := ⟨_, rfl⟩
  obtain ⟨C2, hC2⟩ : ∃ C2, ((Acc.wr th num).run l c).2.2 = C2 := ⟨_, rfl⟩
  have HSW : Hid (∀ W : World, MemIs 108 W bm bw l c → Calls Try.prog 88 #[.pointer (some ⟨bm, 0, none⟩), .int .i64 (th : Int), .int .u64 (num : Int)] W fun e w' => e = .returned (.tuple #[]) ∧ MemIs 108 w' bm bw L2 C2 ∧ But bm bw W w') := Lib.hid (fun W hW => by
    have h := wr_acc (i := th) num hW (by omega) hl hc
    unfold AccPost at h
    rw [hL2, hC2] at h
    exact h)
  rw [hL2, hC2]
  have HM := Lib.hid hM
  have HG : Hid (RowBlk 163 w g [.int .i64 (n : Int), .int .i64 0, .int .i64 (n : Int), .slice (some ⟨bo, 0, none⟩) n n, .int .i64 (th : Int), .int .u64 (num : Int), .int .i64 (0), .bool oth, .slice ao ln cp]) := Lib.hid hg
  have hmm := m_Write ⟨bm, 0, none⟩
  have hbm := hM.lt1
  have hbw := hM.lt2
  have hgl := hg.lt
  unfold turnAgg
  clear hM hg
  go_enter Try.func75, Try.ntmps75
  go_upto_region 1 with fail
  have HMa : Hid (MemIs 108 ((w.alloc (.cells #[.iface 71 (.pointer (some ⟨bm, 0, none⟩)), .int .i64 (t : Int)] 87)).alloc (.cells #[.int .i64 0, .int .u64 0, .slice none 0 0] 39)) bm bw l c) := Lib.hid ((HM.out.alloc _).alloc _)
  have HTa : Hid (RowBlk 87 ((w.alloc (.cells #[.iface 71 (.pointer (some ⟨bm, 0, none⟩)), .int .i64 (t : Int)] 87)).alloc (.cells #[.int .i64 0, .int .u64 0, .slice none 0 0] 39)) w.heap.size [.iface 71 (.pointer (some ⟨bm, 0, none⟩)), .int .i64 (t : Int)]) := Lib.hid ((RowBlk.new w [.iface 71 (.pointer (some ⟨bm, 0, none⟩)), .int .i64 (t : Int)] 87).alloc _)
  have HAa : Hid (RowBlk 39 ((w.alloc (.cells #[.iface 71 (.pointer (some ⟨bm, 0, none⟩)), .int .i64 (t : Int)] 87)).alloc (.cells #[.int .i64 0, .int .u64 0, .slice none 0 0] 39)) (w.heap.size + 1) [.int .i64 0, .int .u64 0, .slice none 0 0]) := Lib.hid (by
    have h := RowBlk.new (w.alloc (.cells #[.iface 71 (.pointer (some ⟨bm, 0, none⟩)), .int .i64 (t : Int)] 87)) [.int .i64 0, .int .u64 0, .slice none 0 0] 39
    have e : (w.alloc (.cells #[.iface 71 (.pointer (some ⟨bm, 0, none⟩)), .int .i64 (t : Int)] 87)).heap.size = w.heap.size + 1 := by simp
    rw [e] at h; exact h)
  have HBa : Hid (ButS (fun b => b = bm ∨ b = bw ∨ b = g) w ((w.alloc (.cells #[.iface 71 (.pointer (some ⟨bm, 0, none⟩)), .int .i64 (t : Int)] 87)).alloc (.cells #[.int .i64 0, .int .u64 0, .slice none 0 0] 39))) := Lib.hid (((ButS.refl _ _).alloc _).alloc _)
  have HZa : Hid (((w.alloc (.cells #[.iface 71 (.pointer (some ⟨bm, 0, none⟩)), .int .i64 (t : Int)] 87)).alloc (.cells #[.int .i64 0, .int .u64 0, .slice none 0 0] 39)).heap.size = w.heap.size + 2) := Lib.hid (by simp)
  have HGa : Hid (RowBlk 163 ((w.alloc (.cells #[.iface 71 (.pointer (some ⟨bm, 0, none⟩)), .int .i64 (t : Int)] 87)).alloc (.cells #[.int .i64 0, .int .u64 0, .slice none 0 0] 39)) g [.int .i64 (n : Int), .int .i64 0, .int .i64 (n : Int), .slice (some ⟨bo, 0, none⟩) n n, .int .i64 (th : Int), .int .u64 (num : Int), .int .i64 (0), .bool oth, .slice ao ln cp]) := Lib.hid ((HG.out.alloc _).alloc _)
  generalize ((w.alloc (.cells #[.iface 71 (.pointer (some ⟨bm, 0, none⟩)), .int .i64 (t : Int)] 87)).alloc (.cells #[.int .i64 0, .int .u64 0, .slice none 0 0] 39)) = wa at HMa HTa HAa HBa HZa HGa ⊢
  have t0 : wa.cell? ⟨w.heap.size, 0, none⟩ = some (.iface 71 (.pointer (some ⟨bm, 0, none⟩))) := HTa.out.cell rfl
  have g0 : wa.cell? ⟨g, 0, none⟩ = some (.int .i64 (n : Int)) := HGa.out.cell rfl
  have g1 : wa.cell? ⟨g, 1, none⟩ = some (.int .i64 0) := HGa.out.cell rfl
  have g2 : wa.cell? ⟨g, 2, none⟩ = some (.int .i64 (n : Int)) := HGa.out.cell rfl
  have g4 : wa.cell? ⟨g, 4, none⟩ = some (.int .i64 (th : Int)) := HGa.out.cell rfl
  have g5 : wa.cell? ⟨g, 5, none⟩ = some (.int .u64 (num : Int)) := HGa.out.cell rfl
  have g6 : wa.cell? ⟨g, 6, none⟩ = some (.int .i64 (0)) := HGa.out.cell rfl
  have g7 : wa.cell? ⟨g, 7, none⟩ = some (.bool oth) := HGa.out.cell rfl
  have g8 : wa.cell? ⟨g, 8, none⟩ = some (.slice ao ln cp) := HGa.out.cell rfl
  go_quiet (fail)
  have HMb := Lib.hid (HMa.out.drewN nq)
  have HTb := Lib.hid (HTa.out.drewN nq)
  have HAb := Lib.hid (HAa.out.drewN nq)
  have HGb := Lib.hid (HGa.out.drewN nq)
  have HBb := Lib.hid (HBa.out.drewN nq)
  have HZb : Hid ((wa.drewN nq).heap.size = w.heap.size + 2) := Lib.hid HZa.out
  generalize wa.drewN nq = wb at HMb HTb HAb HGb HBb HZb ⊢
  clear t0 g0 g1 g2 g4 g5 g6 g7 g8
  have t0 : wb.cell? ⟨w.heap.size, 0, none⟩ = some (.iface 71 (.pointer (some ⟨bm, 0, none⟩))) := HTb.out.cell rfl
  have g0 : wb.cell? ⟨g, 0, none⟩ = some (.int .i64 (n : Int)) := HGb.out.cell rfl
  have g1 : wb.cell? ⟨g, 1, none⟩ = some (.int .i64 0) := HGb.out.cell rfl
  have g2 : wb.cell? ⟨g, 2, none⟩ = some (.int .i64 (n : Int)) := HGb.out.cell rfl
  have g4 : wb.cell? ⟨g, 4, none⟩ = some (.int .i64 (th : Int)) := HGb.out.cell rfl
  have g5 : wb.cell? ⟨g, 5, none⟩ = some (.int .u64 (num : Int)) := HGb.out.cell rfl
  have g6 : wb.cell? ⟨g, 6, none⟩ = some (.int .i64 (0)) := HGb.out.cell rfl
  have g7 : wb.cell? ⟨g, 7, none⟩ = some (.bool oth) := HGb.out.cell rfl
  have g8 : wb.cell? ⟨g, 8, none⟩ = some (.slice ao ln cp) := HGb.out.cell rfl
  have fzb : ∀ j, wb.frozen? ⟨g, j, none⟩ = false := fun j => HGb.out.free
  have HMc : Hid (MemIs 108 (wb.setCell ⟨g, 6, none⟩ (.int .i64 (1))) bm bw l c) := Lib.hid (HMb.out.setNew _ _ hgm hgw)
  have HTc : Hid (RowBlk 87 (wb.setCell ⟨g, 6, none⟩ (.int .i64 (1))) w.heap.size [.iface 71 (.pointer (some ⟨bm, 0, none⟩)), .int .i64 (t : Int)]) := Lib.hid (HTb.out.other (a := ⟨g, 6, none⟩) (show w.heap.size ≠ g by omega) _)
  have HAc : Hid (RowBlk 39 (wb.setCell ⟨g, 6, none⟩ (.int .i64 (1))) (w.heap.size + 1) [.int .i64 0, .int .u64 0, .slice none 0 0]) := Lib.hid (HAb.out.other (a := ⟨g, 6, none⟩) (show w.heap.size + 1 ≠ g by omega) _)
  have HGc : Hid (RowBlk 163 (wb.setCell ⟨g, 6, none⟩ (.int .i64 (1))) g [.int .i64 (n : Int), .int .i64 0, .int .i64 (n : Int), .slice (some ⟨bo, 0, none⟩) n n, .int .i64 (th : Int), .int .u64 (num : Int), .int .i64 (1), .bool oth, .slice ao ln cp]) := Lib.hid (HGb.out.put 6 _)
  have HBc : Hid (ButS (fun b => b = bm ∨ b = bw ∨ b = g) w (wb.setCell ⟨g, 6, none⟩ (.int .i64 (1)))) := Lib.hid (HBb.out.setCell (x := ⟨g, 6, none⟩) (.inl (.inr (.inr rfl))) _)
  have HZc : Hid ((wb.setCell ⟨g, 6, none⟩ (.int .i64 (1))).heap.size = w.heap.size + 2) := Lib.hid (by have := HZb.out; simpa [World.setCell] using this)
  go_upto_region 4 with fail
  generalize wb.setCell ⟨g, 6, none⟩ (.int .i64 (1)) = wc at HMc HTc HAc HGc HBc HZc ⊢
  clear t0 g0 g1 g2 g4 g5 g6 g7 g8 fzb
  have t0 : wc.cell? ⟨w.heap.size, 0, none⟩ = some (.iface 71 (.pointer (some ⟨bm, 0, none⟩))) := HTc.out.cell rfl
  have g0 : wc.cell? ⟨g, 0, none⟩ = some (.int .i64 (n : Int)) := HGc.out.cell rfl
  have g1 : wc.cell? ⟨g, 1, none⟩ = some (.int .i64 0) := HGc.out.cell rfl
  have g2 : wc.cell? ⟨g, 2, none⟩ = some (.int .i64 (n : Int)) := HGc.out.cell rfl
  have g4 : wc.cell? ⟨g, 4, none⟩ = some (.int .i64 (th : Int)) := HGc.out.cell rfl
  have g5 : wc.cell? ⟨g, 5, none⟩ = some (.int .u64 (num : Int)) := HGc.out.cell rfl
  have g6 : wc.cell? ⟨g, 6, none⟩ = some (.int .i64 (1)) := HGc.out.cell rfl
  have g7 : wc.cell? ⟨g, 7, none⟩ = some (.bool oth) := HGc.out.cell rfl
  have g8 : wc.cell? ⟨g, 8, none⟩ = some (.slice ao ln cp) := HGc.out.cell rfl
  go_upto_region 7 with fail
  go_region_held3 (fun w' => w'.cell? ⟨w.heap.size, 0, none⟩ = some (.iface 71 (.pointer (some ⟨bm, 0, none⟩))) ∧ w'.cell? ⟨g, 0, none⟩ = some (.int .i64 (n : Int)) ∧ w'.cell? ⟨g, 1, none⟩ = some (.int .i64 0) ∧ w'.cell? ⟨g, 2, none⟩ = some (.int .i64 (n : Int)) ∧ w'.cell? ⟨g, 4, none⟩ = some (.int .i64 (th : Int)) ∧ w'.cell? ⟨g, 5, none⟩ = some (.int .u64 (num : Int)) ∧ w'.cell? ⟨g, 6, none⟩ = some (.int .i64 (1)) ∧ w'.cell? ⟨g, 7, none⟩ = some (.bool oth) ∧ w'.cell? ⟨g, 8, none⟩ = some (.slice ao ln cp))
    (first | with_reducible exact ⟨t0, g0, g1, g2, g4, g5, g6, g7, g8⟩ | go_keep)
    (first
      | (go_at_call 88
         refine (HSW.out _ HMc.out.drew).mono ?_
         rintro e w4 ⟨rfl, hM4, hB4⟩
         have HG4 := Lib.hid (HGc.out.drew.same (hB4.block (g) HGc.out.lt hgm hgw))
         have HT4 := Lib.hid (HTc.out.drew.same (hB4.block (w.heap.size) HTc.out.lt (by omega) (by omega)))
         have HA4 := Lib.hid (HAc.out.drew.same (hB4.block (w.heap.size + 1) HAc.out.lt (by omega) (by omega)))
         have HM4 := Lib.hid hM4
         have HB4 : Hid (ButS (fun b => b = bm ∨ b = bw ∨ b = g) w w4) := Lib.hid (HBc.out.drew.trans (ButS.of_but hB4 (.inl rfl) (.inr (.inl rfl))))
         have t0 : w4.cell? ⟨w.heap.size, 0, none⟩ = some (.iface 71 (.pointer (some ⟨bm, 0, none⟩))) := HT4.out.cell rfl
         have g0 : w4.cell? ⟨g, 0, none⟩ = some (.int .i64 (n : Int)) := HG4.out.cell rfl
         have g1 : w4.cell? ⟨g, 1, none⟩ = some (.int .i64 0) := HG4.out.cell rfl
         have g2 : w4.cell? ⟨g, 2, none⟩ = some (.int .i64 (n : Int)) := HG4.out.cell rfl
         have g4 : w4.cell? ⟨g, 4, none⟩ = some (.int .i64 (th : Int)) := HG4.out.cell rfl
         have g5 : w4.cell? ⟨g, 5, none⟩ = some (.int .u64 (num : Int)) := HG4.out.cell rfl
         have g6 : w4.cell? ⟨g, 6, none⟩ = some (.int .i64 (1)) := HG4.out.cell rfl
         have g7 : w4.cell? ⟨g, 7, none⟩ = some (.bool oth) := HG4.out.cell rfl
         have g8 : w4.cell? ⟨g, 8, none⟩ = some (.slice ao ln cp) := HG4.out.cell rfl
         clear hM4 hB4)
      | fail)
  have n1 : g ≠ w.heap.size + 1 := by omega
  have n2 : w.heap.size + 1 ≠ g := by omega
  go_upto_region 13 with fail
  go_quiet (fail)
  have HM7 := Lib.hid (HM4.out.drewN nq)
  have HA7 := Lib.hid (HA4.out.drewN nq)
  have HG7 := Lib.hid (HG4.out.drewN nq)
  have HB7 := Lib.hid (HB4.out.drewN nq)
  generalize w4.drewN nq = w7 at HM7 HA7 HG7 HB7 ⊢
  clear t0 g0 g1 g2 g4 g5 g6 g7 g8
  have a0 : w7.cell? ⟨w.heap.size + 1, 0, none⟩ = some (.int .i64 0) := HA7.out.cell rfl
  have a1 : w7.cell? ⟨w.heap.size + 1, 1, none⟩ = some (.int .u64 0) := HA7.out.cell rfl
  have a2 : w7.cell? ⟨w.heap.size + 1, 2, none⟩ = some (.slice none 0 0) := HA7.out.cell rfl
  have z0 : ∀ j, w7.frozen? ⟨w.heap.size + 1, j, none⟩ = false := fun j => HA7.out.free
  have HX : Hid (RowBlk 39 (((w7.setCell ⟨w.heap.size + 1, 0, none⟩ (.int .i64 0)).setCell ⟨w.heap.size + 1, 1, none⟩ (.int .u64 0)).setCell ⟨w.heap.size + 1, 2, none⟩ (.slice none 0 0)) (w.heap.size + 1) [.int .i64 0, .int .u64 0, .slice none 0 0] ∧ RowBlk 163 (((w7.setCell ⟨w.heap.size + 1, 0, none⟩ (.int .i64 0)).setCell ⟨w.heap.size + 1, 1, none⟩ (.int .u64 0)).setCell ⟨w.heap.size + 1, 2, none⟩ (.slice none 0 0)) g [.int .i64 (n : Int), .int .i64 0, .int .i64 (n : Int), .slice (some ⟨bo, 0, none⟩) n n, .int .i64 (th : Int), .int .u64 (num : Int), .int .i64 (1), .bool oth, .slice ao ln cp] ∧ MemIs 108 (((w7.setCell ⟨w.heap.size + 1, 0, none⟩ (.int .i64 0)).setCell ⟨w.heap.size + 1, 1, none⟩ (.int .u64 0)).setCell ⟨w.heap.size + 1, 2, none⟩ (.slice none 0 0)) bm bw L2 C2 ∧ ButS (fun b => b = bm ∨ b = bw ∨ b = g) w (((w7.setCell ⟨w.heap.size + 1, 0, none⟩ (.int .i64 0)).setCell ⟨w.heap.size + 1, 1, none⟩ (.int .u64 0)).setCell ⟨w.heap.size + 1, 2, none⟩ (.slice none 0 0))) := Lib.hid
    ⟨(((HA7.out.put 0 _).put 1 _).put 2 _), (((HG7.out.other (a := ⟨w.heap.size + 1, 0, none⟩) n1 _).other (a := ⟨w.heap.size + 1, 1, none⟩) n1 _).other (a := ⟨w.heap.size + 1, 2, none⟩) n1 _), (((HM7.out.setNew _ _ (by omega) (by omega)).setNew _ _ (by omega) (by omega)).setNew _ _ (by omega) (by omega)), (((HB7.out.setCell (x := ⟨w.heap.size + 1, 0, none⟩) (.inr (by show w.heap.size ≤ w.heap.size + 1; omega)) _).setCell (x := ⟨w.heap.size + 1, 1, none⟩) (.inr (by show w.heap.size ≤ w.heap.size + 1; omega)) _).setCell (x := ⟨w.heap.size + 1, 2, none⟩) (.inr (by show w.heap.size ≤ w.heap.size + 1; omega)) _)⟩
  go_wp2_with fail
  generalize (((w7.setCell ⟨w.heap.size + 1, 0, none⟩ (.int .i64 0)).setCell ⟨w.heap.size + 1, 1, none⟩ (.int .u64 0)).setCell ⟨w.heap.size + 1, 2, none⟩ (.slice none 0 0)) = W5 at HX ⊢
  have q0 := HX.out.1.cell (i := 0) rfl
  have q1 := HX.out.1.cell (i := 1) rfl
  have q2 := HX.out.1.cell (i := 2) rfl
  exact bodyPost_ret (v := .tuple #[.agg #[.int .i64 0, .int .u64 0, .slice none 0 0], .bool false]) (by simp [results, Try.results75, go_sem, q0, q1, q2]) rfl ⟨rfl, HX.out.2.2.1, HX.out.2.2.2, HX.out.2.1⟩
set_option maxRecDepth 100000 in
set_option maxHeartbeats 4000000 in
theorem ad_s1t (n bo g bm bw th num k r : Nat) (ao : Option Addr) (ln cp : Nat) (l : List Nat) (c : Cn) (t : Nat) (w : World) (hM : MemIs 108 w bm bw l c) (hg : RowBlk 163 w g (AdVs n bo th num k true (.slice ao ln cp))) (hn : 1 ≤ n ∧ n ≤ 16) (hth : th < n) (hnum : num < 4294967296) (hlen : l.length = 2 * n) (hl : l.length ≤ 65536) (hln : ln < n) (hk : 1 ≤ k ∧ k ≤ n) (hc : c.r < 9223372036854775807) (hr : l.getD (k - 1) 0 = r) : Calls Try.prog 75 #[.pointer (some ⟨g, 0, none⟩), turnAgg bm (t : Int)] w (AdMore n bo g bm bw th num (k + 1) true (.slice ao ln cp) ((Acc.rd (k - 1)).run l c).2.1 ((Acc.rd (k - 1)).run l c).2.2 w) := by
  unfold AdVs at hg
  have hgm : g ≠ bm := by intro e; have h1 := hg; have h2 := hM.1; unfold RowBlk at h1; rw [e, h2] at h1; simp at h1
  have hgw : g ≠ bw := by intro e; have h1 := hg; have h2 := hM.2.1; unfold RowBlk at h1; rw [e, h2] at h1; simp at h1
  have hwk : IntKind.i64.wrap ((k : Int) + 1) = (k : Int) + 1 := by unfold IntKind.wrap; simp [IntKind.bits, IntKind.signed]; omega
  have hw1 : IntKind.i64.wrap ((n : Int) + 1) = (n : Int) + 1 := by unfold IntKind.wrap; simp [IntKind.bits, IntKind.signed]; omega
  have hk0 : ¬ (k : Int) = 0 := by omega
  have hk0b : ((k : Int) == 0) = false := by rw [beq_eq_false_iff_ne]; exact hk0
  have hk0c : decide ((k : Int) = 0) = false := decide_eq_false hk0
  obtain ⟨j, hj⟩ : ∃ j, k - 1 = j := ⟨_, rfl⟩
  rw [hj] at hr ⊢
  have hjn : j < n := by omega
  have hwj0 : IntKind.i64.wrap (k : Int) = (k : Int) := by unfold IntKind.wrap; simp [IntKind.bits, IntKind.signed]; omega
  have hwj : IntKind.i64.wrap ((k : Int) - 1) = (j : Int) := by unfold IntKind.wrap; simp [IntKind.bits, IntKind.signed]; omega
  have hk1 : (k : Int) < (n : Int) + 1 := by omega
  have hlnn : (ln : Int) < (n : Int) := by omega
  obtain ⟨L2, hL2⟩ : ∃ L2, ((Acc.rd j).run l c).2.1 = L2 := ⟨_, rfl⟩
  obtain ⟨C2, hC2⟩ : ∃ C2, ((Acc.rd j).run l c).2.2 = C2 := ⟨_, rfl⟩
  have HSW : Hid (∀ W : World, MemIs 108 W bm bw l c → Calls Try.prog 86 #[.pointer (some ⟨bm, 0, none⟩), .int .i64 (j : Int)] W fun e w' => e = .returned (.int .u64 (r : Int)) ∧ MemIs 108 w' bm bw L2 C2 ∧ But bm bw W w') := Lib.hid (fun W hW => by
    have h := rd_acc (i := j) hW (by omega) hl hc
    unfold AccPost at h
    rw [hL2, hC2, hr] at h
    exact h)
  rw [hL2, hC2]
  clear hj hr 
  have HM := Lib.hid hM
  have HG : Hid (RowBlk 163 w g [.int .i64 (n : Int), .int .i64 0, .int .i64 (n : Int), .slice (some ⟨bo, 0, none⟩) n n, .int .i64 (th : Int), .int .u64 (num : Int), .int .i64 ((k : Int)), .bool true, .slice ao ln cp]) := Lib.hid hg
  have hmm := m_Read ⟨bm, 0, none⟩
  have hbm := hM.lt1
  have hbw := hM.lt2
  have hgl := hg.lt
  unfold turnAgg
  clear hM hg
  go_enter Try.func75, Try.ntmps75
  go_upto_region 1 with fail
  have HMa : Hid (MemIs 108 ((w.alloc (.cells #[.iface 71 (.pointer (some ⟨bm, 0, none⟩)), .int .i64 (t : Int)] 87)).alloc (.cells #[.int .i64 0, .int .u64 0, .slice none 0 0] 39)) bm bw l c) := Lib.hid ((HM.out.alloc _).alloc _)
  have HTa : Hid (RowBlk 87 ((w.alloc (.cells #[.iface 71 (.pointer (some ⟨bm, 0, none⟩)), .int .i64 (t : Int)] 87)).alloc (.cells #[.int .i64 0, .int .u64 0, .slice none 0 0] 39)) w.heap.size [.iface 71 (.pointer (some ⟨bm, 0, none⟩)), .int .i64 (t : Int)]) := Lib.hid ((RowBlk.new w [.iface 71 (.pointer (some ⟨bm, 0, none⟩)), .int .i64 (t : Int)] 87).alloc _)
  have HAa : Hid (RowBlk 39 ((w.alloc (.cells #[.iface 71 (.pointer (some ⟨bm, 0, none⟩)), .int .i64 (t : Int)] 87)).alloc (.cells #[.int .i64 0, .int .u64 0, .slice none 0 0] 39)) (w.heap.size + 1) [.int .i64 0, .int .u64 0, .slice none 0 0]) := Lib.hid (by
    have h := RowBlk.new (w.alloc (.cells #[.iface 71 (.pointer (some ⟨bm, 0, none⟩)), .int .i64 (t : Int)] 87)) [.int .i64 0, .int .u64 0, .slice none 0 0] 39
    have e : (w.alloc (.cells #[.iface 71 (.pointer (some ⟨bm, 0, none⟩)), .int .i64 (t : Int)] 87)).heap.size = w.heap.size + 1 := by simp
    rw [e] at h; exact h)
  have HBa : Hid (ButS (fun b => b = bm ∨ b = bw ∨ b = g) w ((w.alloc (.cells #[.iface 71 (.pointer (some ⟨bm, 0, none⟩)), .int .i64 (t : Int)] 87)).alloc (.cells #[.int .i64 0, .int .u64 0, .slice none 0 0] 39))) := Lib.hid (((ButS.refl _ _).alloc _).alloc _)
  have HZa : Hid (((w.alloc (.cells #[.iface 71 (.pointer (some ⟨bm, 0, none⟩)), .int .i64 (t : Int)] 87)).alloc (.cells #[.int .i64 0, .int .u64 0, .slice none 0 0] 39)).heap.size = w.heap.size + 2) := Lib.hid (by simp)
  have HGa : Hid (RowBlk 163 ((w.alloc (.cells #[.iface 71 (.pointer (some ⟨bm, 0, none⟩)), .int .i64 (t : Int)] 87)).alloc (.cells #[.int .i64 0, .int .u64 0, .slice none 0 0] 39)) g [.int .i64 (n : Int), .int .i64 0, .int .i64 (n : Int), .slice (some ⟨bo, 0, none⟩) n n, .int .i64 (th : Int), .int .u64 (num : Int), .int .i64 ((k : Int)), .bool true, .slice ao ln cp]) := Lib.hid ((HG.out.alloc _).alloc _)
  generalize ((w.alloc (.cells #[.iface 71 (.pointer (some ⟨bm, 0, none⟩)), .int .i64 (t : Int)] 87)).alloc (.cells #[.int .i64 0, .int .u64 0, .slice none 0 0] 39)) = wa at HMa HTa HAa HBa HZa HGa ⊢
  have t0 : wa.cell? ⟨w.heap.size, 0, none⟩ = some (.iface 71 (.pointer (some ⟨bm, 0, none⟩))) := HTa.out.cell rfl
  have g0 : wa.cell? ⟨g, 0, none⟩ = some (.int .i64 (n : Int)) := HGa.out.cell rfl
  have g1 : wa.cell? ⟨g, 1, none⟩ = some (.int .i64 0) := HGa.out.cell rfl
  have g2 : wa.cell? ⟨g, 2, none⟩ = some (.int .i64 (n : Int)) := HGa.out.cell rfl
  have g4 : wa.cell? ⟨g, 4, none⟩ = some (.int .i64 (th : Int)) := HGa.out.cell rfl
  have g5 : wa.cell? ⟨g, 5, none⟩ = some (.int .u64 (num : Int)) := HGa.out.cell rfl
  have g6 : wa.cell? ⟨g, 6, none⟩ = some (.int .i64 ((k : Int))) := HGa.out.cell rfl
  have g7 : wa.cell? ⟨g, 7, none⟩ = some (.bool true) := HGa.out.cell rfl
  have g8 : wa.cell? ⟨g, 8, none⟩ = some (.slice ao ln cp) := HGa.out.cell rfl
  go_quiet (fail)
  have HMb := Lib.hid (HMa.out.drewN nq)
  have HTb := Lib.hid (HTa.out.drewN nq)
  have HAb := Lib.hid (HAa.out.drewN nq)
  have HGb := Lib.hid (HGa.out.drewN nq)
  have HBb := Lib.hid (HBa.out.drewN nq)
  have HZb : Hid ((wa.drewN nq).heap.size = w.heap.size + 2) := Lib.hid HZa.out
  generalize wa.drewN nq = wb at HMb HTb HAb HGb HBb HZb ⊢
  clear t0 g0 g1 g2 g4 g5 g6 g7 g8
  have t0 : wb.cell? ⟨w.heap.size, 0, none⟩ = some (.iface 71 (.pointer (some ⟨bm, 0, none⟩))) := HTb.out.cell rfl
  have g0 : wb.cell? ⟨g, 0, none⟩ = some (.int .i64 (n : Int)) := HGb.out.cell rfl
  have g1 : wb.cell? ⟨g, 1, none⟩ = some (.int .i64 0) := HGb.out.cell rfl
  have g2 : wb.cell? ⟨g, 2, none⟩ = some (.int .i64 (n : Int)) := HGb.out.cell rfl
  have g4 : wb.cell? ⟨g, 4, none⟩ = some (.int .i64 (th : Int)) := HGb.out.cell rfl
  have g5 : wb.cell? ⟨g, 5, none⟩ = some (.int .u64 (num : Int)) := HGb.out.cell rfl
  have g6 : wb.cell? ⟨g, 6, none⟩ = some (.int .i64 ((k : Int))) := HGb.out.cell rfl
  have g7 : wb.cell? ⟨g, 7, none⟩ = some (.bool true) := HGb.out.cell rfl
  have g8 : wb.cell? ⟨g, 8, none⟩ = some (.slice ao ln cp) := HGb.out.cell rfl
  have fzb : ∀ j, wb.frozen? ⟨g, j, none⟩ = false := fun j => HGb.out.free
  have HMc : Hid (MemIs 108 (wb.setCell ⟨g, 6, none⟩ (.int .i64 ((k : Int) + 1))) bm bw l c) := Lib.hid (HMb.out.setNew _ _ hgm hgw)
  have HTc : Hid (RowBlk 87 (wb.setCell ⟨g, 6, none⟩ (.int .i64 ((k : Int) + 1))) w.heap.size [.iface 71 (.pointer (some ⟨bm, 0, none⟩)), .int .i64 (t : Int)]) := Lib.hid (HTb.out.other (a := ⟨g, 6, none⟩) (show w.heap.size ≠ g by omega) _)
  have HAc : Hid (RowBlk 39 (wb.setCell ⟨g, 6, none⟩ (.int .i64 ((k : Int) + 1))) (w.heap.size + 1) [.int .i64 0, .int .u64 0, .slice none 0 0]) := Lib.hid (HAb.out.other (a := ⟨g, 6, none⟩) (show w.heap.size + 1 ≠ g by omega) _)
  have HGc : Hid (RowBlk 163 (wb.setCell ⟨g, 6, none⟩ (.int .i64 ((k : Int) + 1))) g [.int .i64 (n : Int), .int .i64 0, .int .i64 (n : Int), .slice (some ⟨bo, 0, none⟩) n n, .int .i64 (th : Int), .int .u64 (num : Int), .int .i64 ((k : Int) + 1), .bool true, .slice ao ln cp]) := Lib.hid (HGb.out.put 6 _)
  have HBc : Hid (ButS (fun b => b = bm ∨ b = bw ∨ b = g) w (wb.setCell ⟨g, 6, none⟩ (.int .i64 ((k : Int) + 1)))) := Lib.hid (HBb.out.setCell (x := ⟨g, 6, none⟩) (.inl (.inr (.inr rfl))) _)
  have HZc : Hid ((wb.setCell ⟨g, 6, none⟩ (.int .i64 ((k : Int) + 1))).heap.size = w.heap.size + 2) := Lib.hid (by have := HZb.out; simpa [World.setCell] using this)
  go_upto_region 4 with fail
  generalize wb.setCell ⟨g, 6, none⟩ (.int .i64 ((k : Int) + 1)) = wc at HMc HTc HAc HGc HBc HZc ⊢
  clear t0 g0 g1 g2 g4 g5 g6 g7 g8 fzb
  have t0 : wc.cell? ⟨w.heap.size, 0, none⟩ = some (.iface 71 (.pointer (some ⟨bm, 0, none⟩))) := HTc.out.cell rfl
  have g0 : wc.cell? ⟨g, 0, none⟩ = some (.int .i64 (n : Int)) := HGc.out.cell rfl
  have g1 : wc.cell? ⟨g, 1, none⟩ = some (.int .i64 0) := HGc.out.cell rfl
  have g2 : wc.cell? ⟨g, 2, none⟩ = some (.int .i64 (n : Int)) := HGc.out.cell rfl
  have g4 : wc.cell? ⟨g, 4, none⟩ = some (.int .i64 (th : Int)) := HGc.out.cell rfl
  have g5 : wc.cell? ⟨g, 5, none⟩ = some (.int .u64 (num : Int)) := HGc.out.cell rfl
  have g6 : wc.cell? ⟨g, 6, none⟩ = some (.int .i64 ((k : Int) + 1)) := HGc.out.cell rfl
  have g7 : wc.cell? ⟨g, 7, none⟩ = some (.bool true) := HGc.out.cell rfl
  have g8 : wc.cell? ⟨g, 8, none⟩ = some (.slice ao ln cp) := HGc.out.cell rfl
  clear hwk
  go_wp2_with fail
  refine (HSW.out _ HMc.out).mono ?_
  rintro e w4 ⟨rfl, hM4, hB4⟩
  have HG4 := Lib.hid (HGc.out.same (hB4.block g HGc.out.lt hgm hgw))
  have HA4 := Lib.hid (HAc.out.same (hB4.block (w.heap.size + 1) HAc.out.lt (by omega) (by omega)))
  have HM4 := Lib.hid hM4
  have HB4 : Hid (ButS (fun b => b = bm ∨ b = bw ∨ b = g) w w4) := Lib.hid (HBc.out.trans (ButS.of_but hB4 (.inl rfl) (.inr (.inl rfl))))
  clear hM4 hB4 t0 g0 g1 g2 g4 g5 g6 g7 g8
  have g0 : w4.cell? ⟨g, 0, none⟩ = some (.int .i64 (n : Int)) := HG4.out.cell rfl
  have g5 : w4.cell? ⟨g, 5, none⟩ = some (.int .u64 (num : Int)) := HG4.out.cell rfl
  have g7 : w4.cell? ⟨g, 7, none⟩ = some (.bool true) := HG4.out.cell rfl
  have g8 : w4.cell? ⟨g, 8, none⟩ = some (.slice ao ln cp) := HG4.out.cell rfl
  have fz4 : ∀ j, w4.frozen? ⟨g, j, none⟩ = false := fun j => HG4.out.free
  have n1 : g ≠ w.heap.size + 1 := by omega
  have n2 : w.heap.size + 1 ≠ g := by omega
  have HM6 : Hid (MemIs 108 (w4.setCell ⟨g, 7, none⟩ (.bool true)) bm bw L2 C2) := Lib.hid (HM4.out.setNew _ _ hgm hgw)
  have HA6 : Hid (RowBlk 39 (w4.setCell ⟨g, 7, none⟩ (.bool true)) (w.heap.size + 1) [.int .i64 0, .int .u64 0, .slice none 0 0]) := Lib.hid (HA4.out.other (a := ⟨g, 7, none⟩) n2 _)
  have HG6 : Hid (RowBlk 163 (w4.setCell ⟨g, 7, none⟩ (.bool true)) g [.int .i64 (n : Int), .int .i64 0, .int .i64 (n : Int), .slice (some ⟨bo, 0, none⟩) n n, .int .i64 (th : Int), .int .u64 (num : Int), .int .i64 ((k : Int) + 1), .bool true, .slice ao ln cp]) := Lib.hid (HG4.out.put 7 _)
  have HB6 : Hid (ButS (fun b => b = bm ∨ b = bw ∨ b = g) w (w4.setCell ⟨g, 7, none⟩ (.bool true))) := Lib.hid (HB4.out.setCell (x := ⟨g, 7, none⟩) (.inl (.inr (.inr rfl))) _)
  go_upto_region 13 with fail
  generalize (w4.setCell ⟨g, 7, none⟩ (.bool true)) = w6 at HM6 HA6 HG6 HB6 ⊢
  clear g0 g5 g7 g8 fz4
  have g0 : w6.cell? ⟨g, 0, none⟩ = some (.int .i64 (n : Int)) := HG6.out.cell rfl
  have g8 : w6.cell? ⟨g, 8, none⟩ = some (.slice ao ln cp) := HG6.out.cell rfl
  go_quiet (fail)
  have HM7 := Lib.hid (HM6.out.drewN nq)
  have HA7 := Lib.hid (HA6.out.drewN nq)
  have HG7 := Lib.hid (HG6.out.drewN nq)
  have HB7 := Lib.hid (HB6.out.drewN nq)
  generalize w6.drewN nq = w7 at HM7 HA7 HG7 HB7 ⊢
  clear g0 g8
  have a0 : w7.cell? ⟨w.heap.size + 1, 0, none⟩ = some (.int .i64 0) := HA7.out.cell rfl
  have a1 : w7.cell? ⟨w.heap.size + 1, 1, none⟩ = some (.int .u64 0) := HA7.out.cell rfl
  have a2 : w7.cell? ⟨w.heap.size + 1, 2, none⟩ = some (.slice none 0 0) := HA7.out.cell rfl
  have z0 : ∀ j, w7.frozen? ⟨w.heap.size + 1, j, none⟩ = false := fun j => HA7.out.free
  have HX : Hid (RowBlk 39 (((w7.setCell ⟨w.heap.size + 1, 0, none⟩ (.int .i64 0)).setCell ⟨w.heap.size + 1, 1, none⟩ (.int .u64 0)).setCell ⟨w.heap.size + 1, 2, none⟩ (.slice none 0 0)) (w.heap.size + 1) [.int .i64 0, .int .u64 0, .slice none 0 0] ∧ RowBlk 163 (((w7.setCell ⟨w.heap.size + 1, 0, none⟩ (.int .i64 0)).setCell ⟨w.heap.size + 1, 1, none⟩ (.int .u64 0)).setCell ⟨w.heap.size + 1, 2, none⟩ (.slice none 0 0)) g [.int .i64 (n : Int), .int .i64 0, .int .i64 (n : Int), .slice (some ⟨bo, 0, none⟩) n n, .int .i64 (th : Int), .int .u64 (num : Int), .int .i64 ((k : Int) + 1), .bool true, .slice ao ln cp] ∧ MemIs 108 (((w7.setCell ⟨w.heap.size + 1, 0, none⟩ (.int .i64 0)).setCell ⟨w.heap.size + 1, 1, none⟩ (.int .u64 0)).setCell ⟨w.heap.size + 1, 2, none⟩ (.slice none 0 0)) bm bw L2 C2 ∧ ButS (fun b => b = bm ∨ b = bw ∨ b = g) w (((w7.setCell ⟨w.heap.size + 1, 0, none⟩ (.int .i64 0)).setCell ⟨w.heap.size + 1, 1, none⟩ (.int .u64 0)).setCell ⟨w.heap.size + 1, 2, none⟩ (.slice none 0 0))) := Lib.hid
    ⟨(((HA7.out.put 0 _).put 1 _).put 2 _), (((HG7.out.other (a := ⟨w.heap.size + 1, 0, none⟩) n1 _).other (a := ⟨w.heap.size + 1, 1, none⟩) n1 _).other (a := ⟨w.heap.size + 1, 2, none⟩) n1 _), (((HM7.out.setNew _ _ (by omega) (by omega)).setNew _ _ (by omega) (by omega)).setNew _ _ (by omega) (by omega)), (((HB7.out.setCell (x := ⟨w.heap.size + 1, 0, none⟩) (.inr (by show w.heap.size ≤ w.heap.size + 1; omega)) _).setCell (x := ⟨w.heap.size + 1, 1, none⟩) (.inr (by show w.heap.size ≤ w.heap.size + 1; omega)) _).setCell (x := ⟨w.heap.size + 1, 2, none⟩) (.inr (by show w.heap.size ≤ w.heap.size + 1; omega)) _)⟩
  go_wp2_with fail
  generalize (((w7.setCell ⟨w.heap.size + 1, 0, none⟩ (.int .i64 0)).setCell ⟨w.heap.size + 1, 1, none⟩ (.int .u64 0)).setCell ⟨w.heap.size + 1, 2, none⟩ (.slice none 0 0)) = W5 at HX ⊢
  have q0 := HX.out.1.cell (i := 0) rfl
  have q1 := HX.out.1.cell (i := 1) rfl
  have q2 := HX.out.1.cell (i := 2) rfl
  exact bodyPost_ret (v := .tuple #[.agg #[.int .i64 0, .int .u64 0, .slice none 0 0], .bool false]) (by simp [results, Try.results75, go_sem, q0, q1, q2]) rfl ⟨rfl, HX.out.2.2.1, HX.out.2.2.2, HX.out.2.1⟩
set_option maxRecDepth 100000 in
set_option maxHeartbeats 4000000 in
theorem ad_s1z (n bo g bm bw th num k r : Nat) (ao : Option Addr) (ln cp : Nat) (l : List Nat) (c : Cn) (t : Nat) (w : World) (hM : MemIs 108 w bm bw l c) (hg : RowBlk 163 w g (AdVs n bo th num k false (.slice ao ln cp))) (hn : 1 ≤ n ∧ n ≤ 16) (hth : th < n) (hnum : num < 4294967296) (hlen : l.length = 2 * n) (hl : l.length ≤ 65536) (hln : ln < n) (hk : 1 ≤ k ∧ k ≤ n) (hc : c.r < 9223372036854775807) (hr : l.getD (k - 1) 0 = r) (hr0 : r = 0) : Calls Try.prog 75 #[.pointer (some ⟨g, 0, none⟩), turnAgg bm (t : Int)] w (AdMore n bo g bm bw th num (k + 1) false (.slice ao ln cp) ((Acc.rd (k - 1)).run l c).2.1 ((Acc.rd (k - 1)).run l c).2.2 w) := by
  unfold AdVs at hg
  have hgm : g ≠ bm := by intro e; have h1 := hg; have h2 := hM.1; unfold RowBlk at h1; rw [e, h2] at h1; simp at h1
  have hgw : g ≠ bw := by intro e; have h1 := hg; have h2 := hM.2.1; unfold RowBlk at h1; rw [e, h2] at h1; simp at h1
  have hwk : IntKind.i64.wrap ((k : Int) + 1) = (k : Int) + 1 := by unfold IntKind.wrap; simp [IntKind.bits, IntKind.signed]; omega
  have hw1 : IntKind.i64.wrap ((n : Int) + 1) = (n : Int) + 1 := by unfold IntKind.wrap; simp [IntKind.bits, IntKind.signed]; omega
  have hk0 : ¬ (k : Int) = 0 := by omega
  have hk0b : ((k : Int) == 0) = false := by rw [beq_eq_false_iff_ne]; exact hk0
  have hk0c : decide ((k : Int) = 0) = false := decide_eq_false hk0
  obtain ⟨j, hj⟩ : ∃ j, k - 1 = j := ⟨_, rfl⟩
  rw [hj] at hr ⊢
  have hjn : j < n := by omega
  have hwj0 : IntKind.i64.wrap (k : Int) = (k : Int) := by unfold IntKind.wrap; simp [IntKind.bits, IntKind.signed]; omega
  have hwj : IntKind.i64.wrap ((k : Int) - 1) = (j : Int) := by unfold IntKind.wrap; simp [IntKind.bits, IntKind.signed]; omega
  have hk1 : (k : Int) < (n : Int) + 1 := by omega
  have hlnn : (ln : Int) < (n : Int) := by omega
  obtain ⟨L2, hL2⟩ : ∃ L2, ((Acc.rd j).run l c).2.1 = L2 := ⟨_, rfl⟩
  obtain ⟨C2, hC2⟩ : ∃ C2, ((Acc.rd j).run l c).2.2 = C2 := ⟨_, rfl⟩
  have HSW : Hid (∀ W : World, MemIs 108 W bm bw l c → Calls Try.prog 86 #[.pointer (some ⟨bm, 0, none⟩), .int .i64 (j : Int)] W fun e w' => e = .returned (.int .u64 (r : Int)) ∧ MemIs 108 w' bm bw L2 C2 ∧ But bm bw W w') := Lib.hid (fun W hW => by
    have h := rd_acc (i := j) hW (by omega) hl hc
    unfold AccPost at h
    rw [hL2, hC2, hr] at h
    exact h)
  rw [hL2, hC2]
  subst hr0
  clear hj hr 
  have HM := Lib.hid hM
  have HG : Hid (RowBlk 163 w g [.int .i64 (n : Int), .int .i64 0, .int .i64 (n : Int), .slice (some ⟨bo, 0, none⟩) n n, .int .i64 (th : Int), .int .u64 (num : Int), .int .i64 ((k : Int)), .bool false, .slice ao ln cp]) := Lib.hid hg
  have hmm := m_Read ⟨bm, 0, none⟩
  have hbm := hM.lt1
  have hbw := hM.lt2
  have hgl := hg.lt
  unfold turnAgg
  clear hM hg
  go_enter Try.func75, Try.ntmps75
  go_upto_region 1 with fail
  have HMa : Hid (MemIs 108 ((w.alloc (.cells #[.iface 71 (.pointer (some ⟨bm, 0, none⟩)), .int .i64 (t : Int)] 87)).alloc (.cells #[.int .i64 0, .int .u64 0, .slice none 0 0] 39)) bm bw l c) := Lib.hid ((HM.out.alloc _).alloc _)
  have HTa : Hid (RowBlk 87 ((w.alloc (.cells #[.iface 71 (.pointer (some ⟨bm, 0, none⟩)), .int .i64 (t : Int)] 87)).alloc (.cells #[.int .i64 0, .int .u64 0, .slice none 0 0] 39)) w.heap.size [.iface 71 (.pointer (some ⟨bm, 0, none⟩)), .int .i64 (t : Int)]) := Lib.hid ((RowBlk.new w [.iface 71 (.pointer (some ⟨bm, 0, none⟩)), .int .i64 (t : Int)] 87).alloc _)
  have HAa : Hid (RowBlk 39 ((w.alloc (.cells #[.iface 71 (.pointer (some ⟨bm, 0, none⟩)), .int .i64 (t : Int)] 87)).alloc (.cells #[.int .i64 0, .int .u64 0, .slice none 0 0] 39)) (w.heap.size + 1) [.int .i64 0, .int .u64 0, .slice none 0 0]) := Lib.hid (by
    have h := RowBlk.new (w.alloc (.cells #[.iface 71 (.pointer (some ⟨bm, 0, none⟩)), .int .i64 (t : Int)] 87)) [.int .i64 0, .int .u64 0, .slice none 0 0] 39
    have e : (w.alloc (.cells #[.iface 71 (.pointer (some ⟨bm, 0, none⟩)), .int .i64 (t : Int)] 87)).heap.size = w.heap.size + 1 := by simp
    rw [e] at h; exact h)
  have HBa : Hid (ButS (fun b => b = bm ∨ b = bw ∨ b = g) w ((w.alloc (.cells #[.iface 71 (.pointer (some ⟨bm, 0, none⟩)), .int .i64 (t : Int)] 87)).alloc (.cells #[.int .i64 0, .int .u64 0, .slice none 0 0] 39))) := Lib.hid (((ButS.refl _ _).alloc _).alloc _)
  have HZa : Hid (((w.alloc (.cells #[.iface 71 (.pointer (some ⟨bm, 0, none⟩)), .int .i64 (t : Int)] 87)).alloc (.cells #[.int .i64 0, .int .u64 0, .slice none 0 0] 39)).heap.size = w.heap.size + 2) := Lib.hid (by simp)
  have HGa : Hid (RowBlk 163 ((w.alloc (.cells #[.iface 71 (.pointer (some ⟨bm, 0, none⟩)), .int .i64 (t : Int)] 87)).alloc (.cells #[.int .i64 0, .int .u64 0, .slice none 0 0] 39)) g [.int .i64 (n : Int), .int .i64 0, .int .i64 (n : Int), .slice (some ⟨bo, 0, none⟩) n n, .int .i64 (th : Int), .int .u64 (num : Int), .int .i64 ((k : Int)), .bool false, .slice ao ln cp]) := Lib.hid ((HG.out.alloc _).alloc _)
  generalize ((w.alloc (.cells #[.iface 71 (.pointer (some ⟨bm, 0, none⟩)), .int .i64 (t : Int)] 87)).alloc (.cells #[.int .i64 0, .int .u64 0, .slice none 0 0] 39)) = wa at HMa HTa HAa HBa HZa HGa ⊢
  have t0 : wa.cell? ⟨w.heap.size, 0, none⟩ = some (.iface 71 (.pointer (some ⟨bm, 0, none⟩))) := HTa.out.cell rfl
  have g0 : wa.cell? ⟨g, 0, none⟩ = some (.int .i64 (n : Int)) := HGa.out.cell rfl
  have g1 : wa.cell? ⟨g, 1, none⟩ = some (.int .i64 0) := HGa.out.cell rfl
  have g2 : wa.cell? ⟨g, 2, none⟩ = some (.int .i64 (n : Int)) := HGa.out.cell rfl
  have g4 : wa.cell? ⟨g, 4, none⟩ = some (.int .i64 (th : Int)) := HGa.out.cell rfl
  have g5 : wa.cell? ⟨g, 5, none⟩ = some (.int .u64 (num : Int)) := HGa.out.cell rfl
  have g6 : wa.cell? ⟨g, 6, none⟩ = some (.int .i64 ((k : Int))) := HGa.out.cell rfl
  have g7 : wa.cell? ⟨g, 7, none⟩ = some (.bool false) := HGa.out.cell rfl
  have g8 : wa.cell? ⟨g, 8, none⟩ = some (.slice ao ln cp) := HGa.out.cell rfl
  go_quiet (fail)
  have HMb := Lib.hid (HMa.out.drewN nq)
  have HTb := Lib.hid (HTa.out.drewN nq)
  have HAb := Lib.hid (HAa.out.drewN nq)
  have HGb := Lib.hid (HGa.out.drewN nq)
  have HBb := Lib.hid (HBa.out.drewN nq)
  have HZb : Hid ((wa.drewN nq).heap.size = w.heap.size + 2) := Lib.hid HZa.out
  generalize wa.drewN nq = wb at HMb HTb HAb HGb HBb HZb ⊢
  clear t0 g0 g1 g2 g4 g5 g6 g7 g8
  have t0 : wb.cell? ⟨w.heap.size, 0, none⟩ = some (.iface 71 (.pointer (some ⟨bm, 0, none⟩))) := HTb.out.cell rfl
  have g0 : wb.cell? ⟨g, 0, none⟩ = some (.int .i64 (n : Int)) := HGb.out.cell rfl
  have g1 : wb.cell? ⟨g, 1, none⟩ = some (.int .i64 0) := HGb.out.cell rfl
  have g2 : wb.cell? ⟨g, 2, none⟩ = some (.int .i64 (n : Int)) := HGb.out.cell rfl
  have g4 : wb.cell? ⟨g, 4, none⟩ = some (.int .i64 (th : Int)) := HGb.out.cell rfl
  have g5 : wb.cell? ⟨g, 5, none⟩ = some (.int .u64 (num : Int)) := HGb.out.cell rfl
  have g6 : wb.cell? ⟨g, 6, none⟩ = some (.int .i64 ((k : Int))) := HGb.out.cell rfl
  have g7 : wb.cell? ⟨g, 7, none⟩ = some (.bool false) := HGb.out.cell rfl
  have g8 : wb.cell? ⟨g, 8, none⟩ = some (.slice ao ln cp) := HGb.out.cell rfl
  have fzb : ∀ j, wb.frozen? ⟨g, j, none⟩ = false := fun j => HGb.out.free
  have HMc : Hid (MemIs 108 (wb.setCell ⟨g, 6, none⟩ (.int .i64 ((k : Int) + 1))) bm bw l c) := Lib.hid (HMb.out.setNew _ _ hgm hgw)
  have HTc : Hid (RowBlk 87 (wb.setCell ⟨g, 6, none⟩ (.int .i64 ((k : Int) + 1))) w.heap.size [.iface 71 (.pointer (some ⟨bm, 0, none⟩)), .int .i64 (t : Int)]) := Lib.hid (HTb.out.other (a := ⟨g, 6, none⟩) (show w.heap.size ≠ g by omega) _)
  have HAc : Hid (RowBlk 39 (wb.setCell ⟨g, 6, none⟩ (.int .i64 ((k : Int) + 1))) (w.heap.size + 1) [.int .i64 0, .int .u64 0, .slice none 0 0]) := Lib.hid (HAb.out.other (a := ⟨g, 6, none⟩) (show w.heap.size + 1 ≠ g by omega) _)
  have HGc : Hid (RowBlk 163 (wb.setCell ⟨g, 6, none⟩ (.int .i64 ((k : Int) + 1))) g [.int .i64 (n : Int), .int .i64 0, .int .i64 (n : Int), .slice (some ⟨bo, 0, none⟩) n n, .int .i64 (th : Int), .int .u64 (num : Int), .int .i64 ((k : Int) + 1), .bool false, .slice ao ln cp]) := Lib.hid (HGb.out.put 6 _)
  have HBc : Hid (ButS (fun b => b = bm ∨ b = bw ∨ b = g) w (wb.setCell ⟨g, 6, none⟩ (.int .i64 ((k : Int) + 1)))) := Lib.hid (HBb.out.setCell (x := ⟨g, 6, none⟩) (.inl (.inr (.inr rfl))) _)
  have HZc : Hid ((wb.setCell ⟨g, 6, none⟩ (.int .i64 ((k : Int) + 1))).heap.size = w.heap.size + 2) := Lib.hid (by have := HZb.out; simpa [World.setCell] using this)
  go_upto_region 4 with fail
  generalize wb.setCell ⟨g, 6, none⟩ (.int .i64 ((k : Int) + 1)) = wc at HMc HTc HAc HGc HBc HZc ⊢
  clear t0 g0 g1 g2 g4 g5 g6 g7 g8 fzb
  have t0 : wc.cell? ⟨w.heap.size, 0, none⟩ = some (.iface 71 (.pointer (some ⟨bm, 0, none⟩))) := HTc.out.cell rfl
  have g0 : wc.cell? ⟨g, 0, none⟩ = some (.int .i64 (n : Int)) := HGc.out.cell rfl
  have g1 : wc.cell? ⟨g, 1, none⟩ = some (.int .i64 0) := HGc.out.cell rfl
  have g2 : wc.cell? ⟨g, 2, none⟩ = some (.int .i64 (n : Int)) := HGc.out.cell rfl
  have g4 : wc.cell? ⟨g, 4, none⟩ = some (.int .i64 (th : Int)) := HGc.out.cell rfl
  have g5 : wc.cell? ⟨g, 5, none⟩ = some (.int .u64 (num : Int)) := HGc.out.cell rfl
  have g6 : wc.cell? ⟨g, 6, none⟩ = some (.int .i64 ((k : Int) + 1)) := HGc.out.cell rfl
  have g7 : wc.cell? ⟨g, 7, none⟩ = some (.bool false) := HGc.out.cell rfl
  have g8 : wc.cell? ⟨g, 8, none⟩ = some (.slice ao ln cp) := HGc.out.cell rfl
  clear hwk
  go_wp2_with fail
  refine (HSW.out _ HMc.out).mono ?_
  rintro e w4 ⟨rfl, hM4, hB4⟩
  have HG4 := Lib.hid (HGc.out.same (hB4.block g HGc.out.lt hgm hgw))
  have HA4 := Lib.hid (HAc.out.same (hB4.block (w.heap.size + 1) HAc.out.lt (by omega) (by omega)))
  have HM4 := Lib.hid hM4
  have HB4 : Hid (ButS (fun b => b = bm ∨ b = bw ∨ b = g) w w4) := Lib.hid (HBc.out.trans (ButS.of_but hB4 (.inl rfl) (.inr (.inl rfl))))
  clear hM4 hB4 t0 g0 g1 g2 g4 g5 g6 g7 g8
  have g0 : w4.cell? ⟨g, 0, none⟩ = some (.int .i64 (n : Int)) := HG4.out.cell rfl
  have g5 : w4.cell? ⟨g, 5, none⟩ = some (.int .u64 (num : Int)) := HG4.out.cell rfl
  have g7 : w4.cell? ⟨g, 7, none⟩ = some (.bool false) := HG4.out.cell rfl
  have g8 : w4.cell? ⟨g, 8, none⟩ = some (.slice ao ln cp) := HG4.out.cell rfl
  have fz4 : ∀ j, w4.frozen? ⟨g, j, none⟩ = false := fun j => HG4.out.free
  have n1 : g ≠ w.heap.size + 1 := by omega
  have n2 : w.heap.size + 1 ≠ g := by omega
  have HM6 : Hid (MemIs 108 (w4.setCell ⟨g, 7, none⟩ (.bool false)) bm bw L2 C2) := Lib.hid (HM4.out.setNew _ _ hgm hgw)
  have HA6 : Hid (RowBlk 39 (w4.setCell ⟨g, 7, none⟩ (.bool false)) (w.heap.size + 1) [.int .i64 0, .int .u64 0, .slice none 0 0]) := Lib.hid (HA4.out.other (a := ⟨g, 7, none⟩) n2 _)
  have HG6 : Hid (RowBlk 163 (w4.setCell ⟨g, 7, none⟩ (.bool false)) g [.int .i64 (n : Int), .int .i64 0, .int .i64 (n : Int), .slice (some ⟨bo, 0, none⟩) n n, .int .i64 (th : Int), .int .u64 (num : Int), .int .i64 ((k : Int) + 1), .bool false, .slice ao ln cp]) := Lib.hid (HG4.out.put 7 _)
  have HB6 : Hid (ButS (fun b => b = bm ∨ b = bw ∨ b = g) w (w4.setCell ⟨g, 7, none⟩ (.bool false))) := Lib.hid (HB4.out.setCell (x := ⟨g, 7, none⟩) (.inl (.inr (.inr rfl))) _)
  go_upto_region 13 with fail
  generalize (w4.setCell ⟨g, 7, none⟩ (.bool false)) = w6 at HM6 HA6 HG6 HB6 ⊢
  clear g0 g5 g7 g8 fz4
  have g0 : w6.cell? ⟨g, 0, none⟩ = some (.int .i64 (n : Int)) := HG6.out.cell rfl
  have g8 : w6.cell? ⟨g, 8, none⟩ = some (.slice ao ln cp) := HG6.out.cell rfl
  go_quiet (fail)
  have HM7 := Lib.hid (HM6.out.drewN nq)
  have HA7 := Lib.hid (HA6.out.drewN nq)
  have HG7 := Lib.hid (HG6.out.drewN nq)
  have HB7 := Lib.hid (HB6.out.drewN nq)
  generalize w6.drewN nq = w7 at HM7 HA7 HG7 HB7 ⊢
  clear g0 g8
  have a0 : w7.cell? ⟨w.heap.size + 1, 0, none⟩ = some (.int .i64 0) := HA7.out.cell rfl
  have a1 : w7.cell? ⟨w.heap.size + 1, 1, none⟩ = some (.int .u64 0) := HA7.out.cell rfl
  have a2 : w7.cell? ⟨w.heap.size + 1, 2, none⟩ = some (.slice none 0 0) := HA7.out.cell rfl
  have z0 : ∀ j, w7.frozen? ⟨w.heap.size + 1, j, none⟩ = false := fun j => HA7.out.free
  have HX : Hid (RowBlk 39 (((w7.setCell ⟨w.heap.size + 1, 0, none⟩ (.int .i64 0)).setCell ⟨w.heap.size + 1, 1, none⟩ (.int .u64 0)).setCell ⟨w.heap.size + 1, 2, none⟩ (.slice none 0 0)) (w.heap.size + 1) [.int .i64 0, .int .u64 0, .slice none 0 0] ∧ RowBlk 163 (((w7.setCell ⟨w.heap.size + 1, 0, none⟩ (.int .i64 0)).setCell ⟨w.heap.size + 1, 1, none⟩ (.int .u64 0)).setCell ⟨w.heap.size + 1, 2, none⟩ (.slice none 0 0)) g [.int .i64 (n : Int), .int .i64 0, .int .i64 (n : Int), .slice (some ⟨bo, 0, none⟩) n n, .int .i64 (th : Int), .int .u64 (num : Int), .int .i64 ((k : Int) + 1), .bool false, .slice ao ln cp] ∧ MemIs 108 (((w7.setCell ⟨w.heap.size + 1, 0, none⟩ (.int .i64 0)).setCell ⟨w.heap.size + 1, 1, none⟩ (.int .u64 0)).setCell ⟨w.heap.size + 1, 2, none⟩ (.slice none 0 0)) bm bw L2 C2 ∧ ButS (fun b => b = bm ∨ b = bw ∨ b = g) w (((w7.setCell ⟨w.heap.size + 1, 0, none⟩ (.int .i64 0)).setCell ⟨w.heap.size + 1, 1, none⟩ (.int .u64 0)).setCell ⟨w.heap.size + 1, 2, none⟩ (.slice none 0 0))) := Lib.hid
    ⟨(((HA7.out.put 0 _).put 1 _).put 2 _), (((HG7.out.other (a := ⟨w.heap.size + 1, 0, none⟩) n1 _).other (a := ⟨w.heap.size + 1, 1, none⟩) n1 _).other (a := ⟨w.heap.size + 1, 2, none⟩) n1 _), (((HM7.out.setNew _ _ (by omega) (by omega)).setNew _ _ (by omega) (by omega)).setNew _ _ (by omega) (by omega)), (((HB7.out.setCell (x := ⟨w.heap.size + 1, 0, none⟩) (.inr (by show w.heap.size ≤ w.heap.size + 1; omega)) _).setCell (x := ⟨w.heap.size + 1, 1, none⟩) (.inr (by show w.heap.size ≤ w.heap.size + 1; omega)) _).setCell (x := ⟨w.heap.size + 1, 2, none⟩) (.inr (by show w.heap.size ≤ w.heap.size + 1; omega)) _)⟩
  go_wp2_with fail
  generalize (((w7.setCell ⟨w.heap.size + 1, 0, none⟩ (.int .i64 0)).setCell ⟨w.heap.size + 1, 1, none⟩ (.int .u64 0)).setCell ⟨w.heap.size + 1, 2, none⟩ (.slice none 0 0)) = W5 at HX ⊢
  have q0 := HX.out.1.cell (i := 0) rfl
  have q1 := HX.out.1.cell (i := 1) rfl
  have q2 := HX.out.1.cell (i := 2) rfl
  exact bodyPost_ret (v := .tuple #[.agg #[.int .i64 0, .int .u64 0, .slice none 0 0], .bool false]) (by simp [results, Try.results75, go_sem, q0, q1, q2]) rfl ⟨rfl, HX.out.2.2.1, HX.out.2.2.2, HX.out.2.1⟩
set_option maxRecDepth 100000 in
set_option maxHeartbeats 4000000 in
theorem ad_s1s (n bo g bm bw th num k r : Nat) (ao : Option Addr) (ln cp : Nat) (l : List Nat) (c : Cn) (t : Nat) (w : World) (hM : MemIs 108 w bm bw l c) (hg : RowBlk 163 w g (AdVs n bo th num k false (.slice ao ln cp))) (hn : 1 ≤ n ∧ n ≤ 16) (hth : th < n) (hnum : num < 4294967296) (hlen : l.length = 2 * n) (hl : l.length ≤ 65536) (hln : ln < n) (hk : 1 ≤ k ∧ k ≤ n) (hc : c.r < 9223372036854775807) (hr : l.getD (k - 1) 0 = r) (hr0 : r ≠ 0) (hr1 : r = num) : Calls Try.prog 75 #[.pointer (some ⟨g, 0, none⟩), turnAgg bm (t : Int)] w (AdMore n bo g bm bw th num (k + 1) false (.slice ao ln cp) ((Acc.rd (k - 1)).run l c).2.1 ((Acc.rd (k - 1)).run l c).2.2 w) := by
  unfold AdVs at hg
  have hgm : g ≠ bm := by intro e; have h1 := hg; have h2 := hM.1; unfold RowBlk at h1; rw [e, h2] at h1; simp at h1
  have hgw : g ≠ bw := by intro e; have h1 := hg; have h2 := hM.2.1; unfold RowBlk at h1; rw [e, h2] at h1; simp at h1
  have hwk : IntKind.i64.wrap ((k : Int) + 1) = (k : Int) + 1 := by unfold IntKind.wrap; simp [IntKind.bits, IntKind.signed]; omega
  have hw1 : IntKind.i64.wrap ((n : Int) + 1) = (n : Int) + 1 := by unfold IntKind.wrap; simp [IntKind.bits, IntKind.signed]; omega
  have hk0 : ¬ (k : Int) = 0 := by omega
  have hk0b : ((k : Int) == 0) = false := by rw [beq_eq_false_iff_ne]; exact hk0
  have hk0c : decide ((k : Int) = 0) = false := decide_eq_false hk0
  obtain ⟨j, hj⟩ : ∃ j, k - 1 = j := ⟨_, rfl⟩
  rw [hj] at hr ⊢
  have hjn : j < n := by omega
  have hwj0 : IntKind.i64.wrap (k : Int) = (k : Int) := by unfold IntKind.wrap; simp [IntKind.bits, IntKind.signed]; omega
  have hwj : IntKind.i64.wrap ((k : Int) - 1) = (j : Int) := by unfold IntKind.wrap; simp [IntKind.bits, IntKind.signed]; omega
  have hk1 : (k : Int) < (n : Int) + 1 := by omega
  have hlnn : (ln : Int) < (n : Int) := by omega
  obtain ⟨L2, hL2⟩ : ∃ L2, ((Acc.rd j).run l c).2.1 = L2 := ⟨_, rfl⟩
  obtain ⟨C2, hC2⟩ : ∃ C2, ((Acc.rd j).run l c).2.2 = C2 := ⟨_, rfl⟩
  have HSW : Hid (∀ W : World, MemIs 108 W bm bw l c → Calls Try.prog 86 #[.pointer (some ⟨bm, 0, none⟩), .int .i64 (j : Int)] W fun e w' => e = .returned (.int .u64 (r : Int)) ∧ MemIs 108 w' bm bw L2 C2 ∧ But bm bw W w') := Lib.hid (fun W hW => by
    have h := rd_acc (i := j) hW (by omega) hl hc
    unfold AccPost at h
    rw [hL2, hC2, hr] at h
    exact h)
  rw [hL2, hC2]
  have hr2 : ¬ (r : Int) = 0 := by omega
  have hr3 : ((r : Int) == 0) = false := by rw [beq_eq_false_iff_ne]; exact hr2
  have hr4 : ((r : Int) != 0) = true := by rw [bne_iff_ne]; exact hr2
  have hr1s := hr1.symm
  subst hr1s
  clear hj hr hr0
  have HM := Lib.hid hM
  have HG : Hid (RowBlk 163 w g [.int .i64 (n : Int), .int .i64 0, .int .i64 (n : Int), .slice (some ⟨bo, 0, none⟩) n n, .int .i64 (th : Int), .int .u64 (num : Int), .int .i64 ((k : Int)), .bool false, .slice ao ln cp]) := Lib.hid hg
  have hmm := m_Read ⟨bm, 0, none⟩
  have hbm := hM.lt1
  have hbw := hM.lt2
  have hgl := hg.lt
  unfold turnAgg
  clear hM hg
  go_enter Try.func75, Try.ntmps75
  go_upto_region 1 with fail
  have HMa : Hid (MemIs 108 ((w.alloc (.cells #[.iface 71 (.pointer (some ⟨bm, 0, none⟩)), .int .i64 (t : Int)] 87)).alloc (.cells #[.int .i64 0, .int .u64 0, .slice none 0 0] 39)) bm bw l c) := Lib.hid ((HM.out.alloc _).alloc _)
  have HTa : Hid (RowBlk 87 ((w.alloc (.cells #[.iface 71 (.pointer (some ⟨bm, 0, none⟩)), .int .i64 (t : Int)] 87)).alloc (.cells #[.int .i64 0, .int .u64 0, .slice none 0 0] 39)) w.heap.size [.iface 71 (.pointer (some ⟨bm, 0, none⟩)), .int .i64 (t : Int)]) := Lib.hid ((RowBlk.new w [.iface 71 (.pointer (some ⟨bm, 0, none⟩)), .int .i64 (t : Int)] 87).alloc _)
  have HAa : Hid (RowBlk 39 ((w.alloc (.cells #[.iface 71 (.pointer (some ⟨bm, 0, none⟩)), .int .i64 (t : Int)] 87)).alloc (.cells #[.int .i64 0, .int .u64 0, .slice none 0 0] 39)) (w.heap.size + 1) [.int .i64 0, .int .u64 0, .slice none 0 0]) := Lib.hid (by
    have h := RowBlk.new (w.alloc (.cells #[.iface 71 (.pointer (some ⟨bm, 0, none⟩)), .int .i64 (t : Int)] 87)) [.int .i64 0, .int .u64 0, .slice none 0 0] 39
    have e : (w.alloc (.cells #[.iface 71 (.pointer (some ⟨bm, 0, none⟩)), .int .i64 (t : Int)] 87)).heap.size = w.heap.size + 1 := by simp
    rw [e] at h; exact h)
  have HBa : Hid (ButS (fun b => b = bm ∨ b = bw ∨ b = g) w ((w.alloc (.cells #[.iface 71 (.pointer (some ⟨bm, 0, none⟩)), .int .i64 (t : Int)] 87)).alloc (.cells #[.int .i64 0, .int .u64 0, .slice none 0 0] 39))) := Lib.hid (((ButS.refl _ _).alloc _).alloc _)
  have HZa : Hid (((w.alloc (.cells #[.iface 71 (.pointer (some ⟨bm, 0, none⟩)), .int .i64 (t : Int)] 87)).alloc (.cells #[.int .i64 0, .int .u64 0, .slice none 0 0] 39)).heap.size = w.heap.size + 2) := Lib.hid (by simp)
  have HGa : Hid (RowBlk 163 ((w.alloc (.cells #[.iface 71 (.pointer (some ⟨bm, 0, none⟩)), .int .i64 (t : Int)] 87)).alloc (.cells #[.int .i64 0, .int .u64 0, .slice none 0 0] 39)) g [.int .i64 (n : Int), .int .i64 0, .int .i64 (n : Int), .slice (some ⟨bo, 0, none⟩) n n, .int .i64 (th : Int), .int .u64 (num : Int), .int .i64 ((k : Int)), .bool false, .slice ao ln cp]) := Lib.hid ((HG.out.alloc _).alloc _)
  generalize ((w.alloc (.cells #[.iface 71 (.pointer (some ⟨bm, 0, none⟩)), .int .i64 (t : Int)] 87)).alloc (.cells #[.int .i64 0, .int .u64 0, .slice none 0 0] 39)) = wa at HMa HTa HAa HBa HZa HGa ⊢
  have t0 : wa.cell? ⟨w.heap.size, 0, none⟩ = some (.iface 71 (.pointer (some ⟨bm, 0, none⟩))) := HTa.out.cell rfl
  have g0 : wa.cell? ⟨g, 0, none⟩ = some (.int .i64 (n : Int)) := HGa.out.cell rfl
  have g1 : wa.cell? ⟨g, 1, none⟩ = some (.int .i64 0) := HGa.out.cell rfl
  have g2 : wa.cell? ⟨g, 2, none⟩ = some (.int .i64 (n : Int)) := HGa.out.cell rfl
  have g4 : wa.cell? ⟨g, 4, none⟩ = some (.int .i64 (th : Int)) := HGa.out.cell rfl
  have g5 : wa.cell? ⟨g, 5, none⟩ = some (.int .u64 (num : Int)) := HGa.out.cell rfl
  have g6 : wa.cell? ⟨g, 6, none⟩ = some (.int .i64 ((k : Int))) := HGa.out.cell rfl
  have g7 : wa.cell? ⟨g, 7, none⟩ = some (.bool false) := HGa.out.cell rfl
  have g8 : wa.cell? ⟨g, 8, none⟩ = some (.slice ao ln cp) := HGa.out.cell rfl
  go_quiet (fail)
  have HMb := Lib.hid (HMa.out.drewN nq)
  have HTb := Lib.hid (HTa.out.drewN nq)
  have HAb := Lib.hid (HAa.out.drewN nq)
  have HGb := Lib.hid (HGa.out.drewN nq)
  have HBb := Lib.hid (HBa.out.drewN nq)
  have HZb : Hid ((wa.drewN nq).heap.size = w.heap.size + 2) := Lib.hid HZa.out
  generalize wa.drewN nq = wb at HMb HTb HAb HGb HBb HZb ⊢
  clear t0 g0 g1 g2 g4 g5 g6 g7 g8
  have t0 : wb.cell? ⟨w.heap.size, 0, none⟩ = some (.iface 71 (.pointer (some ⟨bm, 0, none⟩))) := HTb.out.cell rfl
  have g0 : wb.cell? ⟨g, 0, none⟩ = some (.int .i64 (n : Int)) := HGb.out.cell rfl
  have g1 : wb.cell? ⟨g, 1, none⟩ = some (.int .i64 0) := HGb.out.cell rfl
  have g2 : wb.cell? ⟨g, 2, none⟩ = some (.int .i64 (n : Int)) := HGb.out.cell rfl
  have g4 : wb.cell? ⟨g, 4, none⟩ = some (.int .i64 (th : Int)) := HGb.out.cell rfl
  have g5 : wb.cell? ⟨g, 5, none⟩ = some (.int .u64 (num : Int)) := HGb.out.cell rfl
  have g6 : wb.cell? ⟨g, 6, none⟩ = some (.int .i64 ((k : Int))) := HGb.out.cell rfl
  have g7 : wb.cell? ⟨g, 7, none⟩ = some (.bool false) := HGb.out.cell rfl
  have g8 : wb.cell? ⟨g, 8, none⟩ = some (.slice ao ln cp) := HGb.out.cell rfl
  have fzb : ∀ j, wb.frozen? ⟨g, j, none⟩ = false := fun j => HGb.out.free
  have HMc : Hid (MemIs 108 (wb.setCell ⟨g, 6, none⟩ (.int .i64 ((k : Int) + 1))) bm bw l c) := Lib.hid (HMb.out.setNew _ _ hgm hgw)
  have HTc : Hid (RowBlk 87 (wb.setCell ⟨g, 6, none⟩ (.int .i64 ((k : Int) + 1))) w.heap.size [.iface 71 (.pointer (some ⟨bm, 0, none⟩)), .int .i64 (t : Int)]) := Lib.hid (HTb.out.other (a := ⟨g, 6, none⟩) (show w.heap.size ≠ g by omega) _)
  have HAc : Hid (RowBlk 39 (wb.setCell ⟨g, 6, none⟩ (.int .i64 ((k : Int) + 1))) (w.heap.size + 1) [.int .i64 0, .int .u64 0, .slice none 0 0]) := Lib.hid (HAb.out.other (a := ⟨g, 6, none⟩) (show w.heap.size + 1 ≠ g by omega) _)
  have HGc : Hid (RowBlk 163 (wb.setCell ⟨g, 6, none⟩ (.int .i64 ((k : Int) + 1))) g [.int .i64 (n : Int), .int .i64 0, .int .i64 (n : Int), .slice (some ⟨bo, 0, none⟩) n n, .int .i64 (th : Int), .int .u64 (num : Int), .int .i64 ((k : Int) + 1), .bool false, .slice ao ln cp]) := Lib.hid (HGb.out.put 6 _)
  have HBc : Hid (ButS (fun b => b = bm ∨ b = bw ∨ b = g) w (wb.setCell ⟨g, 6, none⟩ (.int .i64 ((k : Int) + 1)))) := Lib.hid (HBb.out.setCell (x := ⟨g, 6, none⟩) (.inl (.inr (.inr rfl))) _)
  have HZc : Hid ((wb.setCell ⟨g, 6, none⟩ (.int .i64 ((k : Int) + 1))).heap.size = w.heap.size + 2) := Lib.hid (by have := HZb.out; simpa [World.setCell] using this)
  go_upto_region 4 with fail
  generalize wb.setCell ⟨g, 6, none⟩ (.int .i64 ((k : Int) + 1)) = wc at HMc HTc HAc HGc HBc HZc ⊢
  clear t0 g0 g1 g2 g4 g5 g6 g7 g8 fzb
  have t0 : wc.cell? ⟨w.heap.size, 0, none⟩ = some (.iface 71 (.pointer (some ⟨bm, 0, none⟩))) := HTc.out.cell rfl
  have g0 : wc.cell? ⟨g, 0, none⟩ = some (.int .i64 (n : Int)) := HGc.out.cell rfl
  have g1 : wc.cell? ⟨g, 1, none⟩ = some (.int .i64 0) := HGc.out.cell rfl
  have g2 : wc.cell? ⟨g, 2, none⟩ = some (.int .i64 (n : Int)) := HGc.out.cell rfl
  have g4 : wc.cell? ⟨g, 4, none⟩ = some (.int .i64 (th : Int)) := HGc.out.cell rfl
  have g5 : wc.cell? ⟨g, 5, none⟩ = some (.int .u64 (num : Int)) := HGc.out.cell rfl
  have g6 : wc.cell? ⟨g, 6, none⟩ = some (.int .i64 ((k : Int) + 1)) := HGc.out.cell rfl
  have g7 : wc.cell? ⟨g, 7, none⟩ = some (.bool false) := HGc.out.cell rfl
  have g8 : wc.cell? ⟨g, 8, none⟩ = some (.slice ao ln cp) := HGc.out.cell rfl
  clear hwk
  go_wp2_with fail
  refine (HSW.out _ HMc.out).mono ?_
  rintro e w4 ⟨rfl, hM4, hB4⟩
  have HG4 := Lib.hid (HGc.out.same (hB4.block g HGc.out.lt hgm hgw))
  have HA4 := Lib.hid (HAc.out.same (hB4.block (w.heap.size + 1) HAc.out.lt (by omega) (by omega)))
  have HM4 := Lib.hid hM4
  have HB4 : Hid (ButS (fun b => b = bm ∨ b = bw ∨ b = g) w w4) := Lib.hid (HBc.out.trans (ButS.of_but hB4 (.inl rfl) (.inr (.inl rfl))))
  clear hM4 hB4 t0 g0 g1 g2 g4 g5 g6 g7 g8
  have g0 : w4.cell? ⟨g, 0, none⟩ = some (.int .i64 (n : Int)) := HG4.out.cell rfl
  have g5 : w4.cell? ⟨g, 5, none⟩ = some (.int .u64 (num : Int)) := HG4.out.cell rfl
  have g7 : w4.cell? ⟨g, 7, none⟩ = some (.bool false) := HG4.out.cell rfl
  have g8 : w4.cell? ⟨g, 8, none⟩ = some (.slice ao ln cp) := HG4.out.cell rfl
  have fz4 : ∀ j, w4.frozen? ⟨g, j, none⟩ = false := fun j => HG4.out.free
  have n1 : g ≠ w.heap.size + 1 := by omega
  have n2 : w.heap.size + 1 ≠ g := by omega
  have HM6 : Hid (MemIs 108 (w4.setCell ⟨g, 7, none⟩ (.bool false)) bm bw L2 C2) := Lib.hid (HM4.out.setNew _ _ hgm hgw)
  have HA6 : Hid (RowBlk 39 (w4.setCell ⟨g, 7, none⟩ (.bool false)) (w.heap.size + 1) [.int .i64 0, .int .u64 0, .slice none 0 0]) := Lib.hid (HA4.out.other (a := ⟨g, 7, none⟩) n2 _)
  have HG6 : Hid (RowBlk 163 (w4.setCell ⟨g, 7, none⟩ (.bool false)) g [.int .i64 (n : Int), .int .i64 0, .int .i64 (n : Int), .slice (some ⟨bo, 0, none⟩) n n, .int .i64 (th : Int), .int .u64 (num : Int), .int .i64 ((k : Int) + 1), .bool false, .slice ao ln cp]) := Lib.hid (HG4.out.put 7 _)
  have HB6 : Hid (ButS (fun b => b = bm ∨ b = bw ∨ b = g) w (w4.setCell ⟨g, 7, none⟩ (.bool false))) := Lib.hid (HB4.out.setCell (x := ⟨g, 7, none⟩) (.inl (.inr (.inr rfl))) _)
  go_upto_region 13 with fail
  generalize (w4.setCell ⟨g, 7, none⟩ (.bool false)) = w6 at HM6 HA6 HG6 HB6 ⊢
  clear g0 g5 g7 g8 fz4
  have g0 : w6.cell? ⟨g, 0, none⟩ = some (.int .i64 (n : Int)) := HG6.out.cell rfl
  have g8 : w6.cell? ⟨g, 8, none⟩ = some (.slice ao ln cp) := HG6.out.cell rfl
  go_quiet (fail)
  have HM7 := Lib.hid (HM6.out.drewN nq)
  have HA7 := Lib.hid (HA6.out.drewN nq)
  have HG7 := Lib.hid (HG6.out.drewN nq)
  have HB7 := Lib.hid (HB6.out.drewN nq)
  generalize w6.drewN nq = w7 at HM7 HA7 HG7 HB7 ⊢
  clear g0 g8
  have a0 : w7.cell? ⟨w.heap.size + 1, 0, none⟩ = some (.int .i64 0) := HA7.out.cell rfl
  have a1 : w7.cell? ⟨w.heap.size + 1, 1, none⟩ = some (.int .u64 0) := HA7.out.cell rfl
  have a2 : w7.cell? ⟨w.heap.size + 1, 2, none⟩ = some (.slice none 0 0) := HA7.out.cell rfl
  have z0 : ∀ j, w7.frozen? ⟨w.heap.size + 1, j, none⟩ = false := fun j => HA7.out.free
  have HX : Hid (RowBlk 39 (((w7.setCell ⟨w.heap.size + 1, 0, none⟩ (.int .i64 0)).setCell ⟨w.heap.size + 1, 1, none⟩ (.int .u64 0)).setCell ⟨w.heap.size + 1, 2, none⟩ (.slice none 0 0)) (w.heap.size + 1) [.int .i64 0, .int .u64 0, .slice none 0 0] ∧ RowBlk 163 (((w7.setCell ⟨w.heap.size + 1, 0, none⟩ (.int .i64 0)).setCell ⟨w.heap.size + 1, 1, none⟩ (.int .u64 0)).setCell ⟨w.heap.size + 1, 2, none⟩ (.slice none 0 0)) g [.int .i64 (n : Int), .int .i64 0, .int .i64 (n : Int), .slice (some ⟨bo, 0, none⟩) n n, .int .i64 (th : Int), .int .u64 (num : Int), .int .i64 ((k : Int) + 1), .bool false, .slice ao ln cp] ∧ MemIs 108 (((w7.setCell ⟨w.heap.size + 1, 0, none⟩ (.int .i64 0)).setCell ⟨w.heap.size + 1, 1, none⟩ (.int .u64 0)).setCell ⟨w.heap.size + 1, 2, none⟩ (.slice none 0 0)) bm bw L2 C2 ∧ ButS (fun b => b = bm ∨ b = bw ∨ b = g) w (((w7.setCell ⟨w.heap.size + 1, 0, none⟩ (.int .i64 0)).setCell ⟨w.heap.size + 1, 1, none⟩ (.int .u64 0)).setCell ⟨w.heap.size + 1, 2, none⟩ (.slice none 0 0))) := Lib.hid
    ⟨(((HA7.out.put 0 _).put 1 _).put 2 _), (((HG7.out.other (a := ⟨w.heap.size + 1, 0, none⟩) n1 _).other (a := ⟨w.heap.size + 1, 1, none⟩) n1 _).other (a := ⟨w.heap.size + 1, 2, none⟩) n1 _), (((HM7.out.setNew _ _ (by omega) (by omega)).setNew _ _ (by omega) (by omega)).setNew _ _ (by omega) (by omega)), (((HB7.out.setCell (x := ⟨w.heap.size + 1, 0, none⟩) (.inr (by show w.heap.size ≤ w.heap.size + 1; omega)) _).setCell (x := ⟨w.heap.size + 1, 1, none⟩) (.inr (by show w.heap.size ≤ w.heap.size + 1; omega)) _).setCell (x := ⟨w.heap.size + 1, 2, none⟩) (.inr (by show w.heap.size ≤ w.heap.size + 1; omega)) _)⟩
  go_wp2_with fail
  generalize (((w7.setCell ⟨w.heap.size + 1, 0, none⟩ (.int .i64 0)).setCell ⟨w.heap.size + 1, 1, none⟩ (.int .u64 0)).setCell ⟨w.heap.size + 1, 2, none⟩ (.slice none 0 0)) = W5 at HX ⊢
  have q0 := HX.out.1.cell (i := 0) rfl
  have q1 := HX.out.1.cell (i := 1) rfl
  have q2 := HX.out.1.cell (i := 2) rfl
  exact bodyPost_ret (v := .tuple #[.agg #[.int .i64 0, .int .u64 0, .slice none 0 0], .bool false]) (by simp [results, Try.results75, go_sem, q0, q1, q2]) rfl ⟨rfl, HX.out.2.2.1, HX.out.2.2.2, HX.out.2.1⟩
set_option maxRecDepth 100000 in
set_option maxHeartbeats 4000000 in
theorem ad_s1d (n bo g bm bw th num k r : Nat) (ao : Option Addr) (ln cp : Nat) (l : List Nat) (c : Cn) (t : Nat) (w : World) (hM : MemIs 108 w bm bw l c) (hg : RowBlk 163 w g (AdVs n bo th num k false (.slice ao ln cp))) (hn : 1 ≤ n ∧ n ≤ 16) (hth : th < n) (hnum : num < 4294967296) (hlen : l.length = 2 * n) (hl : l.length ≤ 65536) (hln : ln < n) (hk : 1 ≤ k ∧ k ≤ n) (hc : c.r < 9223372036854775807) (hr : l.getD (k - 1) 0 = r) (hr0 : r ≠ 0) (hr1 : r ≠ num) : Calls Try.prog 75 #[.pointer (some ⟨g, 0, none⟩), turnAgg bm (t : Int)] w (AdMore n bo g bm bw th num (k + 1) true (.slice ao ln cp) ((Acc.rd (k - 1)).run l c).2.1 ((Acc.rd (k - 1)).run l c).2.2 w) := by
  unfold AdVs at hg
  have hgm : g ≠ bm := by intro e; have h1 := hg; have h2 := hM.1; unfold RowBlk at h1; rw [e, h2] at h1; simp at h1
  have hgw : g ≠ bw := by intro e; have h1 := hg; have h2 := hM.2.1; unfold RowBlk at h1; rw [e, h2] at h1; simp at h1
  have hwk : IntKind.i64.wrap ((k : Int) + 1) = (k : Int) + 1 := by unfold IntKind.wrap; simp [IntKind.bits, IntKind.signed]; omega
  have hw1 : IntKind.i64.wrap ((n : Int) + 1) = (n : Int) + 1 := by unfold IntKind.wrap; simp [IntKind.bits, IntKind.signed]; omega
  have hk0 : ¬ (k : Int) = 0 := by omega
  have hk0b : ((k : Int) == 0) = false := by rw [beq_eq_false_iff_ne]; exact hk0
  have hk0c : decide ((k : Int) = 0) = false := decide_eq_false hk0
  obtain ⟨j, hj⟩ : ∃ j, k - 1 = j := ⟨_, rfl⟩
  rw [hj] at hr ⊢
  have hjn : j < n := by omega
  have hwj0 : IntKind.i64.wrap (k : Int) = (k : Int) := by unfold IntKind.wrap; simp [IntKind.bits, IntKind.signed]; omega
  have hwj : IntKind.i64.wrap ((k : Int) - 1) = (j : Int) := by unfold IntKind.wrap; simp [IntKind.bits, IntKind.signed]; omega
  have hk1 : (k : Int) < (n : Int) + 1 := by omega
  have hlnn : (ln : Int) < (n : Int) := by omega
  obtain ⟨L2, hL2⟩ : ∃ L2, ((Acc.rd j).run l c).2.1 = L2 := ⟨_, rfl⟩
  obtain ⟨C2, hC2⟩ : ∃ C2, ((Acc.rd j).run l c).2.2 = C2 := ⟨_, rfl⟩
  have HSW : Hid (∀ W : World, MemIs 108 W bm bw l c → Calls Try.prog 86 #[.pointer (some ⟨bm, 0, none⟩), .int .i64 (j : Int)] W fun e w' => e = .returned (.int .u64 (r : Int)) ∧ MemIs 108 w' bm bw L2 C2 ∧ But bm bw W w') := Lib.hid (fun W hW => by
    have h := rd_acc (i := j) hW (by omega) hl hc
    unfold AccPost at h
    rw [hL2, hC2, hr] at h
    exact h)
  rw [hL2, hC2]
  have hr2 : ¬ (r : Int) = 0 := by omega
  have hr3 : ((r : Int) == 0) = false := by rw [beq_eq_false_iff_ne]; exact hr2
  have hr4 : ((r : Int) != 0) = true := by rw [bne_iff_ne]; exact hr2
  have hr5 : ¬ (r : Int) = (num : Int) := by omega
  have hr6 : ((r : Int) == (num : Int)) = false := by rw [beq_eq_false_iff_ne]; exact hr5
  have hr7 : ((r : Int) != (num : Int)) = true := by rw [bne_iff_ne]; exact hr5
  clear hj hr hr0 hr1
  have HM := Lib.hid hM
  have HG : Hid (RowBlk 163 w g [.int .i64 (n : Int), .int .i64 0, .int .i64 (n : Int), .slice (some ⟨bo, 0, none⟩) n n, .int .i64 (th : Int), .int .u64 (num : Int), .int .i64 ((k : Int)), .bool false, .slice ao ln cp]) := Lib.hid hg
  have hmm := m_Read ⟨bm, 0, none⟩
  have hbm := hM.lt1
  have hbw := hM.lt2
  have hgl := hg.lt
  unfold turnAgg
  clear hM hg
  go_enter Try.func75, Try.ntmps75
  go_upto_region 1 with fail
  have HMa : Hid (MemIs 108 ((w.alloc (.cells #[.iface 71 (.pointer (some ⟨bm, 0, none⟩)), .int .i64 (t : Int)] 87)).alloc (.cells #[.int .i64 0, .int .u64 0, .slice none 0 0] 39)) bm bw l c) := Lib.hid ((HM.out.alloc _).alloc _)
  have HTa : Hid (RowBlk 87 ((w.alloc (.cells #[.iface 71 (.pointer (some ⟨bm, 0, none⟩)), .int .i64 (t : Int)] 87)).alloc (.cells #[.int .i64 0, .int .u64 0, .slice none 0 0] 39)) w.heap.size [.iface 71 (.pointer (some ⟨bm, 0, none⟩)), .int .i64 (t : Int)]) := Lib.hid ((RowBlk.new w [.iface 71 (.pointer (some ⟨bm, 0, none⟩)), .int .i64 (t : Int)] 87).alloc _)
  have HAa : Hid (RowBlk 39 ((w.alloc (.cells #[.iface 71 (.pointer (some ⟨bm, 0, none⟩)), .int .i64 (t : Int)] 87)).alloc (.cells #[.int .i64 0, .int .u64 0, .slice none 0 0] 39)) (w.heap.size + 1) [.int .i64 0, .int .u64 0, .slice none 0 0]) := Lib.hid (by
    have h := RowBlk.new (w.alloc (.cells #[.iface 71 (.pointer (some ⟨bm, 0, none⟩)), .int .i64 (t : Int)] 87)) [.int .i64 0, .int .u64 0, .slice none 0 0] 39
    have e : (w.alloc (.cells #[.iface 71 (.pointer (some ⟨bm, 0, none⟩)), .int .i64 (t : Int)] 87)).heap.size = w.heap.size + 1 := by simp
    rw [e] at h; exact h)
  have HBa : Hid (ButS (fun b => b = bm ∨ b = bw ∨ b = g) w ((w.alloc (.cells #[.iface 71 (.pointer (some ⟨bm, 0, none⟩)), .int .i64 (t : Int)] 87)).alloc (.cells #[.int .i64 0, .int .u64 0, .slice none 0 0] 39))) := Lib.hid (((ButS.refl _ _).alloc _).alloc _)
  have HZa : Hid (((w.alloc (.cells #[.iface 71 (.pointer (some ⟨bm, 0, none⟩)), .int .i64 (t : Int)] 87)).alloc (.cells #[.int .i64 0, .int .u64 0, .slice none 0 0] 39)).heap.size = w.heap.size + 2) := Lib.hid (by simp)
  have HGa : Hid (RowBlk 163 ((w.alloc (.cells #[.iface 71 (.pointer (some ⟨bm, 0, none⟩)), .int .i64 (t : Int)] 87)).alloc (.cells #[.int .i64 0, .int .u64 0, .slice none 0 0] 39)) g [.int .i64 (n : Int), .int .i64 0, .int .i64 (n : Int), .slice (some ⟨bo, 0, none⟩) n n, .int .i64 (th : Int), .int .u64 (num : Int), .int .i64 ((k : Int)), .bool false, .slice ao ln cp]) := Lib.hid ((HG.out.alloc _).alloc _)
  generalize ((w.alloc (.cells #[.iface 71 (.pointer (some ⟨bm, 0, none⟩)), .int .i64 (t : Int)] 87)).alloc (.cells #[.int .i64 0, .int .u64 0, .slice none 0 0] 39)) = wa at HMa HTa HAa HBa HZa HGa ⊢
  have t0 : wa.cell? ⟨w.heap.size, 0, none⟩ = some (.iface 71 (.pointer (some ⟨bm, 0, none⟩))) := HTa.out.cell rfl
  have g0 : wa.cell? ⟨g, 0, none⟩ = some (.int .i64 (n : Int)) := HGa.out.cell rfl
  have g1 : wa.cell? ⟨g, 1, none⟩ = some (.int .i64 0) := HGa.out.cell rfl
  have g2 : wa.cell? ⟨g, 2, none⟩ = some (.int .i64 (n : Int)) := HGa.out.cell rfl
  have g4 : wa.cell? ⟨g, 4, none⟩ = some (.int .i64 (th : Int)) := HGa.out.cell rfl
  have g5 : wa.cell? ⟨g, 5, none⟩ = some (.int .u64 (num : Int)) := HGa.out.cell rfl
  have g6 : wa.cell? ⟨g, 6, none⟩ = some (.int .i64 ((k : Int))) := HGa.out.cell rfl
  have g7 : wa.cell? ⟨g, 7, none⟩ = some (.bool false) := HGa.out.cell rfl
  have g8 : wa.cell? ⟨g, 8, none⟩ = some (.slice ao ln cp) := HGa.out.cell rfl
  go_quiet (fail)
  have HMb := Lib.hid (HMa.out.drewN nq)
  have HTb := Lib.hid (HTa.out.drewN nq)
  have HAb := Lib.hid (HAa.out.drewN nq)
  have HGb := Lib.hid (HGa.out.drewN nq)
  have HBb := Lib.hid (HBa.out.drewN nq)
  have HZb : Hid ((wa.drewN nq).heap.size = w.heap.size + 2) := Lib.hid HZa.out
  generalize wa.drewN nq = wb at HMb HTb HAb HGb HBb HZb ⊢
  clear t0 g0 g1 g2 g4 g5 g6 g7 g8
  have t0 : wb.cell? ⟨w.heap.size, 0, none⟩ = some (.iface 71 (.pointer (some ⟨bm, 0, none⟩))) := HTb.out.cell rfl
  have g0 : wb.cell? ⟨g, 0, none⟩ = some (.int .i64 (n : Int)) := HGb.out.cell rfl
  have g1 : wb.cell? ⟨g, 1, none⟩ = some (.int .i64 0) := HGb.out.cell rfl
  have g2 : wb.cell? ⟨g, 2, none⟩ = some (.int .i64 (n : Int)) := HGb.out.cell rfl
  have g4 : wb.cell? ⟨g, 4, none⟩ = some (.int .i64 (th : Int)) := HGb.out.cell rfl
  have g5 : wb.cell? ⟨g, 5, none⟩ = some (.int .u64 (num : Int)) := HGb.out.cell rfl
  have g6 : wb.cell? ⟨g, 6, none⟩ = some (.int .i64 ((k : Int))) := HGb.out.cell rfl
  have g7 : wb.cell? ⟨g, 7, none⟩ = some (.bool false) := HGb.out.cell rfl
  have g8 : wb.cell? ⟨g, 8, none⟩ = some (.slice ao ln cp) := HGb.out.cell rfl
  have fzb : ∀ j, wb.frozen? ⟨g, j, none⟩ = false := fun j => HGb.out.free
  have HMc : Hid (MemIs 108 (wb.setCell ⟨g, 6, none⟩ (.int .i64 ((k : Int) + 1))) bm bw l c) := Lib.hid (HMb.out.setNew _ _ hgm hgw)
  have HTc : Hid (RowBlk 87 (wb.setCell ⟨g, 6, none⟩ (.int .i64 ((k : Int) + 1))) w.heap.size [.iface 71 (.pointer (some ⟨bm, 0, none⟩)), .int .i64 (t : Int)]) := Lib.hid (HTb.out.other (a := ⟨g, 6, none⟩) (show w.heap.size ≠ g by omega) _)
  have HAc : Hid (RowBlk 39 (wb.setCell ⟨g, 6, none⟩ (.int .i64 ((k : Int) + 1))) (w.heap.size + 1) [.int .i64 0, .int .u64 0, .slice none 0 0]) := Lib.hid (HAb.out.other (a := ⟨g, 6, none⟩) (show w.heap.size + 1 ≠ g by omega) _)
  have HGc : Hid (RowBlk 163 (wb.setCell ⟨g, 6, none⟩ (.int .i64 ((k : Int) + 1))) g [.int .i64 (n : Int), .int .i64 0, .int .i64 (n : Int), .slice (some ⟨bo, 0, none⟩) n n, .int .i64 (th : Int), .int .u64 (num : Int), .int .i64 ((k : Int) + 1), .bool false, .slice ao ln cp]) := Lib.hid (HGb.out.put 6 _)
  have HBc : Hid (ButS (fun b => b = bm ∨ b = bw ∨ b = g) w (wb.setCell ⟨g, 6, none⟩ (.int .i64 ((k : Int) + 1)))) := Lib.hid (HBb.out.setCell (x := ⟨g, 6, none⟩) (.inl (.inr (.inr rfl))) _)
  have HZc : Hid ((wb.setCell ⟨g, 6, none⟩ (.int .i64 ((k : Int) + 1))).heap.size = w.heap.size + 2) := Lib.hid (by have := HZb.out; simpa [World.setCell] using this)
  go_upto_region 4 with fail
  generalize wb.setCell ⟨g, 6, none⟩ (.int .i64 ((k : Int) + 1)) = wc at HMc HTc HAc HGc HBc HZc ⊢
  clear t0 g0 g1 g2 g4 g5 g6 g7 g8 fzb
  have t0 : wc.cell? ⟨w.heap.size, 0, none⟩ = some (.iface 71 (.pointer (some ⟨bm, 0, none⟩))) := HTc.out.cell rfl
  have g0 : wc.cell? ⟨g, 0, none⟩ = some (.int .i64 (n : Int)) := HGc.out.cell rfl
  have g1 : wc.cell? ⟨g, 1, none⟩ = some (.int .i64 0) := HGc.out.cell rfl
  have g2 : wc.cell? ⟨g, 2, none⟩ = some (.int .i64 (n : Int)) := HGc.out.cell rfl
  have g4 : wc.cell? ⟨g, 4, none⟩ = some (.int .i64 (th : Int)) := HGc.out.cell rfl
  have g5 : wc.cell? ⟨g, 5, none⟩ = some (.int .u64 (num : Int)) := HGc.out.cell rfl
  have g6 : wc.cell? ⟨g, 6, none⟩ = some (.int .i64 ((k : Int) + 1)) := HGc.out.cell rfl
  have g7 : wc.cell? ⟨g, 7, none⟩ = some (.bool false) := HGc.out.cell rfl
  have g8 : wc.cell? ⟨g, 8, none⟩ = some (.slice ao ln cp) := HGc.out.cell rfl
  clear hwk
  go_wp2_with fail
  refine (HSW.out _ HMc.out).mono ?_
  rintro e w4 ⟨rfl, hM4, hB4⟩
  have HG4 := Lib.hid (HGc.out.same (hB4.block g HGc.out.lt hgm hgw))
  have HA4 := Lib.hid (HAc.out.same (hB4.block (w.heap.size + 1) HAc.out.lt (by omega) (by omega)))
  have HM4 := Lib.hid hM4
  have HB4 : Hid (ButS (fun b => b = bm ∨ b = bw ∨ b = g) w w4) := Lib.hid (HBc.out.trans (ButS.of_but hB4 (.inl rfl) (.inr (.inl rfl))))
  clear hM4 hB4 t0 g0 g1 g2 g4 g5 g6 g7 g8
  have g0 : w4.cell? ⟨g, 0, none⟩ = some (.int .i64 (n : Int)) := HG4.out.cell rfl
  have g5 : w4.cell? ⟨g, 5, none⟩ = some (.int .u64 (num : Int)) := HG4.out.cell rfl
  have g7 : w4.cell? ⟨g, 7, none⟩ = some (.bool false) := HG4.out.cell rfl
  have g8 : w4.cell? ⟨g, 8, none⟩ = some (.slice ao ln cp) := HG4.out.cell rfl
  have fz4 : ∀ j, w4.frozen? ⟨g, j, none⟩ = false := fun j => HG4.out.free
  have n1 : g ≠ w.heap.size + 1 := by omega
  have n2 : w.heap.size + 1 ≠ g := by omega
  have HM6 : Hid (MemIs 108 (w4.setCell ⟨g, 7, none⟩ (.bool true)) bm bw L2 C2) := Lib.hid (HM4.out.setNew _ _ hgm hgw)
  have HA6 : Hid (RowBlk 39 (w4.setCell ⟨g, 7, none⟩ (.bool true)) (w.heap.size + 1) [.int .i64 0, .int .u64 0, .slice none 0 0]) := Lib.hid (HA4.out.other (a := ⟨g, 7, none⟩) n2 _)
  have HG6 : Hid (RowBlk 163 (w4.setCell ⟨g, 7, none⟩ (.bool true)) g [.int .i64 (n : Int), .int .i64 0, .int .i64 (n : Int), .slice (some ⟨bo, 0, none⟩) n n, .int .i64 (th : Int), .int .u64 (num : Int), .int .i64 ((k : Int) + 1), .bool true, .slice ao ln cp]) := Lib.hid (HG4.out.put 7 _)
  have HB6 : Hid (ButS (fun b => b = bm ∨ b = bw ∨ b = g) w (w4.setCell ⟨g, 7, none⟩ (.bool true))) := Lib.hid (HB4.out.setCell (x := ⟨g, 7, none⟩) (.inl (.inr (.inr rfl))) _)
  go_upto_region 13 with fail
  generalize (w4.setCell ⟨g, 7, none⟩ (.bool true)) = w6 at HM6 HA6 HG6 HB6 ⊢
  clear g0 g5 g7 g8 fz4
  have g0 : w6.cell? ⟨g, 0, none⟩ = some (.int .i64 (n : Int)) := HG6.out.cell rfl
  have g8 : w6.cell? ⟨g, 8, none⟩ = some (.slice ao ln cp) := HG6.out.cell rfl
  go_quiet (fail)
  have HM7 := Lib.hid (HM6.out.drewN nq)
  have HA7 := Lib.hid (HA6.out.drewN nq)
  have HG7 := Lib.hid (HG6.out.drewN nq)
  have HB7 := Lib.hid (HB6.out.drewN nq)
  generalize w6.drewN nq = w7 at HM7 HA7 HG7 HB7 ⊢
  clear g0 g8
  have a0 : w7.cell? ⟨w.heap.size + 1, 0, none⟩ = some (.int .i64 0) := HA7.out.cell rfl
  have a1 : w7.cell? ⟨w.heap.size + 1, 1, none⟩ = some (.int .u64 0) := HA7.out.cell rfl
  have a2 : w7.cell? ⟨w.heap.size + 1, 2, none⟩ = some (.slice none 0 0) := HA7.out.cell rfl
  have z0 : ∀ j, w7.frozen? ⟨w.heap.size + 1, j, none⟩ = false := fun j => HA7.out.free
  have HX : Hid (RowBlk 39 (((w7.setCell ⟨w.heap.size + 1, 0, none⟩ (.int .i64 0)).setCell ⟨w.heap.size + 1, 1, none⟩ (.int .u64 0)).setCell ⟨w.heap.size + 1, 2, none⟩ (.slice none 0 0)) (w.heap.size + 1) [.int .i64 0, .int .u64 0, .slice none 0 0] ∧ RowBlk 163 (((w7.setCell ⟨w.heap.size + 1, 0, none⟩ (.int .i64 0)).setCell ⟨w.heap.size + 1, 1, none⟩ (.int .u64 0)).setCell ⟨w.heap.size + 1, 2, none⟩ (.slice none 0 0)) g [.int .i64 (n : Int), .int .i64 0, .int .i64 (n : Int), .slice (some ⟨bo, 0, none⟩) n n, .int .i64 (th : Int), .int .u64 (num : Int), .int .i64 ((k : Int) + 1), .bool true, .slice ao ln cp] ∧ MemIs 108 (((w7.setCell ⟨w.heap.size + 1, 0, none⟩ (.int .i64 0)).setCell ⟨w.heap.size + 1, 1, none⟩ (.int .u64 0)).setCell ⟨w.heap.size + 1, 2, none⟩ (.slice none 0 0)) bm bw L2 C2 ∧ ButS (fun b => b = bm ∨ b = bw ∨ b = g) w (((w7.setCell ⟨w.heap.size + 1, 0, none⟩ (.int .i64 0)).setCell ⟨w.heap.size + 1, 1, none⟩ (.int .u64 0)).setCell ⟨w.heap.size + 1, 2, none⟩ (.slice none 0 0))) := Lib.hid
    ⟨(((HA7.out.put 0 _).put 1 _).put 2 _), (((HG7.out.other (a := ⟨w.heap.size + 1, 0, none⟩) n1 _).other (a := ⟨w.heap.size + 1, 1, none⟩) n1 _).other (a := ⟨w.heap.size + 1, 2, none⟩) n1 _), (((HM7.out.setNew _ _ (by omega) (by omega)).setNew _ _ (by omega) (by omega)).setNew _ _ (by omega) (by omega)), (((HB7.out.setCell (x := ⟨w.heap.size + 1, 0, none⟩) (.inr (by show w.heap.size ≤ w.heap.size + 1; omega)) _).setCell (x := ⟨w.heap.size + 1, 1, none⟩) (.inr (by show w.heap.size ≤ w.heap.size + 1; omega)) _).setCell (x := ⟨w.heap.size + 1, 2, none⟩) (.inr (by show w.heap.size ≤ w.heap.size + 1; omega)) _)⟩
  go_wp2_with fail
  generalize (((w7.setCell ⟨w.heap.size + 1, 0, none⟩ (.int .i64 0)).setCell ⟨w.heap.size + 1, 1, none⟩ (.int .u64 0)).setCell ⟨w.heap.size + 1, 2, none⟩ (.slice none 0 0)) = W5 at HX ⊢
  have q0 := HX.out.1.cell (i := 0) rfl
  have q1 := HX.out.1.cell (i := 1) rfl
  have q2 := HX.out.1.cell (i := 2) rfl
  exact bodyPost_ret (v := .tuple #[.agg #[.int .i64 0, .int .u64 0, .slice none 0 0], .bool false]) (by simp [results, Try.results75, go_sem, q0, q1, q2]) rfl ⟨rfl, HX.out.2.2.1, HX.out.2.2.2, HX.out.2.1⟩
set_option maxRecDepth 100000 in
set_option maxHeartbeats 4000000 in
theorem ad_s2 (n bo g bm bw th num k : Nat) (oth : Bool) (ao : Option Addr) (ln cp : Nat) (l : List Nat) (c : Cn) (t : Nat) (w : World) (hM : MemIs 108 w bm bw l c) (hg : RowBlk 163 w g (AdVs n bo th num k oth (.slice ao ln cp))) (hn : 1 ≤ n ∧ n ≤ 16) (hth : th < n) (hnum : num < 4294967296) (hlen : l.length = 2 * n) (hl : l.length ≤ 65536) (hln : ln < n) (hk : k = n + 1) (hc : c.w < 9223372036854775807) : Calls Try.prog 75 #[.pointer (some ⟨g, 0, none⟩), turnAgg bm (t : Int)] w (AdMore n bo g bm bw th num (k + 1) oth (.slice ao ln cp) ((Acc.wr (n + th) (adMark num oth)).run l c).2.1 ((Acc.wr (n + th) (adMark num oth)).run l c).2.2 w) := by
  unfold AdVs at hg
  have hgm : g ≠ bm := by intro e; have h1 := hg; have h2 := hM.1; unfold RowBlk at h1; rw [e, h2] at h1; simp at h1
  have hgw : g ≠ bw := by intro e; have h1 := hg; have h2 := hM.2.1; unfold RowBlk at h1; rw [e, h2] at h1; simp at h1
  have hwk : IntKind.i64.wrap ((k : Int) + 1) = (k : Int) + 1 := by unfold IntKind.wrap; simp [IntKind.bits, IntKind.signed]; omega
  have hw1 : IntKind.i64.wrap ((n : Int) + 1) = (n : Int) + 1 := by unfold IntKind.wrap; simp [IntKind.bits, IntKind.signed]; omega
  have hk0 : ¬ (k : Int) = 0 := by omega
  have hk0b : ((k : Int) == 0) = false := by rw [beq_eq_false_iff_ne]; exact hk0
  have hk0c : decide ((k : Int) = 0) = false := decide_eq_false hk0
  have hkn : (k : Int) = (n : Int) + 1 := by omega
  have hk1 : ¬ (k : Int) < (n : Int) + 1 := by omega
  have hk2 : ((k : Int) == (n : Int) + 1) = true := by rw [beq_iff_eq]; exact hkn
  have hk3 : decide ((k : Int) = (n : Int) + 1) = true := decide_eq_true hkn
  have hk4 : decide ((k : Int) < (n : Int) + 1) = false := decide_eq_false hk1
  have hwm : IntKind.i64.wrap ((n : Int) + (th : Int)) = ((n + th : Nat) : Int) := by unfold IntKind.wrap; simp [IntKind.bits, IntKind.signed]; omega
  obtain ⟨am, ham⟩ : ∃ am, n + th = am := ⟨_, rfl⟩
  obtain ⟨mk, hmk⟩ : ∃ mk, adMark num oth = mk := ⟨_, rfl⟩
  rw [ham] at hwm
  rw [ham, hmk]
  have HMK : Hid (∀ W : World, Calls Try.prog 77 #[.int .u64 (num : Int), .bool (!oth)] W fun e w' => e = .returned (.int .u64 (mk : Int)) ∧ W = w') := Lib.hid (fun W => by
    have h := ad_markOf num (!oth) hnum W
    have e : (2 * num + if (!oth) = true then 1 else 0) = mk := by rw [← hmk]; unfold adMark; cases oth <;> rfl
    rw [e] at h; exact h)
  have hlnn : (ln : Int) < (n : Int) := by omega
  have hamn : am < 2 * n := by omega
  obtain ⟨L2, hL2⟩ : ∃ L2, ((Acc.wr am mk).run l c).2.1 = L2 := ⟨_, rfl⟩
  obtain ⟨C2, hC2⟩ : ∃ C2, ((Acc.wr am mk).run l c).2.2 = C2 := ⟨_, rfl⟩
  have HSW : Hid (∀ W : World, MemIs 108 W bm bw l c → Calls Try.prog 88 #[.pointer (some ⟨bm, 0, none⟩), .int .i64 (am : Int), .int .u64 (mk : Int)] W fun e w' => e = .returned (.tuple #[]) ∧ MemIs 108 w' bm bw L2 C2 ∧ But bm bw W w') := Lib.hid (fun W hW => by
    have h := wr_acc (i := am) mk hW (by omega) hl hc
    unfold AccPost at h
    rw [hL2, hC2] at h
    exact h)
  rw [hL2, hC2]
  clear hkn ham hmk hk
  have HM := Lib.hid hM
  have HG : Hid (RowBlk 163 w g [.int .i64 (n : Int), .int .i64 0, .int .i64 (n : Int), .slice (some ⟨bo, 0, none⟩) n n, .int .i64 (th : Int), .int .u64 (num : Int), .int .i64 ((k : Int)), .bool oth, .slice ao ln cp]) := Lib.hid hg
  have hmm := m_Write ⟨bm, 0, none⟩
  have hbm := hM.lt1
  have hbw := hM.lt2
  have hgl := hg.lt
  unfold turnAgg
  clear hM hg
  go_enter Try.func75, Try.ntmps75
  go_upto_region 1 with fail
  have HMa : Hid (MemIs 108 ((w.alloc (.cells #[.iface 71 (.pointer (some ⟨bm, 0, none⟩)), .int .i64 (t : Int)] 87)).alloc (.cells #[.int .i64 0, .int .u64 0, .slice none 0 0] 39)) bm bw l c) := Lib.hid ((HM.out.alloc _).alloc _)
  have HTa : Hid (RowBlk 87 ((w.alloc (.cells #[.iface 71 (.pointer (some ⟨bm, 0, none⟩)), .int .i64 (t : Int)] 87)).alloc (.cells #[.int .i64 0, .int .u64 0, .slice none 0 0] 39)) w.heap.size [.iface 71 (.pointer (some ⟨bm, 0, none⟩)), .int .i64 (t : Int)]) := Lib.hid ((RowBlk.new w [.iface 71 (.pointer (some ⟨bm, 0, none⟩)), .int .i64 (t : Int)] 87).alloc _)
  have HAa : Hid (RowBlk 39 ((w.alloc (.cells #[.iface 71 (.pointer (some ⟨bm, 0, none⟩)), .int .i64 (t : Int)] 87)).alloc (.cells #[.int .i64 0, .int .u64 0, .slice none 0 0] 39)) (w.heap.size + 1) [.int .i64 0, .int .u64 0, .slice none 0 0]) := Lib.hid (by
    have h := RowBlk.new (w.alloc (.cells #[.iface 71 (.pointer (some ⟨bm, 0, none⟩)), .int .i64 (t : Int)] 87)) [.int .i64 0, .int .u64 0, .slice none 0 0] 39
    have e : (w.alloc (.cells #[.iface 71 (.pointer (some ⟨bm, 0, none⟩)), .int .i64 (t : Int)] 87)).heap.size = w.heap.size + 1 := by simp
    rw [e] at h; exact h)
  have HBa : Hid (ButS (fun b => b = bm ∨ b = bw ∨ b = g) w ((w.alloc (.cells #[.iface 71 (.pointer (some ⟨bm, 0, none⟩)), .int .i64 (t : Int)] 87)).alloc (.cells #[.int .i64 0, .int .u64 0, .slice none 0 0] 39))) := Lib.hid (((ButS.refl _ _).alloc _).alloc _)
  have HZa : Hid (((w.alloc (.cells #[.iface 71 (.pointer (some ⟨bm, 0, none⟩)), .int .i64 (t : Int)] 87)).alloc (.cells #[.int .i64 0, .int .u64 0, .slice none 0 0] 39)).heap.size = w.heap.size + 2) := Lib.hid (by simp)
  have HGa : Hid (RowBlk 163 ((w.alloc (.cells #[.iface 71 (.pointer (some ⟨bm, 0, none⟩)), .int .i64 (t : Int)] 87)).alloc (.cells #[.int .i64 0, .int .u64 0, .slice none 0 0] 39)) g [.int .i64 (n : Int), .int .i64 0, .int .i64 (n : Int), .slice (some ⟨bo, 0, none⟩) n n, .int .i64 (th : Int), .int .u64 (num : Int), .int .i64 ((k : Int)), .bool oth, .slice ao ln cp]) := Lib.hid ((HG.out.alloc _).alloc _)
  generalize ((w.alloc (.cells #[.iface 71 (.pointer (some ⟨bm, 0, none⟩)), .int .i64 (t : Int)] 87)).alloc (.cells #[.int .i64 0, .int .u64 0, .slice none 0 0] 39)) = wa at HMa HTa HAa HBa HZa HGa ⊢
  have t0 : wa.cell? ⟨w.heap.size, 0, none⟩ = some (.iface 71 (.pointer (some ⟨bm, 0, none⟩))) := HTa.out.cell rfl
  have g0 : wa.cell? ⟨g, 0, none⟩ = some (.int .i64 (n : Int)) := HGa.out.cell rfl
  have g1 : wa.cell? ⟨g, 1, none⟩ = some (.int .i64 0) := HGa.out.cell rfl
  have g2 : wa.cell? ⟨g, 2, none⟩ = some (.int .i64 (n : Int)) := HGa.out.cell rfl
  have g4 : wa.cell? ⟨g, 4, none⟩ = some (.int .i64 (th : Int)) := HGa.out.cell rfl
  have g5 : wa.cell? ⟨g, 5, none⟩ = some (.int .u64 (num : Int)) := HGa.out.cell rfl
  have g6 : wa.cell? ⟨g, 6, none⟩ = some (.int .i64 ((k : Int))) := HGa.out.cell rfl
  have g7 : wa.cell? ⟨g, 7, none⟩ = some (.bool oth) := HGa.out.cell rfl
  have g8 : wa.cell? ⟨g, 8, none⟩ = some (.slice ao ln cp) := HGa.out.cell rfl
  go_quiet (fail)
  have HMb := Lib.hid (HMa.out.drewN nq)
  have HTb := Lib.hid (HTa.out.drewN nq)
  have HAb := Lib.hid (HAa.out.drewN nq)
  have HGb := Lib.hid (HGa.out.drewN nq)
  have HBb := Lib.hid (HBa.out.drewN nq)
  have HZb : Hid ((wa.drewN nq).heap.size = w.heap.size + 2) := Lib.hid HZa.out
  generalize wa.drewN nq = wb at HMb HTb HAb HGb HBb HZb ⊢
  clear t0 g0 g1 g2 g4 g5 g6 g7 g8
  have t0 : wb.cell? ⟨w.heap.size, 0, none⟩ = some (.iface 71 (.pointer (some ⟨bm, 0, none⟩))) := HTb.out.cell rfl
  have g0 : wb.cell? ⟨g, 0, none⟩ = some (.int .i64 (n : Int)) := HGb.out.cell rfl
  have g1 : wb.cell? ⟨g, 1, none⟩ = some (.int .i64 0) := HGb.out.cell rfl
  have g2 : wb.cell? ⟨g, 2, none⟩ = some (.int .i64 (n : Int)) := HGb.out.cell rfl
  have g4 : wb.cell? ⟨g, 4, none⟩ = some (.int .i64 (th : Int)) := HGb.out.cell rfl
  have g5 : wb.cell? ⟨g, 5, none⟩ = some (.int .u64 (num : Int)) := HGb.out.cell rfl
  have g6 : wb.cell? ⟨g, 6, none⟩ = some (.int .i64 ((k : Int))) := HGb.out.cell rfl
  have g7 : wb.cell? ⟨g, 7, none⟩ = some (.bool oth) := HGb.out.cell rfl
  have g8 : wb.cell? ⟨g, 8, none⟩ = some (.slice ao ln cp) := HGb.out.cell rfl
  have fzb : ∀ j, wb.frozen? ⟨g, j, none⟩ = false := fun j => HGb.out.free
  have HMc : Hid (MemIs 108 (wb.setCell ⟨g, 6, none⟩ (.int .i64 ((k : Int) + 1))) bm bw l c) := Lib.hid (HMb.out.setNew _ _ hgm hgw)
  have HTc : Hid (RowBlk 87 (wb.setCell ⟨g, 6, none⟩ (.int .i64 ((k : Int) + 1))) w.heap.size [.iface 71 (.pointer (some ⟨bm, 0, none⟩)), .int .i64 (t : Int)]) := Lib.hid (HTb.out.other (a := ⟨g, 6, none⟩) (show w.heap.size ≠ g by omega) _)
  have HAc : Hid (RowBlk 39 (wb.setCell ⟨g, 6, none⟩ (.int .i64 ((k : Int) + 1))) (w.heap.size + 1) [.int .i64 0, .int .u64 0, .slice none 0 0]) := Lib.hid (HAb.out.other (a := ⟨g, 6, none⟩) (show w.heap.size + 1 ≠ g by omega) _)
  have HGc : Hid (RowBlk 163 (wb.setCell ⟨g, 6, none⟩ (.int .i64 ((k : Int) + 1))) g [.int .i64 (n : Int), .int .i64 0, .int .i64 (n : Int), .slice (some ⟨bo, 0, none⟩) n n, .int .i64 (th : Int), .int .u64 (num : Int), .int .i64 ((k : Int) + 1), .bool oth, .slice ao ln cp]) := Lib.hid (HGb.out.put 6 _)
  have HBc : Hid (ButS (fun b => b = bm ∨ b = bw ∨ b = g) w (wb.setCell ⟨g, 6, none⟩ (.int .i64 ((k : Int) + 1)))) := Lib.hid (HBb.out.setCell (x := ⟨g, 6, none⟩) (.inl (.inr (.inr rfl))) _)
  have HZc : Hid ((wb.setCell ⟨g, 6, none⟩ (.int .i64 ((k : Int) + 1))).heap.size = w.heap.size + 2) := Lib.hid (by have := HZb.out; simpa [World.setCell] using this)
  go_upto_region 4 with fail
  generalize wb.setCell ⟨g, 6, none⟩ (.int .i64 ((k : Int) + 1)) = wc at HMc HTc HAc HGc HBc HZc ⊢
  clear t0 g0 g1 g2 g4 g5 g6 g7 g8 fzb
  have t0 : wc.cell? ⟨w.heap.size, 0, none⟩ = some (.iface 71 (.pointer (some ⟨bm, 0, none⟩))) := HTc.out.cell rfl
  have g0 : wc.cell? ⟨g, 0, none⟩ = some (.int .i64 (n : Int)) := HGc.out.cell rfl
  have g1 : wc.cell? ⟨g, 1, none⟩ = some (.int .i64 0) := HGc.out.cell rfl
  have g2 : wc.cell? ⟨g, 2, none⟩ = some (.int .i64 (n : Int)) := HGc.out.cell rfl
  have g4 : wc.cell? ⟨g, 4, none⟩ = some (.int .i64 (th : Int)) := HGc.out.cell rfl
  have g5 : wc.cell? ⟨g, 5, none⟩ = some (.int .u64 (num : Int)) := HGc.out.cell rfl
  have g6 : wc.cell? ⟨g, 6, none⟩ = some (.int .i64 ((k : Int) + 1)) := HGc.out.cell rfl
  have g7 : wc.cell? ⟨g, 7, none⟩ = some (.bool oth) := HGc.out.cell rfl
  have g8 : wc.cell? ⟨g, 8, none⟩ = some (.slice ao ln cp) := HGc.out.cell rfl
  go_upto_region 12 with fail
  go_region_held3 (fun w' => w'.cell? ⟨w.heap.size, 0, none⟩ = some (.iface 71 (.pointer (some ⟨bm, 0, none⟩))) ∧ w'.cell? ⟨g, 4, none⟩ = some (.int .i64 (th : Int)) ∧ w'.cell? ⟨g, 5, none⟩ = some (.int .u64 (num : Int)) ∧ w'.cell? ⟨g, 7, none⟩ = some (.bool oth))
    (first | with_reducible exact ⟨t0, g4, g5, g7⟩ | go_keep)
    (first
      | (go_at_call 77
         refine (HMK.out _).mono ?_
         rintro e w4 ⟨rfl, rfl⟩)
      | (go_at_call 88
         refine (HSW.out _ HMc.out.drew).mono ?_
         rintro e w4 ⟨rfl, hM4, hB4⟩
         have HG4 := Lib.hid (HGc.out.drew.same (hB4.block (g) HGc.out.lt hgm hgw))
         have HT4 := Lib.hid (HTc.out.drew.same (hB4.block (w.heap.size) HTc.out.lt (by omega) (by omega)))
         have HA4 := Lib.hid (HAc.out.drew.same (hB4.block (w.heap.size + 1) HAc.out.lt (by omega) (by omega)))
         have HM4 := Lib.hid hM4
         have HB4 : Hid (ButS (fun b => b = bm ∨ b = bw ∨ b = g) w w4) := Lib.hid (HBc.out.drew.trans (ButS.of_but hB4 (.inl rfl) (.inr (.inl rfl))))
         have t0 : w4.cell? ⟨w.heap.size, 0, none⟩ = some (.iface 71 (.pointer (some ⟨bm, 0, none⟩))) := HT4.out.cell rfl
         have g4 : w4.cell? ⟨g, 4, none⟩ = some (.int .i64 (th : Int)) := HG4.out.cell rfl
         have g5 : w4.cell? ⟨g, 5, none⟩ = some (.int .u64 (num : Int)) := HG4.out.cell rfl
         have g7 : w4.cell? ⟨g, 7, none⟩ = some (.bool oth) := HG4.out.cell rfl
         clear hM4 hB4)
      | fail)
  have n1 : g ≠ w.heap.size + 1 := by omega
  have n2 : w.heap.size + 1 ≠ g := by omega
  clear g0 g1 g2 g6 g8
  have g0 : w4.cell? ⟨g, 0, none⟩ = some (.int .i64 (n : Int)) := HG4.out.cell rfl
  have g8 : w4.cell? ⟨g, 8, none⟩ = some (.slice ao ln cp) := HG4.out.cell rfl
  go_upto_region 13 with fail
  go_quiet (fail)
  have HM7 := Lib.hid (HM4.out.drewN nq)
  have HA7 := Lib.hid (HA4.out.drewN nq)
  have HG7 := Lib.hid (HG4.out.drewN nq)
  have HB7 := Lib.hid (HB4.out.drewN nq)
  generalize w4.drewN nq = w7 at HM7 HA7 HG7 HB7 ⊢
  clear t0 g0 g4 g5 g7 g8
  have a0 : w7.cell? ⟨w.heap.size + 1, 0, none⟩ = some (.int .i64 0) := HA7.out.cell rfl
  have a1 : w7.cell? ⟨w.heap.size + 1, 1, none⟩ = some (.int .u64 0) := HA7.out.cell rfl
  have a2 : w7.cell? ⟨w.heap.size + 1, 2, none⟩ = some (.slice none 0 0) := HA7.out.cell rfl
  have z0 : ∀ j, w7.frozen? ⟨w.heap.size + 1, j, none⟩ = false := fun j => HA7.out.free
  have HX : Hid (RowBlk 39 (((w7.setCell ⟨w.heap.size + 1, 0, none⟩ (.int .i64 0)).setCell ⟨w.heap.size + 1, 1, none⟩ (.int .u64 0)).setCell ⟨w.heap.size + 1, 2, none⟩ (.slice none 0 0)) (w.heap.size + 1) [.int .i64 0, .int .u64 0, .slice none 0 0] ∧ RowBlk 163 (((w7.setCell ⟨w.heap.size + 1, 0, none⟩ (.int .i64 0)).setCell ⟨w.heap.size + 1, 1, none⟩ (.int .u64 0)).setCell ⟨w.heap.size + 1, 2, none⟩ (.slice none 0 0)) g [.int .i64 (n : Int), .int .i64 0, .int .i64 (n : Int), .slice (some ⟨bo, 0, none⟩) n n, .int .i64 (th : Int), .int .u64 (num : Int), .int .i64 ((k : Int) + 1), .bool oth, .slice ao ln cp] ∧ MemIs 108 (((w7.setCell ⟨w.heap.size + 1, 0, none⟩ (.int .i64 0)).setCell ⟨w.heap.size + 1, 1, none⟩ (.int .u64 0)).setCell ⟨w.heap.size + 1, 2, none⟩ (.slice none 0 0)) bm bw L2 C2 ∧ ButS (fun b => b = bm ∨ b = bw ∨ b = g) w (((w7.setCell ⟨w.heap.size + 1, 0, none⟩ (.int .i64 0)).setCell ⟨w.heap.size + 1, 1, none⟩ (.int .u64 0)).setCell ⟨w.heap.size + 1, 2, none⟩ (.slice none 0 0))) := Lib.hid
    ⟨(((HA7.out.put 0 _).put 1 _).put 2 _), (((HG7.out.other (a := ⟨w.heap.size + 1, 0, none⟩) n1 _).other (a := ⟨w.heap.size + 1, 1, none⟩) n1 _).other (a := ⟨w.heap.size + 1, 2, none⟩) n1 _), (((HM7.out.setNew _ _ (by omega) (by omega)).setNew _ _ (by omega) (by omega)).setNew _ _ (by omega) (by omega)), (((HB7.out.setCell (x := ⟨w.heap.size + 1, 0, none⟩) (.inr (by show w.heap.size ≤ w.heap.size + 1; omega)) _).setCell (x := ⟨w.heap.size + 1, 1, none⟩) (.inr (by show w.heap.size ≤ w.heap.size + 1; omega)) _).setCell (x := ⟨w.heap.size + 1, 2, none⟩) (.inr (by show w.heap.size ≤ w.heap.size + 1; omega)) _)⟩
  go_wp2_with fail
  generalize (((w7.setCell ⟨w.heap.size + 1, 0, none⟩ (.int .i64 0)).setCell ⟨w.heap.size + 1, 1, none⟩ (.int .u64 0)).setCell ⟨w.heap.size + 1, 2, none⟩ (.slice none 0 0)) = W5 at HX ⊢
  have q0 := HX.out.1.cell (i := 0) rfl
  have q1 := HX.out.1.cell (i := 1) rfl
  have q2 := HX.out.1.cell (i := 2) rfl
  exact bodyPost_ret (v := .tuple #[.agg #[.int .i64 0, .int .u64 0, .slice none 0 0], .bool false]) (by simp [results, Try.results75, go_sem, q0, q1, q2]) rfl ⟨rfl, HX.out.2.2.1, HX.out.2.2.2, HX.out.2.1⟩
end Go.Proofs.Ytglpalomhhhmhaa
