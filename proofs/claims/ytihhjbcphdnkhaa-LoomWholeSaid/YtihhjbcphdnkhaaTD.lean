/- Walks of the reference's Cell, on a fresh tape. -/
import Derived.Test.YtihhjbcphdnkhaaTF
import Derived.Test.YtihhjbcphdnkhaaTC
namespace Go.Proofs.Ytihhjbcphdnkhaa
open Go.ChangeShapes Go.WideShapes Go.ChangeAt Go.RowKit
set_option linter.unusedVariables false
set_option linter.unusedSimpArgs false
theorem TpW.keep {bW bw cap B n : Nat} {l : List Nat} {w w' : World} (h : TpW bW bw cap B n l w) (hb : Below w.heap.size w w') : TpW bW bw cap B n l w' := by
  obtain ⟨c, vM, vTr, vLog, nl, logs, h1, h2, h3, h4⟩ := h
  exact ⟨c, vM, vTr, vLog, nl, logs, h1.of_blocks (hb.block _ h1.lt1) (hb.block _ h1.lt2), owns_sameB h2 (fun b hb' => hb.block b (h2.lt b hb').2), h3, h4⟩
theorem TpW.lt {bW bw cap B n : Nat} {l : List Nat} {w : World} (h : TpW bW bw cap B n l w) : bW < w.heap.size ∧ bw < w.heap.size := by
  obtain ⟨c, vM, vTr, vLog, nl, logs, h1, _⟩ := h
  exact ⟨h1.lt1, h1.lt2⟩
theorem access0 (bt bW bw cap B n : Nat) (k : Int) (i x y : Nat) (l : List Nat) (w : World) (hT : TpT bt bW w) (hW : TpW bW bw cap B n l w) (hB : bw < B ∧ B ≤ w.heap.size) (hi : i < l.length) (hn : l.length ≤ 65536) (hn7 : n ≤ 70000) :
    Calls Try.prog 26 #[.pointer (some ⟨bt, 0, none⟩), .int .i64 k, .int .i64 i, .int .u64 x, .int .u64 y] w (Acc0 bt bW bw cap B n ((stepA k i x y l ⟨0, 0, 0, 0, 0⟩).1) ((stepA k i x y l ⟨0, 0, 0, 0, 0⟩).2.1) (.int .u64 ((stepA k i x y l ⟨0, 0, 0, 0, 0⟩).1 : Int)) w) := by
  obtain ⟨c, vM, vTr, vLog, nl, logs, h1, h2, h3, h4⟩ := hW
  have hI : (stepA k i x y l c).1 = (stepA k i x y l ⟨0, 0, 0, 0, 0⟩).1 ∧ (stepA k i x y l c).2.1 = (stepA k i x y l ⟨0, 0, 0, 0, 0⟩).2.1 := by
    unfold stepA
    repeat' split
    all_goals first | exact ⟨rfl, rfl⟩ | (exfalso; contradiction)
  refine (access0c bt bW bw cap B n nl k i x y l c vM vTr vLog logs w hT h1 h2 h3 h4 hB.1 hB.2 hi hn hn7).mono (fun e w' h => ?_)
  rw [hI.1, hI.2] at h
  exact h
set_option maxRecDepth 20000 in
theorem tp_read (bt bW bw cap B n : Nat) (i : Nat) (l : List Nat) (w : World) (hT : TpT bt bW w) (hW : TpW bW bw cap B n l w) (hB : bw < B ∧ B ≤ w.heap.size) (hi : i < l.length) (hn : l.length ≤ 65536) (hn7 : n ≤ 70000) :
    Calls Try.prog 17 #[.pointer (some ⟨bt, 0, none⟩), .int .i64 i] w (Acc0 bt bW bw cap B n ((stepA 0 i 0 0 l ⟨0, 0, 0, 0, 0⟩).1) ((stepA 0 i 0 0 l ⟨0, 0, 0, 0, 0⟩).2.1) (.int .u64 ((stepA 0 i 0 0 l ⟨0, 0, 0, 0, 0⟩).1 : Int)) w) := by
  have HA := Lib.hid (access0 bt bW bw cap B n 0 i 0 0 l w hT hW hB hi hn hn7)
  clear hT hW hB hi
  go_enter Try.func17, Try.ntmps17
  go_wp2_with fail
  refine HA.out.mono ?_
  rintro e w1 ⟨rfl, h1, h2, h3⟩
  have H := Lib.hid (And.intro h1 (And.intro h2 h3))
  clear h1 h2 h3
  go_wp2_with fail
  first | go_ret | go_end0
  exact ⟨rfl, H.out.1, H.out.2.1, H.out.2.2⟩
set_option maxRecDepth 20000 in
theorem tp_write (bt bW bw cap B n : Nat) (i x : Nat) (l : List Nat) (w : World) (hT : TpT bt bW w) (hW : TpW bW bw cap B n l w) (hB : bw < B ∧ B ≤ w.heap.size) (hi : i < l.length) (hn : l.length ≤ 65536) (hn7 : n ≤ 70000) :
    Calls Try.prog 18 #[.pointer (some ⟨bt, 0, none⟩), .int .i64 i, .int .u64 (x : Int)] w (Acc0 bt bW bw cap B n ((stepA 1 i x 0 l ⟨0, 0, 0, 0, 0⟩).1) ((stepA 1 i x 0 l ⟨0, 0, 0, 0, 0⟩).2.1) (.tuple #[]) w) := by
  have HA := Lib.hid (access0 bt bW bw cap B n 1 i x 0 l w hT hW hB hi hn hn7)
  clear hT hW hB hi
  go_enter Try.func18, Try.ntmps18
  go_wp2_with fail
  refine HA.out.mono ?_
  rintro e w1 ⟨rfl, h1, h2, h3⟩
  have H := Lib.hid (And.intro h1 (And.intro h2 h3))
  clear h1 h2 h3
  go_wp2_with fail
  first | go_ret | go_end0
  exact ⟨rfl, H.out.1, H.out.2.1, H.out.2.2⟩
set_option maxRecDepth 20000 in
theorem tp_swap (bt bW bw cap B n : Nat) (i x y : Nat) (l : List Nat) (w : World) (hT : TpT bt bW w) (hW : TpW bW bw cap B n l w) (hB : bw < B ∧ B ≤ w.heap.size) (hi : i < l.length) (hn : l.length ≤ 65536) (hn7 : n ≤ 70000) :
    Calls Try.prog 19 #[.pointer (some ⟨bt, 0, none⟩), .int .i64 i, .int .u64 (x : Int), .int .u64 (y : Int)] w (Acc0 bt bW bw cap B n ((stepA 2 i x y l ⟨0, 0, 0, 0, 0⟩).1) ((stepA 2 i x y l ⟨0, 0, 0, 0, 0⟩).2.1) (.bool (decide (((stepA 2 i x y l ⟨0, 0, 0, 0, 0⟩).1 : Int) = 1))) w) := by
  have HA := Lib.hid (access0 bt bW bw cap B n 2 i x y l w hT hW hB hi hn hn7)
  clear hT hW hB hi
  go_enter Try.func19, Try.ntmps19
  go_wp2_with fail
  refine HA.out.mono ?_
  rintro e w1 ⟨rfl, h1, h2, h3⟩
  have H := Lib.hid (And.intro h1 (And.intro h2 h3))
  clear h1 h2 h3
  go_wp2_with fail
  first | go_ret | go_end0
  exact ⟨rfl, H.out.1, H.out.2.1, H.out.2.2⟩
set_option maxRecDepth 20000 in
theorem tp_add (bt bW bw cap B n : Nat) (i x : Nat) (l : List Nat) (w : World) (hT : TpT bt bW w) (hW : TpW bW bw cap B n l w) (hB : bw < B ∧ B ≤ w.heap.size) (hi : i < l.length) (hn : l.length ≤ 65536) (hn7 : n ≤ 70000) :
    Calls Try.prog 20 #[.pointer (some ⟨bt, 0, none⟩), .int .i64 i, .int .u64 (x : Int)] w (Acc0 bt bW bw cap B n ((stepA 3 i x 0 l ⟨0, 0, 0, 0, 0⟩).1) ((stepA 3 i x 0 l ⟨0, 0, 0, 0, 0⟩).2.1) (.int .u64 ((stepA 3 i x 0 l ⟨0, 0, 0, 0, 0⟩).1 : Int)) w) := by
  have HA := Lib.hid (access0 bt bW bw cap B n 3 i x 0 l w hT hW hB hi hn hn7)
  clear hT hW hB hi
  go_enter Try.func20, Try.ntmps20
  go_wp2_with fail
  refine HA.out.mono ?_
  rintro e w1 ⟨rfl, h1, h2, h3⟩
  have H := Lib.hid (And.intro h1 (And.intro h2 h3))
  clear h1 h2 h3
  go_wp2_with fail
  first | go_ret | go_end0
  exact ⟨rfl, H.out.1, H.out.2.1, H.out.2.2⟩
/-- what Cell leaves -/
def CellOut (bt bW bw cap B n : Nat) (er vl : Nat) (l' : List Nat) (w : World) (e : Ending) (w' : World) : Prop := e = .returned (.tuple #[]) ∧ w'.cell? ⟨bt, 9, none⟩ = some (.int .i64 (er : Int)) ∧ w'.cell? ⟨bt, 10, none⟩ = some (.int .u64 (vl : Int)) ∧ TpW bW bw cap B (n + 1) l' w' ∧ ButS (SB bt bW bw B w) w w'
theorem Acc0.put {bt bW bw cap B n x : Nat} {l' : List Nat} {v : Value} {w : World} {e : Ending} {w' : World} (h : Acc0 bt bW bw cap B n x l' v w e w') (hB : bt ≠ bW ∧ bt ≠ bw) (vl : Nat) : (w'.setCell ⟨bt, 10, none⟩ (.int .u64 (vl : Int))).cell? ⟨bt, 9, none⟩ = some (.int .i64 0) ∧ (w'.setCell ⟨bt, 10, none⟩ (.int .u64 (vl : Int))).cell? ⟨bt, 10, none⟩ = some (.int .u64 (vl : Int)) ∧ TpW bW bw cap B (n + 1) l' (w'.setCell ⟨bt, 10, none⟩ (.int .u64 (vl : Int))) ∧ ButS (SB bt bW bw B w) w (w'.setCell ⟨bt, 10, none⟩ (.int .u64 (vl : Int))) := by
  obtain ⟨_, ⟨c, vM, vTr, vLog, nl, logs, h1, h2, h3, h4⟩, ⟨vG, vT, h5⟩, h6⟩ := h
  have h7 := h5.put 10 (.int .u64 (vl : Int))
  exact ⟨h7.cell (i := 9) rfl, h7.cell (i := 10) rfl, ⟨c, vM, vTr, vLog, nl, logs, h1.of_blocks (Below.heap_setCell _ _ _ _ (fun e => hB.1 e.symm)) (Below.heap_setCell _ _ _ _ (fun e => hB.2 e.symm)), owns_sameB h2 (fun b hb => Below.heap_setCell _ _ _ _ (fun e => row_owns_ne h5 h2 (by decide) ((show b = bt from e) ▸ hb))), h3, h4⟩, h6.setCell (.inl (.inl rfl)) _⟩
theorem Acc0.none {bt bW bw cap B n x : Nat} {l' : List Nat} {v : Value} {w : World} {e : Ending} {w' : World} (h : Acc0 bt bW bw cap B n x l' v w e w') : w'.cell? ⟨bt, 9, none⟩ = some (.int .i64 0) ∧ w'.cell? ⟨bt, 10, none⟩ = some (.int .u64 0) ∧ TpW bW bw cap B (n + 1) l' w' ∧ ButS (SB bt bW bw B w) w w' := by
  obtain ⟨_, h1, ⟨vG, vT, h5⟩, h6⟩ := h
  exact ⟨h5.cell (i := 9) rfl, h5.cell (i := 10) rfl, h1, h6⟩
set_option maxRecDepth 20000 in
set_option maxHeartbeats 2000000 in
theorem cell_9l (bt bW bw cap B n q : Nat) (x : CallV) (l : List Nat) (w : World) (hT : TpT bt bW w) (hW : TpW bW bw cap B n l w) (hB : bw < B ∧ B ≤ w.heap.size) (hbt : bt ≠ bW ∧ bt ≠ bw) (hq : l.length = q ∧ q ≤ 64) (hn7 : n ≤ 70000) (hxa : x.a < 18446744073709551616) (hk : x.k < 0) :
    Calls Try.prog 10 #[.pointer (some ⟨bt, 0, none⟩), .int .i64 0, .agg #[.int .i64 0, .int .i64 (q : Int), .int .i64 0], callAgg x] w (CellOut bt bW bw cap B n 9 0 l w) := by
  have hwq : IntKind.u64.wrap (q : Int) = (q : Int) := by unfold IntKind.wrap; simp [IntKind.bits, IntKind.signed]; omega
  have HT : Hid (TpT bt bW ((w.alloc (.cells #[.int .i64 0, .int .i64 (q : Int), .int .i64 0] 58)).alloc (.cells #[.int .i64 x.t, .int .i64 x.o, .int .i64 x.k, .int .u64 (x.a : Int), .int .u64 (x.b : Int), .int .u64 (x.c : Int)] 55))) := Lib.hid ((show RowBlk _ _ _ _ from hT).alloc _ |>.alloc _)
  have hb2 : Below w.heap.size w ((w.alloc (.cells #[.int .i64 0, .int .i64 (q : Int), .int .i64 0] 58)).alloc (.cells #[.int .i64 x.t, .int .i64 x.o, .int .i64 x.k, .int .u64 (x.a : Int), .int .u64 (x.b : Int), .int .u64 (x.c : Int)] 55)) := ((Below.refl _ _).alloc (Nat.le_refl _) _).alloc (by simp) _
  have HW : Hid (TpW bW bw cap B n l ((w.alloc (.cells #[.int .i64 0, .int .i64 (q : Int), .int .i64 0] 58)).alloc (.cells #[.int .i64 x.t, .int .i64 x.o, .int .i64 x.k, .int .u64 (x.a : Int), .int .u64 (x.b : Int), .int .u64 (x.c : Int)] 55))) := Lib.hid (hW.keep hb2)
  have HB0 : Hid (ButS (SB bt bW bw B w) w ((w.alloc (.cells #[.int .i64 0, .int .i64 (q : Int), .int .i64 0] 58)).alloc (.cells #[.int .i64 x.t, .int .i64 x.o, .int .i64 x.k, .int .u64 (x.a : Int), .int .u64 (x.b : Int), .int .u64 (x.c : Int)] 55))) := Lib.hid (((ButS.refl _ _).alloc _).alloc _)
  have HSS : Hid (∀ j, j < w.heap.size → SB bt bW bw B ((w.alloc (.cells #[.int .i64 0, .int .i64 (q : Int), .int .i64 0] 58)).alloc (.cells #[.int .i64 x.t, .int .i64 x.o, .int .i64 x.k, .int .u64 (x.a : Int), .int .u64 (x.b : Int), .int .u64 (x.c : Int)] 55)) j → SB bt bW bw B w j) := Lib.hid (fun j hj h => h.imp id (fun h => h.imp id (fun h => h.imp id (fun ⟨h1, cur, h2⟩ => ⟨h1, cur, (hb2.block j hj).symm.trans h2⟩))))
  have HQ := Lib.hid hq
  have HBB : Hid (bw < B ∧ B ≤ ((w.alloc (.cells #[.int .i64 0, .int .i64 (q : Int), .int .i64 0] 58)).alloc (.cells #[.int .i64 x.t, .int .i64 x.o, .int .i64 x.k, .int .u64 (x.a : Int), .int .u64 (x.b : Int), .int .u64 (x.c : Int)] 55)).heap.size) := Lib.hid ⟨hB.1, by simp; omega⟩
  have HBT : Hid (bt ≠ bW ∧ bt ≠ bw) := Lib.hid hbt
  have hbtl : bt < w.heap.size := (show RowBlk _ _ _ _ from hT).lt
  have ft9 : w.frozen? ⟨bt, 9, none⟩ = false := (show RowBlk _ _ _ _ from hT).free
  have fc9 : w.cell? ⟨bt, 9, none⟩ = some (.int .i64 0) := (show RowBlk _ _ _ _ from hT).cell (i := 9) rfl
  have H0 := Lib.hid hT
  have H00 := Lib.hid hW
  clear hT hW hb2 hB hbt hq
  unfold callAgg
  go_enter Try.func10, Try.ntmps10
  go_wp2_with fail
  first | go_end0 | (refine bodyPost_ret (results_none rfl _ _ _) rfl ?_)
  have h7 := (show RowBlk _ _ _ _ from H0.out).put 9 (.int .i64 9)
  obtain ⟨c, vM, vTr, vLog, nl, logs, h1, h2, h3, h4⟩ := H00.out
  have hb3 : Below w.heap.size (w.setCell ⟨bt, 9, none⟩ (.int .i64 9)) (((w.setCell ⟨bt, 9, none⟩ (.int .i64 9)).alloc (.cells #[.int .i64 0, .int .i64 (q : Int), .int .i64 0] 58)).alloc (.cells #[.int .i64 x.t, .int .i64 x.o, .int .i64 x.k, .int .u64 (x.a : Int), .int .u64 (x.b : Int), .int .u64 (x.c : Int)] 55)) := ((Below.refl _ _).alloc (by simp [World.setCell]) _).alloc (by simp [World.setCell]) _
  refine ⟨rfl, ((h7.alloc _).alloc _).cell (i := 9) rfl, ((h7.alloc _).alloc _).cell (i := 10) rfl, ?_, ?_⟩
  · have hx : TpW bW bw cap B n l (w.setCell ⟨bt, 9, none⟩ (.int .i64 9)) := ⟨c, vM, vTr, vLog, nl, logs, h1.of_blocks (Below.heap_setCell _ _ _ _ (fun e => HBT.out.1 e.symm)) (Below.heap_setCell _ _ _ _ (fun e => HBT.out.2 e.symm)), owns_sameB h2 (fun b hb => Below.heap_setCell _ _ _ _ (fun e => row_owns_ne (show RowBlk _ _ _ _ from H0.out) h2 (by decide) ((show b = bt from e) ▸ hb))), h3, h4⟩
    obtain ⟨c, vM, vTr, vLog, nl, logs, g1, g2, g3, g4⟩ := hx.keep (by simpa [World.setCell] using hb3)
    exact ⟨c, vM, vTr, vLog, nl, logs, g1, g2, by omega, ⟨Nat.le_succ_of_le g4.1, Nat.le_succ_of_le g4.2.1, Nat.le_succ_of_le g4.2.2.1, Nat.le_succ_of_le g4.2.2.2.1, Nat.le_succ_of_le g4.2.2.2.2⟩⟩
  · exact (((ButS.refl _ _).setCell (.inl (.inl rfl)) _).alloc _).alloc _
set_option maxRecDepth 20000 in
set_option maxHeartbeats 2000000 in
theorem cell_9h (bt bW bw cap B n q : Nat) (x : CallV) (l : List Nat) (w : World) (hT : TpT bt bW w) (hW : TpW bW bw cap B n l w) (hB : bw < B ∧ B ≤ w.heap.size) (hbt : bt ≠ bW ∧ bt ≠ bw) (hq : l.length = q ∧ q ≤ 64) (hn7 : n ≤ 70000) (hxa : x.a < 18446744073709551616) (hk : 3 < x.k) :
    Calls Try.prog 10 #[.pointer (some ⟨bt, 0, none⟩), .int .i64 0, .agg #[.int .i64 0, .int .i64 (q : Int), .int .i64 0], callAgg x] w (CellOut bt bW bw cap B n 9 0 l w) := by
  have hwq : IntKind.u64.wrap (q : Int) = (q : Int) := by unfold IntKind.wrap; simp [IntKind.bits, IntKind.signed]; omega
  have HT : Hid (TpT bt bW ((w.alloc (.cells #[.int .i64 0, .int .i64 (q : Int), .int .i64 0] 58)).alloc (.cells #[.int .i64 x.t, .int .i64 x.o, .int .i64 x.k, .int .u64 (x.a : Int), .int .u64 (x.b : Int), .int .u64 (x.c : Int)] 55))) := Lib.hid ((show RowBlk _ _ _ _ from hT).alloc _ |>.alloc _)
  have hb2 : Below w.heap.size w ((w.alloc (.cells #[.int .i64 0, .int .i64 (q : Int), .int .i64 0] 58)).alloc (.cells #[.int .i64 x.t, .int .i64 x.o, .int .i64 x.k, .int .u64 (x.a : Int), .int .u64 (x.b : Int), .int .u64 (x.c : Int)] 55)) := ((Below.refl _ _).alloc (Nat.le_refl _) _).alloc (by simp) _
  have HW : Hid (TpW bW bw cap B n l ((w.alloc (.cells #[.int .i64 0, .int .i64 (q : Int), .int .i64 0] 58)).alloc (.cells #[.int .i64 x.t, .int .i64 x.o, .int .i64 x.k, .int .u64 (x.a : Int), .int .u64 (x.b : Int), .int .u64 (x.c : Int)] 55))) := Lib.hid (hW.keep hb2)
  have HB0 : Hid (ButS (SB bt bW bw B w) w ((w.alloc (.cells #[.int .i64 0, .int .i64 (q : Int), .int .i64 0] 58)).alloc (.cells #[.int .i64 x.t, .int .i64 x.o, .int .i64 x.k, .int .u64 (x.a : Int), .int .u64 (x.b : Int), .int .u64 (x.c : Int)] 55))) := Lib.hid (((ButS.refl _ _).alloc _).alloc _)
  have HSS : Hid (∀ j, j < w.heap.size → SB bt bW bw B ((w.alloc (.cells #[.int .i64 0, .int .i64 (q : Int), .int .i64 0] 58)).alloc (.cells #[.int .i64 x.t, .int .i64 x.o, .int .i64 x.k, .int .u64 (x.a : Int), .int .u64 (x.b : Int), .int .u64 (x.c : Int)] 55)) j → SB bt bW bw B w j) := Lib.hid (fun j hj h => h.imp id (fun h => h.imp id (fun h => h.imp id (fun ⟨h1, cur, h2⟩ => ⟨h1, cur, (hb2.block j hj).symm.trans h2⟩))))
  have HQ := Lib.hid hq
  have HBB : Hid (bw < B ∧ B ≤ ((w.alloc (.cells #[.int .i64 0, .int .i64 (q : Int), .int .i64 0] 58)).alloc (.cells #[.int .i64 x.t, .int .i64 x.o, .int .i64 x.k, .int .u64 (x.a : Int), .int .u64 (x.b : Int), .int .u64 (x.c : Int)] 55)).heap.size) := Lib.hid ⟨hB.1, by simp; omega⟩
  have HBT : Hid (bt ≠ bW ∧ bt ≠ bw) := Lib.hid hbt
  have hbtl : bt < w.heap.size := (show RowBlk _ _ _ _ from hT).lt
  have ft9 : w.frozen? ⟨bt, 9, none⟩ = false := (show RowBlk _ _ _ _ from hT).free
  have fc9 : w.cell? ⟨bt, 9, none⟩ = some (.int .i64 0) := (show RowBlk _ _ _ _ from hT).cell (i := 9) rfl
  have H0 := Lib.hid hT
  have H00 := Lib.hid hW
  clear hT hW hb2 hB hbt hq
  have hk0 : ¬ x.k < 0 := by omega
  unfold callAgg
  go_enter Try.func10, Try.ntmps10
  go_wp2_with fail
  first | go_end0 | (refine bodyPost_ret (results_none rfl _ _ _) rfl ?_)
  have h7 := (show RowBlk _ _ _ _ from H0.out).put 9 (.int .i64 9)
  obtain ⟨c, vM, vTr, vLog, nl, logs, h1, h2, h3, h4⟩ := H00.out
  have hb3 : Below w.heap.size (w.setCell ⟨bt, 9, none⟩ (.int .i64 9)) (((w.setCell ⟨bt, 9, none⟩ (.int .i64 9)).alloc (.cells #[.int .i64 0, .int .i64 (q : Int), .int .i64 0] 58)).alloc (.cells #[.int .i64 x.t, .int .i64 x.o, .int .i64 x.k, .int .u64 (x.a : Int), .int .u64 (x.b : Int), .int .u64 (x.c : Int)] 55)) := ((Below.refl _ _).alloc (by simp [World.setCell]) _).alloc (by simp [World.setCell]) _
  refine ⟨rfl, ((h7.alloc _).alloc _).cell (i := 9) rfl, ((h7.alloc _).alloc _).cell (i := 10) rfl, ?_, ?_⟩
  · have hx : TpW bW bw cap B n l (w.setCell ⟨bt, 9, none⟩ (.int .i64 9)) := ⟨c, vM, vTr, vLog, nl, logs, h1.of_blocks (Below.heap_setCell _ _ _ _ (fun e => HBT.out.1 e.symm)) (Below.heap_setCell _ _ _ _ (fun e => HBT.out.2 e.symm)), owns_sameB h2 (fun b hb => Below.heap_setCell _ _ _ _ (fun e => row_owns_ne (show RowBlk _ _ _ _ from H0.out) h2 (by decide) ((show b = bt from e) ▸ hb))), h3, h4⟩
    obtain ⟨c, vM, vTr, vLog, nl, logs, g1, g2, g3, g4⟩ := hx.keep (by simpa [World.setCell] using hb3)
    exact ⟨c, vM, vTr, vLog, nl, logs, g1, g2, by omega, ⟨Nat.le_succ_of_le g4.1, Nat.le_succ_of_le g4.2.1, Nat.le_succ_of_le g4.2.2.1, Nat.le_succ_of_le g4.2.2.2.1, Nat.le_succ_of_le g4.2.2.2.2⟩⟩
  · exact (((ButS.refl _ _).setCell (.inl (.inl rfl)) _).alloc _).alloc _
set_option maxRecDepth 20000 in
set_option maxHeartbeats 2000000 in
theorem cell_10 (bt bW bw cap B n q : Nat) (x : CallV) (l : List Nat) (w : World) (hT : TpT bt bW w) (hW : TpW bW bw cap B n l w) (hB : bw < B ∧ B ≤ w.heap.size) (hbt : bt ≠ bW ∧ bt ≠ bw) (hq : l.length = q ∧ q ≤ 64) (hn7 : n ≤ 70000) (hxa : x.a < 18446744073709551616) (hk : ¬ (x.k < 0 ∨ 3 < x.k)) (ha : q ≤ x.a) :
    Calls Try.prog 10 #[.pointer (some ⟨bt, 0, none⟩), .int .i64 0, .agg #[.int .i64 0, .int .i64 (q : Int), .int .i64 0], callAgg x] w (CellOut bt bW bw cap B n 10 0 l w) := by
  have hwq : IntKind.u64.wrap (q : Int) = (q : Int) := by unfold IntKind.wrap; simp [IntKind.bits, IntKind.signed]; omega
  have HT : Hid (TpT bt bW ((w.alloc (.cells #[.int .i64 0, .int .i64 (q : Int), .int .i64 0] 58)).alloc (.cells #[.int .i64 x.t, .int .i64 x.o, .int .i64 x.k, .int .u64 (x.a : Int), .int .u64 (x.b : Int), .int .u64 (x.c : Int)] 55))) := Lib.hid ((show RowBlk _ _ _ _ from hT).alloc _ |>.alloc _)
  have hb2 : Below w.heap.size w ((w.alloc (.cells #[.int .i64 0, .int .i64 (q : Int), .int .i64 0] 58)).alloc (.cells #[.int .i64 x.t, .int .i64 x.o, .int .i64 x.k, .int .u64 (x.a : Int), .int .u64 (x.b : Int), .int .u64 (x.c : Int)] 55)) := ((Below.refl _ _).alloc (Nat.le_refl _) _).alloc (by simp) _
  have HW : Hid (TpW bW bw cap B n l ((w.alloc (.cells #[.int .i64 0, .int .i64 (q : Int), .int .i64 0] 58)).alloc (.cells #[.int .i64 x.t, .int .i64 x.o, .int .i64 x.k, .int .u64 (x.a : Int), .int .u64 (x.b : Int), .int .u64 (x.c : Int)] 55))) := Lib.hid (hW.keep hb2)
  have HB0 : Hid (ButS (SB bt bW bw B w) w ((w.alloc (.cells #[.int .i64 0, .int .i64 (q : Int), .int .i64 0] 58)).alloc (.cells #[.int .i64 x.t, .int .i64 x.o, .int .i64 x.k, .int .u64 (x.a : Int), .int .u64 (x.b : Int), .int .u64 (x.c : Int)] 55))) := Lib.hid (((ButS.refl _ _).alloc _).alloc _)
  have HSS : Hid (∀ j, j < w.heap.size → SB bt bW bw B ((w.alloc (.cells #[.int .i64 0, .int .i64 (q : Int), .int .i64 0] 58)).alloc (.cells #[.int .i64 x.t, .int .i64 x.o, .int .i64 x.k, .int .u64 (x.a : Int), .int .u64 (x.b : Int), .int .u64 (x.c : Int)] 55)) j → SB bt bW bw B w j) := Lib.hid (fun j hj h => h.imp id (fun h => h.imp id (fun h => h.imp id (fun ⟨h1, cur, h2⟩ => ⟨h1, cur, (hb2.block j hj).symm.trans h2⟩))))
  have HQ := Lib.hid hq
  have HBB : Hid (bw < B ∧ B ≤ ((w.alloc (.cells #[.int .i64 0, .int .i64 (q : Int), .int .i64 0] 58)).alloc (.cells #[.int .i64 x.t, .int .i64 x.o, .int .i64 x.k, .int .u64 (x.a : Int), .int .u64 (x.b : Int), .int .u64 (x.c : Int)] 55)).heap.size) := Lib.hid ⟨hB.1, by simp; omega⟩
  have HBT : Hid (bt ≠ bW ∧ bt ≠ bw) := Lib.hid hbt
  have hbtl : bt < w.heap.size := (show RowBlk _ _ _ _ from hT).lt
  have ft9 : w.frozen? ⟨bt, 9, none⟩ = false := (show RowBlk _ _ _ _ from hT).free
  have fc9 : w.cell? ⟨bt, 9, none⟩ = some (.int .i64 0) := (show RowBlk _ _ _ _ from hT).cell (i := 9) rfl
  have H0 := Lib.hid hT
  have H00 := Lib.hid hW
  clear hT hW hb2 hB hbt hq
  have hk0 : ¬ x.k < 0 := by omega
  have hk3 : ¬ 3 < x.k := by omega
  have ha2 : (q : Int) ≤ (x.a : Int) := by omega
  clear hk
  unfold callAgg
  go_enter Try.func10, Try.ntmps10
  go_wp2_with fail
  first | go_end0 | (refine bodyPost_ret (results_none rfl _ _ _) rfl ?_)
  have h7 := (show RowBlk _ _ _ _ from H0.out).put 9 (.int .i64 10)
  obtain ⟨c, vM, vTr, vLog, nl, logs, h1, h2, h3, h4⟩ := H00.out
  have hb3 : Below w.heap.size (w.setCell ⟨bt, 9, none⟩ (.int .i64 10)) (((w.setCell ⟨bt, 9, none⟩ (.int .i64 10)).alloc (.cells #[.int .i64 0, .int .i64 (q : Int), .int .i64 0] 58)).alloc (.cells #[.int .i64 x.t, .int .i64 x.o, .int .i64 x.k, .int .u64 (x.a : Int), .int .u64 (x.b : Int), .int .u64 (x.c : Int)] 55)) := ((Below.refl _ _).alloc (by simp [World.setCell]) _).alloc (by simp [World.setCell]) _
  refine ⟨rfl, ((h7.alloc _).alloc _).cell (i := 9) rfl, ((h7.alloc _).alloc _).cell (i := 10) rfl, ?_, ?_⟩
  · have hx : TpW bW bw cap B n l (w.setCell ⟨bt, 9, none⟩ (.int .i64 10)) := ⟨c, vM, vTr, vLog, nl, logs, h1.of_blocks (Below.heap_setCell _ _ _ _ (fun e => HBT.out.1 e.symm)) (Below.heap_setCell _ _ _ _ (fun e => HBT.out.2 e.symm)), owns_sameB h2 (fun b hb => Below.heap_setCell _ _ _ _ (fun e => row_owns_ne (show RowBlk _ _ _ _ from H0.out) h2 (by decide) ((show b = bt from e) ▸ hb))), h3, h4⟩
    obtain ⟨c, vM, vTr, vLog, nl, logs, g1, g2, g3, g4⟩ := hx.keep (by simpa [World.setCell] using hb3)
    exact ⟨c, vM, vTr, vLog, nl, logs, g1, g2, by omega, ⟨Nat.le_succ_of_le g4.1, Nat.le_succ_of_le g4.2.1, Nat.le_succ_of_le g4.2.2.1, Nat.le_succ_of_le g4.2.2.2.1, Nat.le_succ_of_le g4.2.2.2.2⟩⟩
  · exact (((ButS.refl _ _).setCell (.inl (.inl rfl)) _).alloc _).alloc _
set_option maxRecDepth 20000 in
set_option maxHeartbeats 2000000 in
theorem cell_0 (bt bW bw cap B n q : Nat) (x : CallV) (l : List Nat) (w : World) (hT : TpT bt bW w) (hW : TpW bW bw cap B n l w) (hB : bw < B ∧ B ≤ w.heap.size) (hbt : bt ≠ bW ∧ bt ≠ bw) (hq : l.length = q ∧ q ≤ 64) (hn7 : n ≤ 70000) (hxa : x.a < 18446744073709551616) (hk : x.k = 0) (ha : x.a < q) :
    Calls Try.prog 10 #[.pointer (some ⟨bt, 0, none⟩), .int .i64 0, .agg #[.int .i64 0, .int .i64 (q : Int), .int .i64 0], callAgg x] w (CellOut bt bW bw cap B n 0 (stepA 0 x.a 0 0 l ⟨0, 0, 0, 0, 0⟩).1 (stepA 0 x.a 0 0 l ⟨0, 0, 0, 0, 0⟩).2.1 w) := by
  have hwq : IntKind.u64.wrap (q : Int) = (q : Int) := by unfold IntKind.wrap; simp [IntKind.bits, IntKind.signed]; omega
  have HT : Hid (TpT bt bW ((w.alloc (.cells #[.int .i64 0, .int .i64 (q : Int), .int .i64 0] 58)).alloc (.cells #[.int .i64 x.t, .int .i64 x.o, .int .i64 x.k, .int .u64 (x.a : Int), .int .u64 (x.b : Int), .int .u64 (x.c : Int)] 55))) := Lib.hid ((show RowBlk _ _ _ _ from hT).alloc _ |>.alloc _)
  have hb2 : Below w.heap.size w ((w.alloc (.cells #[.int .i64 0, .int .i64 (q : Int), .int .i64 0] 58)).alloc (.cells #[.int .i64 x.t, .int .i64 x.o, .int .i64 x.k, .int .u64 (x.a : Int), .int .u64 (x.b : Int), .int .u64 (x.c : Int)] 55)) := ((Below.refl _ _).alloc (Nat.le_refl _) _).alloc (by simp) _
  have HW : Hid (TpW bW bw cap B n l ((w.alloc (.cells #[.int .i64 0, .int .i64 (q : Int), .int .i64 0] 58)).alloc (.cells #[.int .i64 x.t, .int .i64 x.o, .int .i64 x.k, .int .u64 (x.a : Int), .int .u64 (x.b : Int), .int .u64 (x.c : Int)] 55))) := Lib.hid (hW.keep hb2)
  have HB0 : Hid (ButS (SB bt bW bw B w) w ((w.alloc (.cells #[.int .i64 0, .int .i64 (q : Int), .int .i64 0] 58)).alloc (.cells #[.int .i64 x.t, .int .i64 x.o, .int .i64 x.k, .int .u64 (x.a : Int), .int .u64 (x.b : Int), .int .u64 (x.c : Int)] 55))) := Lib.hid (((ButS.refl _ _).alloc _).alloc _)
  have HSS : Hid (∀ j, j < w.heap.size → SB bt bW bw B ((w.alloc (.cells #[.int .i64 0, .int .i64 (q : Int), .int .i64 0] 58)).alloc (.cells #[.int .i64 x.t, .int .i64 x.o, .int .i64 x.k, .int .u64 (x.a : Int), .int .u64 (x.b : Int), .int .u64 (x.c : Int)] 55)) j → SB bt bW bw B w j) := Lib.hid (fun j hj h => h.imp id (fun h => h.imp id (fun h => h.imp id (fun ⟨h1, cur, h2⟩ => ⟨h1, cur, (hb2.block j hj).symm.trans h2⟩))))
  have HQ := Lib.hid hq
  have HBB : Hid (bw < B ∧ B ≤ ((w.alloc (.cells #[.int .i64 0, .int .i64 (q : Int), .int .i64 0] 58)).alloc (.cells #[.int .i64 x.t, .int .i64 x.o, .int .i64 x.k, .int .u64 (x.a : Int), .int .u64 (x.b : Int), .int .u64 (x.c : Int)] 55)).heap.size) := Lib.hid ⟨hB.1, by simp; omega⟩
  have HBT : Hid (bt ≠ bW ∧ bt ≠ bw) := Lib.hid hbt
  have hbtl : bt < w.heap.size := (show RowBlk _ _ _ _ from hT).lt
  have ft9 : w.frozen? ⟨bt, 9, none⟩ = false := (show RowBlk _ _ _ _ from hT).free
  have fc9 : w.cell? ⟨bt, 9, none⟩ = some (.int .i64 0) := (show RowBlk _ _ _ _ from hT).cell (i := 9) rfl
  have H0 := Lib.hid hT
  have H00 := Lib.hid hW
  clear hT hW hb2 hB hbt hq
  have hwa : IntKind.i64.wrap (x.a : Int) = (x.a : Int) := by unfold IntKind.wrap; have := HQ.out.2; simp [IntKind.bits, IntKind.signed]; omega
  have ha2 : ¬ (q : Int) ≤ (x.a : Int) := by omega
  have HA := Lib.hid (tp_read bt bW bw cap B n x.a l _ HT.out HW.out HBB.out (by have := HQ.out; omega) (by have := HQ.out; omega) hn7)
  unfold callAgg
  rw [hk] at *
  clear hk
  go_enter Try.func10, Try.ntmps10
  go_wp2_with fail
  refine HA.out.mono ?_
  intro e w1 hacc
  have he := hacc.1
  subst he
  have hp := hacc.put HBT.out (stepA 0 x.a 0 0 l ⟨0, 0, 0, 0, 0⟩).1
  obtain ⟨vG, vT, h5⟩ := hacc.2.2.1
  have f10 : w1.frozen? ⟨bt, 10, none⟩ = false := h5.free
  have c10 : w1.cell? ⟨bt, 10, none⟩ = some (.int .u64 0) := h5.cell (i := 10) rfl
  have HP := Lib.hid hp
  clear hp h5 hacc
  go_wp2_with fail
  first | go_end0 | (refine bodyPost_ret (results_none rfl _ _ _) rfl ?_)
  exact ⟨rfl, HP.out.1, HP.out.2.1, HP.out.2.2.1, HB0.out.trans2 HP.out.2.2.2 HSS.out⟩
set_option maxRecDepth 20000 in
set_option maxHeartbeats 2000000 in
theorem cell_1 (bt bW bw cap B n q : Nat) (x : CallV) (l : List Nat) (w : World) (hT : TpT bt bW w) (hW : TpW bW bw cap B n l w) (hB : bw < B ∧ B ≤ w.heap.size) (hbt : bt ≠ bW ∧ bt ≠ bw) (hq : l.length = q ∧ q ≤ 64) (hn7 : n ≤ 70000) (hxa : x.a < 18446744073709551616) (hk : x.k = 1) (ha : x.a < q) :
    Calls Try.prog 10 #[.pointer (some ⟨bt, 0, none⟩), .int .i64 0, .agg #[.int .i64 0, .int .i64 (q : Int), .int .i64 0], callAgg x] w (CellOut bt bW bw cap B n 0 0 (stepA 1 x.a x.b 0 l ⟨0, 0, 0, 0, 0⟩).2.1 w) := by
  have hwq : IntKind.u64.wrap (q : Int) = (q : Int) := by unfold IntKind.wrap; simp [IntKind.bits, IntKind.signed]; omega
  have HT : Hid (TpT bt bW ((w.alloc (.cells #[.int .i64 0, .int .i64 (q : Int), .int .i64 0] 58)).alloc (.cells #[.int .i64 x.t, .int .i64 x.o, .int .i64 x.k, .int .u64 (x.a : Int), .int .u64 (x.b : Int), .int .u64 (x.c : Int)] 55))) := Lib.hid ((show RowBlk _ _ _ _ from hT).alloc _ |>.alloc _)
  have hb2 : Below w.heap.size w ((w.alloc (.cells #[.int .i64 0, .int .i64 (q : Int), .int .i64 0] 58)).alloc (.cells #[.int .i64 x.t, .int .i64 x.o, .int .i64 x.k, .int .u64 (x.a : Int), .int .u64 (x.b : Int), .int .u64 (x.c : Int)] 55)) := ((Below.refl _ _).alloc (Nat.le_refl _) _).alloc (by simp) _
  have HW : Hid (TpW bW bw cap B n l ((w.alloc (.cells #[.int .i64 0, .int .i64 (q : Int), .int .i64 0] 58)).alloc (.cells #[.int .i64 x.t, .int .i64 x.o, .int .i64 x.k, .int .u64 (x.a : Int), .int .u64 (x.b : Int), .int .u64 (x.c : Int)] 55))) := Lib.hid (hW.keep hb2)
  have HB0 : Hid (ButS (SB bt bW bw B w) w ((w.alloc (.cells #[.int .i64 0, .int .i64 (q : Int), .int .i64 0] 58)).alloc (.cells #[.int .i64 x.t, .int .i64 x.o, .int .i64 x.k, .int .u64 (x.a : Int), .int .u64 (x.b : Int), .int .u64 (x.c : Int)] 55))) := Lib.hid (((ButS.refl _ _).alloc _).alloc _)
  have HSS : Hid (∀ j, j < w.heap.size → SB bt bW bw B ((w.alloc (.cells #[.int .i64 0, .int .i64 (q : Int), .int .i64 0] 58)).alloc (.cells #[.int .i64 x.t, .int .i64 x.o, .int .i64 x.k, .int .u64 (x.a : Int), .int .u64 (x.b : Int), .int .u64 (x.c : Int)] 55)) j → SB bt bW bw B w j) := Lib.hid (fun j hj h => h.imp id (fun h => h.imp id (fun h => h.imp id (fun ⟨h1, cur, h2⟩ => ⟨h1, cur, (hb2.block j hj).symm.trans h2⟩))))
  have HQ := Lib.hid hq
  have HBB : Hid (bw < B ∧ B ≤ ((w.alloc (.cells #[.int .i64 0, .int .i64 (q : Int), .int .i64 0] 58)).alloc (.cells #[.int .i64 x.t, .int .i64 x.o, .int .i64 x.k, .int .u64 (x.a : Int), .int .u64 (x.b : Int), .int .u64 (x.c : Int)] 55)).heap.size) := Lib.hid ⟨hB.1, by simp; omega⟩
  have HBT : Hid (bt ≠ bW ∧ bt ≠ bw) := Lib.hid hbt
  have hbtl : bt < w.heap.size := (show RowBlk _ _ _ _ from hT).lt
  have ft9 : w.frozen? ⟨bt, 9, none⟩ = false := (show RowBlk _ _ _ _ from hT).free
  have fc9 : w.cell? ⟨bt, 9, none⟩ = some (.int .i64 0) := (show RowBlk _ _ _ _ from hT).cell (i := 9) rfl
  have H0 := Lib.hid hT
  have H00 := Lib.hid hW
  clear hT hW hb2 hB hbt hq
  have hwa : IntKind.i64.wrap (x.a : Int) = (x.a : Int) := by unfold IntKind.wrap; have := HQ.out.2; simp [IntKind.bits, IntKind.signed]; omega
  have ha2 : ¬ (q : Int) ≤ (x.a : Int) := by omega
  have HA := Lib.hid (tp_write bt bW bw cap B n x.a x.b l _ HT.out HW.out HBB.out (by have := HQ.out; omega) (by have := HQ.out; omega) hn7)
  unfold callAgg
  rw [hk] at *
  clear hk
  go_enter Try.func10, Try.ntmps10
  go_wp2_with fail
  refine HA.out.mono ?_
  intro e w1 hacc
  have he := hacc.1
  subst he
  have HP := Lib.hid hacc.none
  clear hacc
  go_wp2_with fail
  first | go_end0 | (refine bodyPost_ret (results_none rfl _ _ _) rfl ?_)
  exact ⟨rfl, HP.out.1, HP.out.2.1, HP.out.2.2.1, HB0.out.trans2 HP.out.2.2.2 HSS.out⟩
set_option maxRecDepth 20000 in
set_option maxHeartbeats 2000000 in
theorem cell_2h (bt bW bw cap B n q : Nat) (x : CallV) (l : List Nat) (w : World) (hT : TpT bt bW w) (hW : TpW bW bw cap B n l w) (hB : bw < B ∧ B ≤ w.heap.size) (hbt : bt ≠ bW ∧ bt ≠ bw) (hq : l.length = q ∧ q ≤ 64) (hn7 : n ≤ 70000) (hxa : x.a < 18446744073709551616) (hk : x.k = 2) (ha : x.a < q) (hh : ((stepA 2 x.a x.b x.c l ⟨0, 0, 0, 0, 0⟩).1 : Int) = 1) :
    Calls Try.prog 10 #[.pointer (some ⟨bt, 0, none⟩), .int .i64 0, .agg #[.int .i64 0, .int .i64 (q : Int), .int .i64 0], callAgg x] w (CellOut bt bW bw cap B n 0 1 (stepA 2 x.a x.b x.c l ⟨0, 0, 0, 0, 0⟩).2.1 w) := by
  have hwq : IntKind.u64.wrap (q : Int) = (q : Int) := by unfold IntKind.wrap; simp [IntKind.bits, IntKind.signed]; omega
  have HT : Hid (TpT bt bW ((w.alloc (.cells #[.int .i64 0, .int .i64 (q : Int), .int .i64 0] 58)).alloc (.cells #[.int .i64 x.t, .int .i64 x.o, .int .i64 x.k, .int .u64 (x.a : Int), .int .u64 (x.b : Int), .int .u64 (x.c : Int)] 55))) := Lib.hid ((show RowBlk _ _ _ _ from hT).alloc _ |>.alloc _)
  have hb2 : Below w.heap.size w ((w.alloc (.cells #[.int .i64 0, .int .i64 (q : Int), .int .i64 0] 58)).alloc (.cells #[.int .i64 x.t, .int .i64 x.o, .int .i64 x.k, .int .u64 (x.a : Int), .int .u64 (x.b : Int), .int .u64 (x.c : Int)] 55)) := ((Below.refl _ _).alloc (Nat.le_refl _) _).alloc (by simp) _
  have HW : Hid (TpW bW bw cap B n l ((w.alloc (.cells #[.int .i64 0, .int .i64 (q : Int), .int .i64 0] 58)).alloc (.cells #[.int .i64 x.t, .int .i64 x.o, .int .i64 x.k, .int .u64 (x.a : Int), .int .u64 (x.b : Int), .int .u64 (x.c : Int)] 55))) := Lib.hid (hW.keep hb2)
  have HB0 : Hid (ButS (SB bt bW bw B w) w ((w.alloc (.cells #[.int .i64 0, .int .i64 (q : Int), .int .i64 0] 58)).alloc (.cells #[.int .i64 x.t, .int .i64 x.o, .int .i64 x.k, .int .u64 (x.a : Int), .int .u64 (x.b : Int), .int .u64 (x.c : Int)] 55))) := Lib.hid (((ButS.refl _ _).alloc _).alloc _)
  have HSS : Hid (∀ j, j < w.heap.size → SB bt bW bw B ((w.alloc (.cells #[.int .i64 0, .int .i64 (q : Int), .int .i64 0] 58)).alloc (.cells #[.int .i64 x.t, .int .i64 x.o, .int .i64 x.k, .int .u64 (x.a : Int), .int .u64 (x.b : Int), .int .u64 (x.c : Int)] 55)) j → SB bt bW bw B w j) := Lib.hid (fun j hj h => h.imp id (fun h => h.imp id (fun h => h.imp id (fun ⟨h1, cur, h2⟩ => ⟨h1, cur, (hb2.block j hj).symm.trans h2⟩))))
  have HQ := Lib.hid hq
  have HBB : Hid (bw < B ∧ B ≤ ((w.alloc (.cells #[.int .i64 0, .int .i64 (q : Int), .int .i64 0] 58)).alloc (.cells #[.int .i64 x.t, .int .i64 x.o, .int .i64 x.k, .int .u64 (x.a : Int), .int .u64 (x.b : Int), .int .u64 (x.c : Int)] 55)).heap.size) := Lib.hid ⟨hB.1, by simp; omega⟩
  have HBT : Hid (bt ≠ bW ∧ bt ≠ bw) := Lib.hid hbt
  have hbtl : bt < w.heap.size := (show RowBlk _ _ _ _ from hT).lt
  have ft9 : w.frozen? ⟨bt, 9, none⟩ = false := (show RowBlk _ _ _ _ from hT).free
  have fc9 : w.cell? ⟨bt, 9, none⟩ = some (.int .i64 0) := (show RowBlk _ _ _ _ from hT).cell (i := 9) rfl
  have H0 := Lib.hid hT
  have H00 := Lib.hid hW
  clear hT hW hb2 hB hbt hq
  have hwa : IntKind.i64.wrap (x.a : Int) = (x.a : Int) := by unfold IntKind.wrap; have := HQ.out.2; simp [IntKind.bits, IntKind.signed]; omega
  have ha2 : ¬ (q : Int) ≤ (x.a : Int) := by omega
  have HA := Lib.hid (tp_swap bt bW bw cap B n x.a x.b x.c l _ HT.out HW.out HBB.out (by have := HQ.out; omega) (by have := HQ.out; omega) hn7)
  rw [decide_eq_true hh] at HA
  unfold callAgg
  rw [hk] at *
  clear hk
  go_enter Try.func10, Try.ntmps10
  go_wp2_with fail
  refine HA.out.mono ?_
  intro e w1 hacc
  have he := hacc.1
  subst he
  have hp := hacc.put HBT.out 1
  obtain ⟨vG, vT, h5⟩ := hacc.2.2.1
  have f10 : w1.frozen? ⟨bt, 10, none⟩ = false := h5.free
  have c10 : w1.cell? ⟨bt, 10, none⟩ = some (.int .u64 0) := h5.cell (i := 10) rfl
  have HP := Lib.hid hp
  clear hp h5 hacc
  go_wp2_with fail
  first | go_end0 | (refine bodyPost_ret (results_none rfl _ _ _) rfl ?_)
  exact ⟨rfl, HP.out.1, HP.out.2.1, HP.out.2.2.1, HB0.out.trans2 HP.out.2.2.2 HSS.out⟩
set_option maxRecDepth 20000 in
set_option maxHeartbeats 2000000 in
theorem cell_2m (bt bW bw cap B n q : Nat) (x : CallV) (l : List Nat) (w : World) (hT : TpT bt bW w) (hW : TpW bW bw cap B n l w) (hB : bw < B ∧ B ≤ w.heap.size) (hbt : bt ≠ bW ∧ bt ≠ bw) (hq : l.length = q ∧ q ≤ 64) (hn7 : n ≤ 70000) (hxa : x.a < 18446744073709551616) (hk : x.k = 2) (ha : x.a < q) (hh : ¬ ((stepA 2 x.a x.b x.c l ⟨0, 0, 0, 0, 0⟩).1 : Int) = 1) :
    Calls Try.prog 10 #[.pointer (some ⟨bt, 0, none⟩), .int .i64 0, .agg #[.int .i64 0, .int .i64 (q : Int), .int .i64 0], callAgg x] w (CellOut bt bW bw cap B n 0 0 (stepA 2 x.a x.b x.c l ⟨0, 0, 0, 0, 0⟩).2.1 w) := by
  have hwq : IntKind.u64.wrap (q : Int) = (q : Int) := by unfold IntKind.wrap; simp [IntKind.bits, IntKind.signed]; omega
  have HT : Hid (TpT bt bW ((w.alloc (.cells #[.int .i64 0, .int .i64 (q : Int), .int .i64 0] 58)).alloc (.cells #[.int .i64 x.t, .int .i64 x.o, .int .i64 x.k, .int .u64 (x.a : Int), .int .u64 (x.b : Int), .int .u64 (x.c : Int)] 55))) := Lib.hid ((show RowBlk _ _ _ _ from hT).alloc _ |>.alloc _)
  have hb2 : Below w.heap.size w ((w.alloc (.cells #[.int .i64 0, .int .i64 (q : Int), .int .i64 0] 58)).alloc (.cells #[.int .i64 x.t, .int .i64 x.o, .int .i64 x.k, .int .u64 (x.a : Int), .int .u64 (x.b : Int), .int .u64 (x.c : Int)] 55)) := ((Below.refl _ _).alloc (Nat.le_refl _) _).alloc (by simp) _
  have HW : Hid (TpW bW bw cap B n l ((w.alloc (.cells #[.int .i64 0, .int .i64 (q : Int), .int .i64 0] 58)).alloc (.cells #[.int .i64 x.t, .int .i64 x.o, .int .i64 x.k, .int .u64 (x.a : Int), .int .u64 (x.b : Int), .int .u64 (x.c : Int)] 55))) := Lib.hid (hW.keep hb2)
  have HB0 : Hid (ButS (SB bt bW bw B w) w ((w.alloc (.cells #[.int .i64 0, .int .i64 (q : Int), .int .i64 0] 58)).alloc (.cells #[.int .i64 x.t, .int .i64 x.o, .int .i64 x.k, .int .u64 (x.a : Int), .int .u64 (x.b : Int), .int .u64 (x.c : Int)] 55))) := Lib.hid (((ButS.refl _ _).alloc _).alloc _)
  have HSS : Hid (∀ j, j < w.heap.size → SB bt bW bw B ((w.alloc (.cells #[.int .i64 0, .int .i64 (q : Int), .int .i64 0] 58)).alloc (.cells #[.int .i64 x.t, .int .i64 x.o, .int .i64 x.k, .int .u64 (x.a : Int), .int .u64 (x.b : Int), .int .u64 (x.c : Int)] 55)) j → SB bt bW bw B w j) := Lib.hid (fun j hj h => h.imp id (fun h => h.imp id (fun h => h.imp id (fun ⟨h1, cur, h2⟩ => ⟨h1, cur, (hb2.block j hj).symm.trans h2⟩))))
  have HQ := Lib.hid hq
  have HBB : Hid (bw < B ∧ B ≤ ((w.alloc (.cells #[.int .i64 0, .int .i64 (q : Int), .int .i64 0] 58)).alloc (.cells #[.int .i64 x.t, .int .i64 x.o, .int .i64 x.k, .int .u64 (x.a : Int), .int .u64 (x.b : Int), .int .u64 (x.c : Int)] 55)).heap.size) := Lib.hid ⟨hB.1, by simp; omega⟩
  have HBT : Hid (bt ≠ bW ∧ bt ≠ bw) := Lib.hid hbt
  have hbtl : bt < w.heap.size := (show RowBlk _ _ _ _ from hT).lt
  have ft9 : w.frozen? ⟨bt, 9, none⟩ = false := (show RowBlk _ _ _ _ from hT).free
  have fc9 : w.cell? ⟨bt, 9, none⟩ = some (.int .i64 0) := (show RowBlk _ _ _ _ from hT).cell (i := 9) rfl
  have H0 := Lib.hid hT
  have H00 := Lib.hid hW
  clear hT hW hb2 hB hbt hq
  have hwa : IntKind.i64.wrap (x.a : Int) = (x.a : Int) := by unfold IntKind.wrap; have := HQ.out.2; simp [IntKind.bits, IntKind.signed]; omega
  have ha2 : ¬ (q : Int) ≤ (x.a : Int) := by omega
  have HA := Lib.hid (tp_swap bt bW bw cap B n x.a x.b x.c l _ HT.out HW.out HBB.out (by have := HQ.out; omega) (by have := HQ.out; omega) hn7)
  rw [decide_eq_false hh] at HA
  unfold callAgg
  rw [hk] at *
  clear hk
  go_enter Try.func10, Try.ntmps10
  go_wp2_with fail
  refine HA.out.mono ?_
  intro e w1 hacc
  have he := hacc.1
  subst he
  have HP := Lib.hid hacc.none
  clear hacc
  go_wp2_with fail
  first | go_end0 | (refine bodyPost_ret (results_none rfl _ _ _) rfl ?_)
  exact ⟨rfl, HP.out.1, HP.out.2.1, HP.out.2.2.1, HB0.out.trans2 HP.out.2.2.2 HSS.out⟩
set_option maxRecDepth 20000 in
set_option maxHeartbeats 2000000 in
theorem cell_3 (bt bW bw cap B n q : Nat) (x : CallV) (l : List Nat) (w : World) (hT : TpT bt bW w) (hW : TpW bW bw cap B n l w) (hB : bw < B ∧ B ≤ w.heap.size) (hbt : bt ≠ bW ∧ bt ≠ bw) (hq : l.length = q ∧ q ≤ 64) (hn7 : n ≤ 70000) (hxa : x.a < 18446744073709551616) (hk : x.k = 3) (ha : x.a < q) :
    Calls Try.prog 10 #[.pointer (some ⟨bt, 0, none⟩), .int .i64 0, .agg #[.int .i64 0, .int .i64 (q : Int), .int .i64 0], callAgg x] w (CellOut bt bW bw cap B n 0 (stepA 3 x.a x.b 0 l ⟨0, 0, 0, 0, 0⟩).1 (stepA 3 x.a x.b 0 l ⟨0, 0, 0, 0, 0⟩).2.1 w) := by
  have hwq : IntKind.u64.wrap (q : Int) = (q : Int) := by unfold IntKind.wrap; simp [IntKind.bits, IntKind.signed]; omega
  have HT : Hid (TpT bt bW ((w.alloc (.cells #[.int .i64 0, .int .i64 (q : Int), .int .i64 0] 58)).alloc (.cells #[.int .i64 x.t, .int .i64 x.o, .int .i64 x.k, .int .u64 (x.a : Int), .int .u64 (x.b : Int), .int .u64 (x.c : Int)] 55))) := Lib.hid ((show RowBlk _ _ _ _ from hT).alloc _ |>.alloc _)
  have hb2 : Below w.heap.size w ((w.alloc (.cells #[.int .i64 0, .int .i64 (q : Int), .int .i64 0] 58)).alloc (.cells #[.int .i64 x.t, .int .i64 x.o, .int .i64 x.k, .int .u64 (x.a : Int), .int .u64 (x.b : Int), .int .u64 (x.c : Int)] 55)) := ((Below.refl _ _).alloc (Nat.le_refl _) _).alloc (by simp) _
  have HW : Hid (TpW bW bw cap B n l ((w.alloc (.cells #[.int .i64 0, .int .i64 (q : Int), .int .i64 0] 58)).alloc (.cells #[.int .i64 x.t, .int .i64 x.o, .int .i64 x.k, .int .u64 (x.a : Int), .int .u64 (x.b : Int), .int .u64 (x.c : Int)] 55))) := Lib.hid (hW.keep hb2)
  have HB0 : Hid (ButS (SB bt bW bw B w) w ((w.alloc (.cells #[.int .i64 0, .int .i64 (q : Int), .int .i64 0] 58)).alloc (.cells #[.int .i64 x.t, .int .i64 x.o, .int .i64 x.k, .int .u64 (x.a : Int), .int .u64 (x.b : Int), .int .u64 (x.c : Int)] 55))) := Lib.hid (((ButS.refl _ _).alloc _).alloc _)
  have HSS : Hid (∀ j, j < w.heap.size → SB bt bW bw B ((w.alloc (.cells #[.int .i64 0, .int .i64 (q : Int), .int .i64 0] 58)).alloc (.cells #[.int .i64 x.t, .int .i64 x.o, .int .i64 x.k, .int .u64 (x.a : Int), .int .u64 (x.b : Int), .int .u64 (x.c : Int)] 55)) j → SB bt bW bw B w j) := Lib.hid (fun j hj h => h.imp id (fun h => h.imp id (fun h => h.imp id (fun ⟨h1, cur, h2⟩ => ⟨h1, cur, (hb2.block j hj).symm.trans h2⟩))))
  have HQ := Lib.hid hq
  have HBB : Hid (bw < B ∧ B ≤ ((w.alloc (.cells #[.int .i64 0, .int .i64 (q : Int), .int .i64 0] 58)).alloc (.cells #[.int .i64 x.t, .int .i64 x.o, .int .i64 x.k, .int .u64 (x.a : Int), .int .u64 (x.b : Int), .int .u64 (x.c : Int)] 55)).heap.size) := Lib.hid ⟨hB.1, by simp; omega⟩
  have HBT : Hid (bt ≠ bW ∧ bt ≠ bw) := Lib.hid hbt
  have hbtl : bt < w.heap.size := (show RowBlk _ _ _ _ from hT).lt
  have ft9 : w.frozen? ⟨bt, 9, none⟩ = false := (show RowBlk _ _ _ _ from hT).free
  have fc9 : w.cell? ⟨bt, 9, none⟩ = some (.int .i64 0) := (show RowBlk _ _ _ _ from hT).cell (i := 9) rfl
  have H0 := Lib.hid hT
  have H00 := Lib.hid hW
  clear hT hW hb2 hB hbt hq
  have hwa : IntKind.i64.wrap (x.a : Int) = (x.a : Int) := by unfold IntKind.wrap; have := HQ.out.2; simp [IntKind.bits, IntKind.signed]; omega
  have ha2 : ¬ (q : Int) ≤ (x.a : Int) := by omega
  have HA := Lib.hid (tp_add bt bW bw cap B n x.a x.b l _ HT.out HW.out HBB.out (by have := HQ.out; omega) (by have := HQ.out; omega) hn7)
  unfold callAgg
  rw [hk] at *
  clear hk
  go_enter Try.func10, Try.ntmps10
  go_wp2_with fail
  refine HA.out.mono ?_
  intro e w1 hacc
  have he := hacc.1
  subst he
  have hp := hacc.put HBT.out (stepA 3 x.a x.b 0 l ⟨0, 0, 0, 0, 0⟩).1
  obtain ⟨vG, vT, h5⟩ := hacc.2.2.1
  have f10 : w1.frozen? ⟨bt, 10, none⟩ = false := h5.free
  have c10 : w1.cell? ⟨bt, 10, none⟩ = some (.int .u64 0) := h5.cell (i := 10) rfl
  have HP := Lib.hid hp
  clear hp h5 hacc
  go_wp2_with fail
  first | go_end0 | (refine bodyPost_ret (results_none rfl _ _ _) rfl ?_)
  exact ⟨rfl, HP.out.1, HP.out.2.1, HP.out.2.2.1, HB0.out.trans2 HP.out.2.2.2 HSS.out⟩
theorem cell_any (bt bW bw cap B n q : Nat) (x : CallV) (l : List Nat) (w : World) (hT : TpT bt bW w) (hW : TpW bW bw cap B n l w) (hB : bw < B ∧ B ≤ w.heap.size) (hbt : bt ≠ bW ∧ bt ≠ bw) (hq : l.length = q ∧ q ≤ 64) (hn7 : n ≤ 70000) (hxa : x.a < 18446744073709551616) :
    Calls Try.prog 10 #[.pointer (some ⟨bt, 0, none⟩), .int .i64 0, .agg #[.int .i64 0, .int .i64 (q : Int), .int .i64 0], callAgg x] w (CellOut bt bW bw cap B n (((cellD q).ap l x).2.err) (((cellD q).ap l x).2.val) (((cellD q).ap l x).1) w) := by
  rw [cellD_ap]
  by_cases k9 : x.k < 0 ∨ 3 < x.k
  · rw [if_pos k9]
    rcases k9 with k9 | k9
    · exact cell_9l bt bW bw cap B n q x l w hT hW hB hbt hq hn7 hxa k9
    · exact cell_9h bt bW bw cap B n q x l w hT hW hB hbt hq hn7 hxa k9
  · rw [if_neg k9]
    by_cases ka : q ≤ x.a
    · rw [if_pos ka]
      exact cell_10 bt bW bw cap B n q x l w hT hW hB hbt hq hn7 hxa k9 ka
    · rw [if_neg ka]
      have hal : x.a < l.length := by omega
      have hv := getD_get hal
      by_cases k0 : x.k = 0
      · have h := cell_0 bt bW bw cap B n q x l w hT hW hB hbt hq hn7 hxa k0 (by omega)
        rw [step_read hv] at h
        have e : cellAcc (cQ x) = .rd x.a := by unfold cellAcc cQ; rw [k0]; rfl
        rw [e]; exact h
      · by_cases k1 : x.k = 1
        · have h := cell_1 bt bW bw cap B n q x l w hT hW hB hbt hq hn7 hxa k1 (by omega)
          rw [step_write hv] at h
          have e : cellAcc (cQ x) = .wr x.a x.b := by unfold cellAcc cQ; rw [k1]; rfl
          rw [e]; exact h
        · by_cases k2 : x.k = 2
          · have e : cellAcc (cQ x) = .sw x.a x.b x.c := by unfold cellAcc cQ; rw [k2]; rfl
            rw [e]
            by_cases hx : l.getD x.a 0 = x.b
            · have hs := step_hit (y := x.c) (c := ⟨0, 0, 0, 0, 0⟩) (show l[x.a]? = some x.b by rw [← hx]; exact hv)
              have h := cell_2h bt bW bw cap B n q x l w hT hW hB hbt hq hn7 hxa k2 (by omega) (by rw [hs]; rfl)
              rw [hs] at h
              simp only [Acc.run]
              rw [if_pos hx]; exact h
            · have hs := step_miss (y := x.c) (c := ⟨0, 0, 0, 0, 0⟩) hv hx
              have h := cell_2m bt bW bw cap B n q x l w hT hW hB hbt hq hn7 hxa k2 (by omega) (by rw [hs]; simp)
              rw [hs] at h
              simp only [Acc.run]
              rw [if_neg hx]; exact h
          · have k3 : x.k = 3 := by omega
            have h := cell_3 bt bW bw cap B n q x l w hT hW hB hbt hq hn7 hxa k3 (by omega)
            rw [step_add hv (by decide) (by decide) (by decide)] at h
            have e : cellAcc (cQ x) = .ad x.a x.b := by unfold cellAcc cQ; rw [k3]; rfl
            rw [e]; exact h
end Go.Proofs.Ytihhjbcphdnkhaa
