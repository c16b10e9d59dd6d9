/- Walks of door: the steps. -/
import Derived.Test.YtcedfcdhdgmelaaOE
import Derived.Test.YtcedfcdhdgmelaaK7
namespace Go.Proofs.Ytcedfcdhdgmelaa
open Go.ChangeShapes Go.WideShapes Go.ChangeAt Go.RowKit
set_option linter.unusedVariables false
set_option linter.unusedSimpArgs false

theorem doorEnt_meth (a : Addr) (w : World) : (method 348 210 (.pointer (some a)) "Step").run Try.prog w = .ok (134, .pointer (some a)) w := by kernel_rfl
theorem doorEnt_enter (args : Array Value) (w : World) : (callFunc 134 args).run Try.prog w = .ok (.enter 134 args) w := by kernel_rfl
theorem doorLook_meth (a : Int) (w : World) : (method 348 214 (.agg #[.int .i64 a]) "Step").run Try.prog w = .ok (135, .agg #[.int .i64 a]) w := by kernel_rfl
theorem doorLook_enter (args : Array Value) (w : World) : (callFunc 135 args).run Try.prog w = .ok (.enter 135 args) w := by kernel_rfl
set_option maxRecDepth 20000 in
set_option maxHeartbeats 1000000 in
theorem doorLook_step (bm bw i : Nat) (tick : Int) (l : List Nat) (c : Cn) (w : World) (hM : MemIs 136 w bm bw l c) (hi : i < l.length) (hn : l.length ≤ 65536) (hc : c.r < 9223372036854775807) :
    Calls Try.prog 135 #[.agg #[.int .i64 (i : Int)], turnAgg bm tick] w (StepEnd 0 (l.getD i 0 : Nat) bm bw l { c with r := c.r + 1 } w) := by
  obtain ⟨x, hx⟩ : ∃ x, l.getD i 0 = x := ⟨_, rfl⟩
  have hix := getD_get hi
  rw [hx] at hix ⊢
  unfold turnAgg
  have HM := Lib.hid hM
  have HI := Lib.hid hix
  have hmm := m_Read ⟨bm, 0, none⟩
  have hbm := hM.lt1
  have hbw := hM.lt2
  clear hM hi hix hx
  go_enter Try.func135, Try.ntmps135
  go_wp2_with fail
  generalize hw3 : ((w.alloc (.cells #[.int .i64 (i : Int)] 214)).alloc (.cells #[.iface 94 (.pointer (some ⟨bm, 0, none⟩)), .int .i64 tick] 110)).alloc (.cells #[.int .i64 0, .int .u64 0, .slice none 0 0] 45) = w3
  have HM3 : Hid (MemIs 136 w3 bm bw l c) := Lib.hid (by rw [← hw3]; exact ((HM.out.alloc _).alloc _).alloc _)
  have HB3 : Hid (But bm bw w w3) := Lib.hid (by rw [← hw3]; exact (((But.refl _ _ _).alloc _).alloc _).alloc _)
  have hs3 : w3.heap.size = w.heap.size + 1 + 1 + 1 := by rw [← hw3]; simp
  have hb3 : RowBlk 45 w3 (w.heap.size + 1 + 1) [.int .i64 0, .int .u64 0, .slice none 0 0] := by
    rw [← hw3]
    have := RowBlk.new ((w.alloc (.cells #[.int .i64 (i : Int)] 214)).alloc (.cells #[.iface 94 (.pointer (some ⟨bm, 0, none⟩)), .int .i64 tick] 110)) [.int .i64 0, .int .u64 0, .slice none 0 0] 45
    simpa using this
  clear hw3
  refine (read_ok bm bw i x l c w3 HM3.out HI.out hn hc).mono ?_
  rintro e w4 ⟨rfl, hM4, hB4⟩
  have hk4 : RowBlk 45 w4 (w.heap.size + 1 + 1) [.int .i64 0, .int .u64 0, .slice none 0 0] := hb3.same (hB4.block _ (by omega) (by omega) (by omega))
  have HX := Lib.hid (answer_store (.int .i64 0) (.int .u64 x) (.slice none 0 0) hk4 hM4 (HB3.out.trans hB4) (by omega) (by omega) (by omega))
  have k0 := hk4.cell (i := 0) rfl
  have k1 := hk4.cell (i := 1) rfl
  have k2 := hk4.cell (i := 2) rfl
  have f0 : w4.frozen? ⟨w.heap.size + 1 + 1, 0, none⟩ = false := hk4.free
  have f1 : w4.frozen? ⟨w.heap.size + 1 + 1, 1, none⟩ = false := hk4.free
  have f2 : w4.frozen? ⟨w.heap.size + 1 + 1, 2, none⟩ = false := hk4.free
  clear hM4 hB4 hb3 hk4
  go_wp2
  generalize ((w4.setCell ⟨w.heap.size + 1 + 1, 0, none⟩ (.int .i64 0)).setCell ⟨w.heap.size + 1 + 1, 1, none⟩ (.int .u64 x)).setCell ⟨w.heap.size + 1 + 1, 2, none⟩ (.slice none 0 0) = w5 at HX ⊢
  have q0 := HX.out.1.cell (i := 0) rfl
  have q1 := HX.out.1.cell (i := 1) rfl
  have q2 := HX.out.1.cell (i := 2) rfl
  exact bodyPost_ret (v := .tuple #[.agg #[.int .i64 0, .int .u64 x, .slice none 0 0], .bool true]) (by simp [results, Try.results135, go_sem, q0, q1, q2]) rfl ⟨rfl, HX.out.2.1, HX.out.2.2⟩

theorem cell_of_eq {w w' : World} {b k : Nat} (h : w'.heap[b]? = w.heap[b]?) : w'.cell? ⟨b, k, none⟩ = w.cell? ⟨b, k, none⟩ := by unfold World.cell?; rw [h]
/-- an entry as it lies in memory -/
def EntVs (n k own g : Nat) (ao : Option Addr) (cap : Nat) : List Value := [.slice ao (n - k : Nat) cap, .int .i64 (own : Int), .int .u64 (g : Int)]
/-- what a step leaves that reads a word -/
def DoorRead (n k own g ge gl bm bw : Nat) (l : List Nat) (c : Cn) (w : World) (en : Ending) (w' : World) : Prop := en = .returned (.tuple #[.agg #[.int .i64 0, .int .u64 0, .slice none 0 0], .bool false]) ∧ MemIs 136 w' bm bw l { c with r := c.r + 1 } ∧ ButS (fun b => b = bm ∨ b = bw ∨ b = ge) w w' ∧
  ∃ ao' cap', RowBlk 212 w' ge (EntVs n (k + 1) own (max g (l.getD k 0)) ao' cap') ∧ (k + 1 < n → ao' = some ⟨gl, k + 1, none⟩) ∧ n - (k + 1) ≤ cap'
set_option maxRecDepth 100000 in
set_option maxHeartbeats 2000000 in
theorem door_reads (n k own g ge gl cap bm bw : Nat) (hn : n ≤ 16) (hk : k < n) (hcap : n - k ≤ cap) (l : List Nat) (c : Cn) (t : Nat) (w : World) (hM : MemIs 136 w bm bw l c) (hg : RowBlk 212 w ge (EntVs n k own g (some ⟨gl, k, none⟩) cap)) (hcl : w.cell? ⟨gl, k, none⟩ = some (.int .i64 (k : Int))) (hgl : gl ≠ bm ∧ gl ≠ bw ∧ gl ≠ ge) (hl : l.length = n) (hc : c.r < 9223372036854775807) (hlx : l.getD k 0 ≤ 9223372036854775807) (hgx : g ≤ 9223372036854775807) :
    Calls Try.prog 134 #[.pointer (some ⟨ge, 0, none⟩), turnAgg bm (t : Int)] w (DoorRead n k own g ge gl bm bw l c w) := by
  unfold turnAgg EntVs at *
  have hgm : ge ≠ bm := by intro e; have h1 := hg; have h2 := hM.1; unfold RowBlk at h1; rw [e, h2] at h1; simp at h1
  have hgw : ge ≠ bw := by intro e; have h1 := hg; have h2 := hM.2.1; unfold RowBlk at h1; rw [e, h2] at h1; simp at h1
  obtain ⟨y, hy⟩ : ∃ y, l.getD k 0 = y := ⟨_, rfl⟩
  obtain ⟨m, hm⟩ : ∃ m, n - k = m + 1 := ⟨n - k - 1, by omega⟩
  rw [hm] at hg
  have HSW : Hid (∀ W : World, MemIs 136 W bm bw l c → Calls Try.prog 156 #[.pointer (some ⟨bm, 0, none⟩), .int .i64 (k : Int)] W (AccPost (.int .u64 (y : Int)) (.rd k) bm bw l c W)) := Lib.hid (fun W hW => by rw [← hy]; exact rd_acc (i := k) hW (by omega) (by omega) hc)
  rw [hy] at hlx
  have HY := Lib.hid hy
  have HLL := Lib.hid hl
  have HGL := Lib.hid hgl
  have HCL : Hid (w.cell? ⟨gl, k, none⟩ = some (.int .i64 (k : Int))) := Lib.hid hcl
  clear hl hy hgl
  have HM := Lib.hid hM
  have HG := Lib.hid hg
  have hmm := m_Read ⟨bm, 0, none⟩
  have hbm := hM.lt1
  have hbw := hM.lt2
  have hgel := hg.lt
  have hgll := World.block_lt_of_cell? w ⟨gl, k, none⟩ hcl
  have c0 : w.cell? ⟨ge, 0, none⟩ = some (.slice (some ⟨gl, k, none⟩) (m + 1 : Nat) cap) := hg.cell rfl
  have c2 : w.cell? ⟨ge, 2, none⟩ = some (.int .u64 (g : Int)) := hg.cell rfl
  have i0 : (0 : Int) < ((m + 1 : Nat) : Int) := by omega
  clear hM hg
  go_enter Try.func134, Try.ntmps134
  go_wp2_with fail
  have HGa : Hid (RowBlk 212 ((w.alloc (.cells #[.iface 94 (.pointer (some ⟨bm, 0, none⟩)), .int .i64 (t : Int)] 110)).alloc (.cells #[.int .i64 0, .int .u64 0, .slice none 0 0] 45)) ge [.slice (some ⟨gl, k, none⟩) (m + 1 : Nat) cap, .int .i64 (own : Int), .int .u64 (g : Int)]) := Lib.hid ((HG.out.alloc _).alloc _)
  have HMa : Hid (MemIs 136 ((w.alloc (.cells #[.iface 94 (.pointer (some ⟨bm, 0, none⟩)), .int .i64 (t : Int)] 110)).alloc (.cells #[.int .i64 0, .int .u64 0, .slice none 0 0] 45)) bm bw l c) := Lib.hid ((HM.out.alloc _).alloc _)
  have HTa : Hid (RowBlk 110 ((w.alloc (.cells #[.iface 94 (.pointer (some ⟨bm, 0, none⟩)), .int .i64 (t : Int)] 110)).alloc (.cells #[.int .i64 0, .int .u64 0, .slice none 0 0] 45)) w.heap.size [.iface 94 (.pointer (some ⟨bm, 0, none⟩)), .int .i64 (t : Int)]) := Lib.hid ((RowBlk.new _ _ _).alloc _)
  have HAa : Hid (RowBlk 45 ((w.alloc (.cells #[.iface 94 (.pointer (some ⟨bm, 0, none⟩)), .int .i64 (t : Int)] 110)).alloc (.cells #[.int .i64 0, .int .u64 0, .slice none 0 0] 45)) (w.heap.size + 1) [.int .i64 0, .int .u64 0, .slice none 0 0]) := Lib.hid (by
    have h := RowBlk.new (w.alloc (.cells #[.iface 94 (.pointer (some ⟨bm, 0, none⟩)), .int .i64 (t : Int)] 110)) [.int .i64 0, .int .u64 0, .slice none 0 0] 45
    have e : (w.alloc (.cells #[.iface 94 (.pointer (some ⟨bm, 0, none⟩)), .int .i64 (t : Int)] 110)).heap.size = w.heap.size + 1 := by simp
    rw [e] at h; exact h)
  have HBa : Hid (ButS (fun b => b = bm ∨ b = bw ∨ b = ge) w ((w.alloc (.cells #[.iface 94 (.pointer (some ⟨bm, 0, none⟩)), .int .i64 (t : Int)] 110)).alloc (.cells #[.int .i64 0, .int .u64 0, .slice none 0 0] 45))) := Lib.hid (((ButS.refl _ _).alloc _).alloc _)
  have HCa : Hid (((w.alloc (.cells #[.iface 94 (.pointer (some ⟨bm, 0, none⟩)), .int .i64 (t : Int)] 110)).alloc (.cells #[.int .i64 0, .int .u64 0, .slice none 0 0] 45)).cell? ⟨gl, k, none⟩ = some (.int .i64 (k : Int)) ∧ gl < ((w.alloc (.cells #[.iface 94 (.pointer (some ⟨bm, 0, none⟩)), .int .i64 (t : Int)] 110)).alloc (.cells #[.int .i64 0, .int .u64 0, .slice none 0 0] 45)).heap.size) := Lib.hid ⟨by rw [World.cell?_alloc_past _ _ _ (by simp; omega), World.cell?_alloc_past _ _ _ (by exact hgll)]; exact HCL.out, by simp; omega⟩
  generalize ((w.alloc (.cells #[.iface 94 (.pointer (some ⟨bm, 0, none⟩)), .int .i64 (t : Int)] 110)).alloc (.cells #[.int .i64 0, .int .u64 0, .slice none 0 0] 45)) = wa at HGa HMa HTa HAa HBa HCa ⊢
  have d0 : wa.cell? ⟨ge, 0, none⟩ = some (.slice (some ⟨gl, k, none⟩) (m + 1 : Nat) cap) := HGa.out.cell rfl
  have d2 : wa.cell? ⟨ge, 2, none⟩ = some (.int .u64 (g : Int)) := HGa.out.cell rfl
  have t0 : wa.cell? ⟨w.heap.size, 0, none⟩ = some (.iface 94 (.pointer (some ⟨bm, 0, none⟩))) := HTa.out.cell rfl
  have d3 : wa.cell? ⟨gl, k, none⟩ = some (.int .i64 (k : Int)) := HCa.out.1
  clear c0 c2 hcl
  refine wp_region_tail (S := fun w' => w'.cell? ⟨ge, 0, none⟩ = some (.slice (some ⟨gl, k, none⟩) (m + 1 : Nat) cap) ∧ w'.cell? ⟨ge, 2, none⟩ = some (.int .u64 (g : Int)) ∧ w'.cell? ⟨w.heap.size, 0, none⟩ = some (.iface 94 (.pointer (some ⟨bm, 0, none⟩))) ∧ w'.cell? ⟨gl, k, none⟩ = some (.int .i64 (k : Int))) 17 (by kernel_rfl) (by kernel_rfl) ?_ (fun hHeld => ?_)
  · first | with_reducible exact ⟨d0, d2, t0, d3⟩ | go_keep
  refine wpAnyH_take (i := 0) (oi := _) (v := ?v0) rfl (by kernel_rfl) (by kernel_rfl) (by kernel_rfl) (fun _ _ _ h => h) (Or.inl ⟨by kernel_rfl, ?hy0⟩) (by assumption) ?rest0
  case hy0 => (intro w hSw; (try dsimp only at hSw); go_simp <;> with_reducible rfl)
  try simp only [Act.put, List.getElem_toArray, List.getElem_cons_zero, List.getElem_cons_succ, List.setIfInBounds_toArray, List.set_cons_zero, List.set_cons_succ]
  refine wpAnyH_take (i := 1) (oi := _) (v := ?v1) rfl (by kernel_rfl) (by kernel_rfl) (by kernel_rfl) (fun _ _ _ h => h) (Or.inl ⟨by kernel_rfl, ?hy1⟩) (by assumption) ?rest1
  case hy1 => (intro w hSw; (try dsimp only at hSw); go_simp <;> with_reducible rfl)
  try simp only [Act.put, List.getElem_toArray, List.getElem_cons_zero, List.getElem_cons_succ, List.setIfInBounds_toArray, List.set_cons_zero, List.set_cons_succ]
  refine wpAnyH_take (i := 2) (oi := _) (v := ?v2) rfl (by kernel_rfl) (by kernel_rfl) (by kernel_rfl) (fun _ _ _ h => h) (Or.inl ⟨by kernel_rfl, ?hy2⟩) (by assumption) ?rest2
  case hy2 => (intro w hSw; (try dsimp only at hSw); go_simp <;> with_reducible rfl)
  try simp only [Act.put, List.getElem_toArray, List.getElem_cons_zero, List.getElem_cons_succ, List.setIfInBounds_toArray, List.set_cons_zero, List.set_cons_succ]
  refine wpAnyH_take (i := 3) (oi := _) (v := ?v3) rfl (by kernel_rfl) (by kernel_rfl) (by kernel_rfl) (fun _ _ _ h => h) (Or.inl ⟨by kernel_rfl, ?hy3⟩) (by assumption) ?rest3
  case hy3 => (intro w hSw; (try dsimp only at hSw); go_simp <;> with_reducible rfl)
  try simp only [Act.put, List.getElem_toArray, List.getElem_cons_zero, List.getElem_cons_succ, List.setIfInBounds_toArray, List.set_cons_zero, List.set_cons_succ]
  refine wpAnyH_take (i := 4) (oi := _) (v := ?v4) rfl (by kernel_rfl) (by kernel_rfl) (by kernel_rfl) (fun _ _ _ h => h) (Or.inl ⟨by kernel_rfl, ?hy4⟩) (by assumption) ?rest4
  case hy4 => (intro w hSw; (try dsimp only at hSw); go_simp <;> with_reducible rfl)
  try simp only [Act.put, List.getElem_toArray, List.getElem_cons_zero, List.getElem_cons_succ, List.setIfInBounds_toArray, List.set_cons_zero, List.set_cons_succ]
  refine wpAnyH_take (i := 5) (oi := _) (v := ?v5) rfl (by kernel_rfl) (by kernel_rfl) (by kernel_rfl) (fun _ _ _ h => h) (Or.inl ⟨by kernel_rfl, ?hy5⟩) (by assumption) ?rest5
  case hy5 => (intro w hSw; (try dsimp only at hSw); go_simp <;> with_reducible rfl)
  try simp only [Act.put, List.getElem_toArray, List.getElem_cons_zero, List.getElem_cons_succ, List.setIfInBounds_toArray, List.set_cons_zero, List.set_cons_succ]
  refine wpAnyH_take (i := 6) (oi := _) (v := ?v6) rfl (by kernel_rfl) (by kernel_rfl) (by kernel_rfl) (fun _ _ _ h => h) (Or.inl ⟨by kernel_rfl, ?hy6⟩) (by assumption) ?rest6
  case hy6 => (intro w hSw; (try dsimp only at hSw); go_simp <;> with_reducible rfl)
  try simp only [Act.put, List.getElem_toArray, List.getElem_cons_zero, List.getElem_cons_succ, List.setIfInBounds_toArray, List.set_cons_zero, List.set_cons_succ]
  refine wpAnyH_take (i := 7) (oi := _) (v := ?v7) rfl (by kernel_rfl) (by kernel_rfl) (by kernel_rfl) (fun _ _ _ h => h) (Or.inl ⟨by kernel_rfl, ?hy7⟩) (by assumption) ?rest7
  case hy7 => (intro w hSw; (try dsimp only at hSw); go_simp <;> with_reducible rfl)
  try simp only [Act.put, List.getElem_toArray, List.getElem_cons_zero, List.getElem_cons_succ, List.setIfInBounds_toArray, List.set_cons_zero, List.set_cons_succ]
  refine wpAnyH_take (i := 8) (oi := _) (v := ?v8) rfl (by kernel_rfl) (by kernel_rfl) (by kernel_rfl) (fun _ _ _ h => h) (Or.inl ⟨by kernel_rfl, ?hy8⟩) (by assumption) ?rest8
  case hy8 => (intro w hSw; (try dsimp only at hSw); go_simp <;> with_reducible rfl)
  try simp only [Act.put, List.getElem_toArray, List.getElem_cons_zero, List.getElem_cons_succ, List.setIfInBounds_toArray, List.set_cons_zero, List.set_cons_succ]
  refine wpAnyH_take (i := 9) (oi := _) (v := ?v9) rfl (by kernel_rfl) (by kernel_rfl) (by kernel_rfl) (fun _ _ _ h => h) (Or.inl ⟨by kernel_rfl, ?hy9⟩) (by assumption) ?rest9
  case hy9 => (intro w hSw; (try dsimp only at hSw); go_simp <;> with_reducible rfl)
  try simp only [Act.put, List.getElem_toArray, List.getElem_cons_zero, List.getElem_cons_succ, List.setIfInBounds_toArray, List.set_cons_zero, List.set_cons_succ]
  refine wpAnyH_take (i := 10) (oi := _) (v := ?v10) rfl (by kernel_rfl) (by kernel_rfl) (by kernel_rfl) (fun _ _ _ h => h) (Or.inl ⟨by kernel_rfl, ?hy10⟩) (by assumption) ?rest10
  case hy10 => (intro w hSw; (try dsimp only at hSw); go_simp <;> with_reducible rfl)
  try simp only [Act.put, List.getElem_toArray, List.getElem_cons_zero, List.getElem_cons_succ, List.setIfInBounds_toArray, List.set_cons_zero, List.set_cons_succ]
  refine wpAnyH_take (i := 11) (oi := _) (v := ?v11) rfl (by kernel_rfl) (by kernel_rfl) (by kernel_rfl) (fun _ _ _ h => h) (Or.inl ⟨by kernel_rfl, ?hy11⟩) (by assumption) ?rest11
  case hy11 => (intro w hSw; (try dsimp only at hSw); go_simp <;> with_reducible rfl)
  try simp only [Act.put, List.getElem_toArray, List.getElem_cons_zero, List.getElem_cons_succ, List.setIfInBounds_toArray, List.set_cons_zero, List.set_cons_succ]
  refine wpAnyH_take (i := 12) (oi := _) (v := ?v12) rfl (by kernel_rfl) (by kernel_rfl) (by kernel_rfl) (fun _ _ _ h => h) (Or.inl ⟨by kernel_rfl, ?hy12⟩) (by assumption) ?rest12
  case hy12 => (intro w hSw; (try dsimp only at hSw); go_simp <;> with_reducible rfl)
  try simp only [Act.put, List.getElem_toArray, List.getElem_cons_zero, List.getElem_cons_succ, List.setIfInBounds_toArray, List.set_cons_zero, List.set_cons_succ]
  refine wpAnyH_take (i := 13) (oi := _) (v := ?v13) rfl (by kernel_rfl) (by kernel_rfl) (by kernel_rfl) (fun _ _ _ h => h) (Or.inl ⟨by kernel_rfl, ?hy13⟩) (by assumption) ?rest13
  case hy13 => (intro w hSw; (try dsimp only at hSw); go_simp <;> with_reducible rfl)
  try simp only [Act.put, List.getElem_toArray, List.getElem_cons_zero, List.getElem_cons_succ, List.setIfInBounds_toArray, List.set_cons_zero, List.set_cons_succ]
  refine wpAnyH_take (i := 14) (oi := _) (v := ?v14) rfl (by kernel_rfl) (by kernel_rfl) (by kernel_rfl) (fun _ _ _ h => h) (Or.inl ⟨by kernel_rfl, ?hy14⟩) (by assumption) ?rest14
  case hy14 => (intro w hSw; (try dsimp only at hSw); go_simp <;> with_reducible rfl)
  try simp only [Act.put, List.getElem_toArray, List.getElem_cons_zero, List.getElem_cons_succ, List.setIfInBounds_toArray, List.set_cons_zero, List.set_cons_succ]
  refine wpAnyH_ready (rs := [15]) (by kernel_rfl) (by simp) ?_
  refine AllReadyH.cons (o := _) rfl (fun K hK => ?_) AllReadyH.nil
  go_simp
  go_at_call 156
  refine (HSW.out _ HMa.out.drew).mono ?_
  rintro e w4 ⟨rfl, hM4, hB4⟩
  have hG4 := RowBlk.same HGa.out.drew (hB4.block ge HGa.out.lt hgm hgw)
  have hT4 := RowBlk.same HTa.out.drew (hB4.block w.heap.size HTa.out.lt (by omega) (by omega))
  have hA4 := RowBlk.same HAa.out.drew (hB4.block (w.heap.size + 1) HAa.out.lt (by omega) (by omega))
  have e0 : w4.cell? ⟨ge, 0, none⟩ = some (.slice (some ⟨gl, k, none⟩) (m + 1 : Nat) cap) := hG4.cell rfl
  have e2 : w4.cell? ⟨ge, 2, none⟩ = some (.int .u64 (g : Int)) := hG4.cell rfl
  have et : w4.cell? ⟨w.heap.size, 0, none⟩ = some (.iface 94 (.pointer (some ⟨bm, 0, none⟩))) := hT4.cell rfl
  have e3 : w4.cell? ⟨gl, k, none⟩ = some (.int .i64 (k : Int)) := (cell_of_eq (hB4.block gl HCa.out.2 HGL.out.1 HGL.out.2.1)).trans d3
  have HG4 := Lib.hid hG4
  have HT4 := Lib.hid hT4
  have HA4 := Lib.hid hA4
  have HM4 := Lib.hid hM4
  have HB4 := Lib.hid hB4
  clear hG4 hT4 hM4 hB4 hA4
  go_simp
  refine hK.out _ _ ?_ (fun hHeld => ?_)
  · with_reducible exact ⟨e0, e2, et, e3⟩
  clear hK K
  try simp only [Act.put, List.getElem_toArray, List.getElem_cons_zero, List.getElem_cons_succ, List.setIfInBounds_toArray, List.set_cons_zero, List.set_cons_succ]
  refine wpAnyH_take (i := 16) (oi := _) (v := ?v16) rfl (by kernel_rfl) (by kernel_rfl) (by kernel_rfl) (fun _ _ _ h => h) (Or.inl ⟨by kernel_rfl, ?hy16⟩) (by assumption) ?rest16
  case hy16 => (intro w hSw; (try dsimp only at hSw); go_simp <;> with_reducible rfl)
  try simp only [Act.put, List.getElem_toArray, List.getElem_cons_zero, List.getElem_cons_succ, List.setIfInBounds_toArray, List.set_cons_zero, List.set_cons_succ]
  refine wpAnyH_done (by kernel_rfl) ?_ _
  dsimp only [tailQ, List.drop_succ_cons, List.drop_zero]
  have hmx : (if g < y then (y : Int) else (g : Int)) = ((max g y : Nat) : Int) := by split <;> omega
  rw [hmx]
  clear hmx
  obtain ⟨z, hz⟩ : ∃ z, max g y = z := ⟨_, rfl⟩
  rw [hz]
  have HZ := Lib.hid hz
  clear hz hHeld
  have g0 : w4.cell? ⟨ge, 0, none⟩ = some (.slice (some ⟨gl, k, none⟩) (m + 1 : Nat) cap) := HG4.out.cell rfl
  have fz : ∀ j, w4.frozen? ⟨ge, j, none⟩ = false := fun j => HG4.out.free
  have n1 : w.heap.size + 1 ≠ ge := by omega
  have n2 : ge ≠ w.heap.size + 1 := by omega
  have a0 := HA4.out.cell (i := 0) rfl
  have a1 := HA4.out.cell (i := 1) rfl
  have a2 := HA4.out.cell (i := 2) rfl
  have z0 : w4.frozen? ⟨w.heap.size + 1, 0, none⟩ = false := HA4.out.free
  have z1 : w4.frozen? ⟨w.heap.size + 1, 1, none⟩ = false := HA4.out.free
  have z2 : w4.frozen? ⟨w.heap.size + 1, 2, none⟩ = false := HA4.out.free
  have s1 : (1 : Int) ≤ ((m + 1 : Nat) : Int) := by omega
  have s2 : ((m + 1 : Nat) : Int) ≤ (cap : Int) := by omega
  have s3 : (1 : Int) ≤ (m : Int) + 1 := by omega
  have s4 : (m : Int) + 1 ≤ (cap : Int) := by omega
  have HNK : Hid (n - (k + 1) = m) := Lib.hid (by omega)
  have HXX : Hid (∀ sv : Value, RowBlk 45 (((((w4.setCell ⟨ge, 2, none⟩ (.int .u64 (z : Int))).setCell ⟨ge, 0, none⟩ sv).setCell ⟨w.heap.size + 1, 0, none⟩ (.int .i64 0)).setCell ⟨w.heap.size + 1, 1, none⟩ (.int .u64 0)).setCell ⟨w.heap.size + 1, 2, none⟩ (.slice none 0 0)) (w.heap.size + 1) [.int .i64 0, .int .u64 0, .slice none 0 0] ∧ RowBlk 212 (((((w4.setCell ⟨ge, 2, none⟩ (.int .u64 (z : Int))).setCell ⟨ge, 0, none⟩ sv).setCell ⟨w.heap.size + 1, 0, none⟩ (.int .i64 0)).setCell ⟨w.heap.size + 1, 1, none⟩ (.int .u64 0)).setCell ⟨w.heap.size + 1, 2, none⟩ (.slice none 0 0)) ge [sv, .int .i64 (own : Int), .int .u64 (z : Int)] ∧
      MemIs 136 (((((w4.setCell ⟨ge, 2, none⟩ (.int .u64 (z : Int))).setCell ⟨ge, 0, none⟩ sv).setCell ⟨w.heap.size + 1, 0, none⟩ (.int .i64 0)).setCell ⟨w.heap.size + 1, 1, none⟩ (.int .u64 0)).setCell ⟨w.heap.size + 1, 2, none⟩ (.slice none 0 0)) bm bw l { c with r := c.r + 1 } ∧ ButS (fun b => b = bm ∨ b = bw ∨ b = ge) w (((((w4.setCell ⟨ge, 2, none⟩ (.int .u64 (z : Int))).setCell ⟨ge, 0, none⟩ sv).setCell ⟨w.heap.size + 1, 0, none⟩ (.int .i64 0)).setCell ⟨w.heap.size + 1, 1, none⟩ (.int .u64 0)).setCell ⟨w.heap.size + 1, 2, none⟩ (.slice none 0 0))) := Lib.hid (fun sv =>
    ⟨((((HA4.out.other n1 _).other n1 _).put 0 _).put 1 _).put 2 _, ((((HG4.out.put 2 _).put 0 _).other n2 _).other n2 _).other n2 _, ((((HM4.out.setNew _ _ hgm hgw).setNew _ _ hgm hgw).setNew _ _ (by omega) (by omega)).setNew _ _ (by omega) (by omega)).setNew _ _ (by omega) (by omega),
      (((((HBa.out.drew.trans (ButS.of_but HB4.out (.inl rfl) (.inr (.inl rfl)))).setCell (.inl (.inr (.inr rfl))) _).setCell (.inl (.inr (.inr rfl))) _).setCell (.inr (by show w.heap.size ≤ w.heap.size + 1; omega)) _).setCell (.inr (by show w.heap.size ≤ w.heap.size + 1; omega)) _).setCell (.inr (by show w.heap.size ≤ w.heap.size + 1; omega)) _⟩)
  clear e0 et e3
  go_wp2_with fail
  · rename_i h
    have HX := HXX.out (.slice (some ⟨gl, k, none⟩) m 0)
    generalize (((((w4.setCell ⟨ge, 2, none⟩ (.int .u64 (z : Int))).setCell ⟨ge, 0, none⟩ (.slice (some ⟨gl, k, none⟩) m 0)).setCell ⟨w.heap.size + 1, 0, none⟩ (.int .i64 0)).setCell ⟨w.heap.size + 1, 1, none⟩ (.int .u64 0)).setCell ⟨w.heap.size + 1, 2, none⟩ (.slice none 0 0)) = W5 at HX ⊢
    have q0 := HX.1.cell (i := 0) rfl
    have q1 := HX.1.cell (i := 1) rfl
    have q2 := HX.1.cell (i := 2) rfl
    refine bodyPost_ret (v := .tuple #[.agg #[.int .i64 0, .int .u64 0, .slice none 0 0], .bool false]) (by simp [results, Try.results134, go_sem, q0, q1, q2]) rfl ⟨rfl, HX.2.2.1, HX.2.2.2, (some ⟨gl, k, none⟩), 0, ?_, ?_, ?_⟩
    · have e : EntVs n (k + 1) own (max g (l.getD k 0)) (some ⟨gl, k, none⟩) 0 = [(.slice (some ⟨gl, k, none⟩) m 0), .int .i64 (own : Int), .int .u64 (z : Int)] := by unfold EntVs; rw [HNK.out, HY.out, HZ.out]
      rw [e]; exact HX.2.1
    · exact fun h2 => by have := HNK.out; omega
    · have := HNK.out; omega
  · rename_i h
    have HX := HXX.out (.slice (some ⟨gl, k + 1, none⟩) m (cap - 1))
    generalize (((((w4.setCell ⟨ge, 2, none⟩ (.int .u64 (z : Int))).setCell ⟨ge, 0, none⟩ (.slice (some ⟨gl, k + 1, none⟩) m (cap - 1))).setCell ⟨w.heap.size + 1, 0, none⟩ (.int .i64 0)).setCell ⟨w.heap.size + 1, 1, none⟩ (.int .u64 0)).setCell ⟨w.heap.size + 1, 2, none⟩ (.slice none 0 0)) = W5 at HX ⊢
    have q0 := HX.1.cell (i := 0) rfl
    have q1 := HX.1.cell (i := 1) rfl
    have q2 := HX.1.cell (i := 2) rfl
    refine bodyPost_ret (v := .tuple #[.agg #[.int .i64 0, .int .u64 0, .slice none 0 0], .bool false]) (by simp [results, Try.results134, go_sem, q0, q1, q2]) rfl ⟨rfl, HX.2.2.1, HX.2.2.2, (some ⟨gl, k + 1, none⟩), (cap - 1), ?_, ?_, ?_⟩
    · have e : EntVs n (k + 1) own (max g (l.getD k 0)) (some ⟨gl, k + 1, none⟩) (cap - 1) = [(.slice (some ⟨gl, k + 1, none⟩) m (cap - 1)), .int .i64 (own : Int), .int .u64 (z : Int)] := by unfold EntVs; rw [HNK.out, HY.out, HZ.out]
      rw [e]; exact HX.2.1
    · exact fun _ => rfl
    · have := HNK.out; omega
/-- what a step leaves that writes the phase -/
def DoorWrote (own g ge bm bw : Nat) (vs : List Value) (l : List Nat) (c : Cn) (w : World) (en : Ending) (w' : World) : Prop := en = .returned (.tuple #[.agg #[.int .i64 0, .int .u64 ((g + 1 : Nat) : Int), .slice none 0 0], .bool true]) ∧ MemIs 136 w' bm bw (l.set own (g + 1)) { c with w := c.w + 1 } ∧ ButS (fun b => b = bm ∨ b = bw ∨ b = ge) w w' ∧ RowBlk 212 w' ge vs
set_option maxRecDepth 100000 in
set_option maxHeartbeats 2000000 in
theorem door_writes (own g ge cap bm bw : Nat) (ao : Option Addr) (l : List Nat) (c : Cn) (t : Nat) (w : World) (hM : MemIs 136 w bm bw l c) (hg : RowBlk 212 w ge [.slice ao 0 cap, .int .i64 (own : Int), .int .u64 (g : Int)]) (ho : own < l.length) (hl : l.length ≤ 16) (hc : c.w < 9223372036854775807) (hgx : g ≤ 9223372036854775807) :
    Calls Try.prog 134 #[.pointer (some ⟨ge, 0, none⟩), turnAgg bm (t : Int)] w (DoorWrote own g ge bm bw [.slice ao 0 cap, .int .i64 (own : Int), .int .u64 (g : Int)] l c w) := by
  unfold turnAgg
  have hgm : ge ≠ bm := by intro e; have h1 := hg; have h2 := hM.1; unfold RowBlk at h1; rw [e, h2] at h1; simp at h1
  have hgw : ge ≠ bw := by intro e; have h1 := hg; have h2 := hM.2.1; unfold RowBlk at h1; rw [e, h2] at h1; simp at h1
  have HSW : Hid (∀ W : World, MemIs 136 W bm bw l c → Calls Try.prog 158 #[.pointer (some ⟨bm, 0, none⟩), .int .i64 (own : Int), .int .u64 ((g : Int) + 1)] W (AccPost (.tuple #[]) (.wr own (g + 1)) bm bw l c W)) := Lib.hid (fun W hW => wr_acc (i := own) (g + 1) hW ho (by omega) hc)
  have HM := Lib.hid hM
  have HG := Lib.hid hg
  have hmm := m_Write ⟨bm, 0, none⟩
  have hbm := hM.lt1
  have hbw := hM.lt2
  have hgel := hg.lt
  have c0 : w.cell? ⟨ge, 0, none⟩ = some (.slice ao 0 cap) := hg.cell rfl
  have c1 : w.cell? ⟨ge, 1, none⟩ = some (.int .i64 (own : Int)) := hg.cell rfl
  have c2 : w.cell? ⟨ge, 2, none⟩ = some (.int .u64 (g : Int)) := hg.cell rfl
  have n0 : w.heap.size ≠ w.heap.size + 1 := by omega
  clear hM hg ho hl
  go_enter Try.func134, Try.ntmps134
  go_wp2_with fail
  have HGa : Hid (RowBlk 212 ((w.alloc (.cells #[.iface 94 (.pointer (some ⟨bm, 0, none⟩)), .int .i64 (t : Int)] 110)).alloc (.cells #[.int .i64 0, .int .u64 0, .slice none 0 0] 45)) ge [.slice ao 0 cap, .int .i64 (own : Int), .int .u64 (g : Int)]) := Lib.hid ((HG.out.alloc _).alloc _)
  have HMa : Hid (MemIs 136 ((w.alloc (.cells #[.iface 94 (.pointer (some ⟨bm, 0, none⟩)), .int .i64 (t : Int)] 110)).alloc (.cells #[.int .i64 0, .int .u64 0, .slice none 0 0] 45)) bm bw l c) := Lib.hid ((HM.out.alloc _).alloc _)
  have HTa : Hid (RowBlk 110 ((w.alloc (.cells #[.iface 94 (.pointer (some ⟨bm, 0, none⟩)), .int .i64 (t : Int)] 110)).alloc (.cells #[.int .i64 0, .int .u64 0, .slice none 0 0] 45)) w.heap.size [.iface 94 (.pointer (some ⟨bm, 0, none⟩)), .int .i64 (t : Int)]) := Lib.hid ((RowBlk.new _ _ _).alloc _)
  have HAa : Hid (RowBlk 45 ((w.alloc (.cells #[.iface 94 (.pointer (some ⟨bm, 0, none⟩)), .int .i64 (t : Int)] 110)).alloc (.cells #[.int .i64 0, .int .u64 0, .slice none 0 0] 45)) (w.heap.size + 1) [.int .i64 0, .int .u64 0, .slice none 0 0]) := Lib.hid (by
    have h := RowBlk.new (w.alloc (.cells #[.iface 94 (.pointer (some ⟨bm, 0, none⟩)), .int .i64 (t : Int)] 110)) [.int .i64 0, .int .u64 0, .slice none 0 0] 45
    have e : (w.alloc (.cells #[.iface 94 (.pointer (some ⟨bm, 0, none⟩)), .int .i64 (t : Int)] 110)).heap.size = w.heap.size + 1 := by simp
    rw [e] at h; exact h)
  have HBa : Hid (ButS (fun b => b = bm ∨ b = bw ∨ b = ge) w ((w.alloc (.cells #[.iface 94 (.pointer (some ⟨bm, 0, none⟩)), .int .i64 (t : Int)] 110)).alloc (.cells #[.int .i64 0, .int .u64 0, .slice none 0 0] 45))) := Lib.hid (((ButS.refl _ _).alloc _).alloc _)
  generalize ((w.alloc (.cells #[.iface 94 (.pointer (some ⟨bm, 0, none⟩)), .int .i64 (t : Int)] 110)).alloc (.cells #[.int .i64 0, .int .u64 0, .slice none 0 0] 45)) = wa at HGa HMa HTa HAa HBa ⊢
  have d1 : wa.cell? ⟨ge, 1, none⟩ = some (.int .i64 (own : Int)) := HGa.out.cell rfl
  have t0 : wa.cell? ⟨w.heap.size, 0, none⟩ = some (.iface 94 (.pointer (some ⟨bm, 0, none⟩))) := HTa.out.cell rfl
  clear c0 c1 c2
  go_region_held3 (fun w' => w'.cell? ⟨ge, 1, none⟩ = some (.int .i64 (own : Int)) ∧ w'.cell? ⟨w.heap.size, 0, none⟩ = some (.iface 94 (.pointer (some ⟨bm, 0, none⟩))))
    (first | with_reducible exact ⟨d1, t0⟩ | go_keep)
    (first
      | (go_at_call 158
         refine (HSW.out _ HMa.out.drew).mono ?_
         rintro e w4 ⟨rfl, hM4, hB4⟩
         have hG4 := RowBlk.same HGa.out.drew (hB4.block ge HGa.out.lt hgm hgw)
         have hT4 := RowBlk.same HTa.out.drew (hB4.block w.heap.size HTa.out.lt (by omega) (by omega))
         have hA4 := RowBlk.same HAa.out.drew (hB4.block (w.heap.size + 1) HAa.out.lt (by omega) (by omega))
         have d1 : w4.cell? ⟨ge, 1, none⟩ = some (.int .i64 (own : Int)) := hG4.cell rfl
         have t0 : w4.cell? ⟨w.heap.size, 0, none⟩ = some (.iface 94 (.pointer (some ⟨bm, 0, none⟩))) := hT4.cell rfl
         have a0 := hA4.cell (i := 0) rfl
         have a1 := hA4.cell (i := 1) rfl
         have a2 := hA4.cell (i := 2) rfl
         have z0 : w4.frozen? ⟨w.heap.size + 1, 0, none⟩ = false := hA4.free
         have z1 : w4.frozen? ⟨w.heap.size + 1, 1, none⟩ = false := hA4.free
         have z2 : w4.frozen? ⟨w.heap.size + 1, 2, none⟩ = false := hA4.free
         have HG4 := Lib.hid hG4
         have HA4 := Lib.hid hA4
         have HM4 := Lib.hid hM4
         have HB4 := Lib.hid hB4
         clear hG4 hT4 hM4 hB4 hA4))
  have n1 : w.heap.size + 1 ≠ ge := by omega
  have n2 : ge ≠ w.heap.size + 1 := by omega
  have eg : ((g : Int) + 1) = ((g + 1 : Nat) : Int) := by omega
  rw [eg]
  have HX : Hid (RowBlk 45 (((w4.setCell ⟨w.heap.size + 1, 0, none⟩ (.int .i64 0)).setCell ⟨w.heap.size + 1, 1, none⟩ (.int .u64 ((g + 1 : Nat) : Int))).setCell ⟨w.heap.size + 1, 2, none⟩ (.slice none 0 0)) (w.heap.size + 1) [.int .i64 0, .int .u64 ((g + 1 : Nat) : Int), .slice none 0 0] ∧ RowBlk 212 (((w4.setCell ⟨w.heap.size + 1, 0, none⟩ (.int .i64 0)).setCell ⟨w.heap.size + 1, 1, none⟩ (.int .u64 ((g + 1 : Nat) : Int))).setCell ⟨w.heap.size + 1, 2, none⟩ (.slice none 0 0)) ge [.slice ao 0 cap, .int .i64 (own : Int), .int .u64 (g : Int)] ∧ MemIs 136 (((w4.setCell ⟨w.heap.size + 1, 0, none⟩ (.int .i64 0)).setCell ⟨w.heap.size + 1, 1, none⟩ (.int .u64 ((g + 1 : Nat) : Int))).setCell ⟨w.heap.size + 1, 2, none⟩ (.slice none 0 0)) bm bw (l.set own (g + 1)) { c with w := c.w + 1 } ∧ ButS (fun b => b = bm ∨ b = bw ∨ b = ge) w (((w4.setCell ⟨w.heap.size + 1, 0, none⟩ (.int .i64 0)).setCell ⟨w.heap.size + 1, 1, none⟩ (.int .u64 ((g + 1 : Nat) : Int))).setCell ⟨w.heap.size + 1, 2, none⟩ (.slice none 0 0))) := Lib.hid
    ⟨((HA4.out.put 0 _).put 1 _).put 2 _, ((HG4.out.other n2 _).other n2 _).other n2 _, ((HM4.out.setNew _ _ (by omega) (by omega)).setNew _ _ (by omega) (by omega)).setNew _ _ (by omega) (by omega),
      (((HBa.out.drew.trans (ButS.of_but HB4.out (.inl rfl) (.inr (.inl rfl)))).setCell (.inr (by show w.heap.size ≤ w.heap.size + 1; omega)) _).setCell (.inr (by show w.heap.size ≤ w.heap.size + 1; omega)) _).setCell (.inr (by show w.heap.size ≤ w.heap.size + 1; omega)) _⟩
  clear eg
  generalize hG1 : ((g + 1 : Nat) : Int) = G1 at HX ⊢
  have HG1 := Lib.hid hG1
  clear hG1
  go_wp2_with fail
  generalize (((w4.setCell ⟨w.heap.size + 1, 0, none⟩ (.int .i64 0)).setCell ⟨w.heap.size + 1, 1, none⟩ (.int .u64 G1)).setCell ⟨w.heap.size + 1, 2, none⟩ (.slice none 0 0)) = W5 at HX ⊢
  have q0 := HX.out.1.cell (i := 0) rfl
  have q1 := HX.out.1.cell (i := 1) rfl
  have q2 := HX.out.1.cell (i := 2) rfl
  exact bodyPost_ret (v := .tuple #[.agg #[.int .i64 0, .int .u64 G1, .slice none 0 0], .bool true]) (by simp [results, Try.results134, go_sem, q0, q1, q2]) rfl ⟨by rw [HG1.out], HX.out.2.2.1, HX.out.2.2.2, HX.out.2.1⟩
end Go.Proofs.Ytcedfcdhdgmelaa
