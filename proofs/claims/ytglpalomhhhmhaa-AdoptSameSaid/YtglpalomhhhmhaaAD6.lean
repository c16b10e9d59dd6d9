/- Walks of adopters: the step that takes a mark. -/
import Derived.Test.YtglpalomhhhmhaaAD5
import Derived.Test.YtglpalomhhhmhaaK7
import Derived.Deep.AppendLies
namespace Go.Proofs.Ytglpalomhhhmhaa
open Go.ChangeShapes Go.WideShapes Go.ChangeAt Go.RowKit
set_option linter.unusedVariables false
set_option linter.unusedSimpArgs false
theorem owns_blkT {w : World} {B sz n k : Nat} {e : TypeId} {v : Value} {xs : List Value} (h : w.ownsRow B e sz v n xs) (hk : v.ownBlock = some k) : BlkT w k e := by
  obtain ⟨_, ⟨rfl, _⟩ | ⟨g, cap, cur, rfl, _, hh, _⟩⟩ := h
  · cases hk
  · cases hk; exact ⟨cur, hh⟩
theorem owns_words {w : World} {B g cap : Nat} {l : List Nat} (h : w.ownsRow B 37 1 (.slice (some ⟨g, 0, none⟩) l.length cap) l.length (l.map mkU)) : WordsAt w g l := fun i x hx => by
  obtain ⟨_, ⟨h0, _⟩ | ⟨g', cap', cur, e, _, hh, h2, h3, h4, h5⟩⟩ := h
  · cases h0
  · cases e
    rw [cell_of_row w g i cur _ (0, 0) hh]
    have hi := (List.getElem?_eq_some_iff.1 hx).1
    have h6 : (cur.toList.take (l.length * 1))[i]? = (l.map mkU)[i]? := by rw [h5]
    rw [List.getElem?_take_of_lt (by omega), List.getElem?_map, hx] at h6
    simpa [mkU] using h6
/-- a step that takes a mark -/
def AdTook (n bo g bm bw th num stp : Nat) (oth : Bool) (sv : Value) (ws : List Nat) (r : Nat) (av : Option Nat) (l : List Nat) (c : Cn) (w : World) (en : Ending) (w' : World) : Prop :=
  (match av with
    | none => en = .returned (.tuple #[.agg #[.int .i64 0, .int .u64 0, .slice none 0 0], .bool false])
    | some y => en = .returned (.tuple #[.agg #[.int .i64 0, .int .u64 (y : Int), .slice none 0 0], .bool true])) ∧
  MemIs 108 w' bm bw l c ∧ ButS (fun b => b = bm ∨ b = bw ∨ (b = g ∨ sv.ownBlock = some b)) w w' ∧
  ∃ gl cap, RowBlk 163 w' g (AdVs n bo th num stp oth (.slice (some ⟨gl, 0, none⟩) (ws.length + 1) cap)) ∧ w'.ownsRow 0 37 1 (.slice (some ⟨gl, 0, none⟩) (ws.length + 1) cap) (ws.length + 1) ((ws ++ [r]).map mkU) ∧ (sv.ownBlock = some gl ∨ w.heap.size ≤ gl) ∧ gl < w'.heap.size
set_option maxRecDepth 100000 in
set_option maxHeartbeats 4000000 in
theorem ad_s3M (n bo g bm bw th num k r : Nat) (oth : Bool) (ao : Option Addr) (cp : Nat) (ws : List Nat) (l : List Nat) (c : Cn) (t : Nat) (w : World) (hM : MemIs 108 w bm bw l c) (hg : RowBlk 163 w g (AdVs n bo th num k oth (.slice ao ws.length cp))) (hn : 1 ≤ n ∧ n ≤ 16) (hth : th < n) (hnum : num < 4294967296) (hlen : l.length = 2 * n) (hl : l.length ≤ 65536) (ho : w.ownsRow 0 37 1 (.slice ao ws.length cp) ws.length (ws.map mkU)) (hob : ∀ b, (.slice ao ws.length cp : Value).ownBlock = some b → b ≠ bw) (hk : k = n + 2 + ws.length) (hj : ws.length < n) (hjl : ¬ ws.length + 1 = n) (hc : c.r < 9223372036854775807) (hr : l.getD (n + ws.length) 0 = r) : Calls Try.prog 75 #[.pointer (some ⟨g, 0, none⟩), turnAgg bm (t : Int)] w (AdTook n bo g bm bw th num (k + 1) oth (.slice ao ws.length cp) ws r none ((Acc.rd (n + ws.length)).run l c).2.1 ((Acc.rd (n + ws.length)).run l c).2.2 w) := by
  unfold AdVs at hg
  have hgm : g ≠ bm := by intro e; have h1 := hg; have h2 := hM.1; unfold RowBlk at h1; rw [e, h2] at h1; simp at h1
  have hgw : g ≠ bw := by intro e; have h1 := hg; have h2 := hM.2.1; unfold RowBlk at h1; rw [e, h2] at h1; simp at h1
  have hwk : IntKind.i64.wrap ((k : Int) + 1) = (k : Int) + 1 := by unfold IntKind.wrap; simp [IntKind.bits, IntKind.signed]; omega
  have hw1 : IntKind.i64.wrap ((n : Int) + 1) = (n : Int) + 1 := by unfold IntKind.wrap; simp [IntKind.bits, IntKind.signed]; omega
  have hk0 : ¬ (k : Int) = 0 := by omega
  have hk0b : ((k : Int) == 0) = false := by rw [beq_eq_false_iff_ne]; exact hk0
  have hk0c : decide ((k : Int) = 0) = false := decide_eq_false hk0
  obtain ⟨iU, ua, ub, uc, ud⟩ := info_parts info22
  have HOG : Hid ((.slice ao ws.length cp : Value).ownBlock ≠ some g) := Lib.hid (row_owns_ne hg ho (by decide))
  have HOM : Hid ((.slice ao ws.length cp : Value).ownBlock ≠ some bm) := Lib.hid (fun e => by obtain ⟨cur, h1⟩ := owns_blkT ho e; rw [hM.1] at h1; simp at h1)
  have HOW : Hid ((.slice ao ws.length cp : Value).ownBlock ≠ some bw) := Lib.hid (fun e => hob _ e rfl)
  have HOL : Hid (∀ k, (.slice ao ws.length cp : Value).ownBlock = some k → k < w.heap.size) := Lib.hid (fun k e => (owns_blkT ho e).lt)
  have hlen16 : ws.length < 16 := by omega
  have hkn : ¬ (k : Int) = (n : Int) + 1 := by omega
  have hk1 : ¬ (k : Int) < (n : Int) + 1 := by omega
  have hk2 : ((k : Int) == (n : Int) + 1) = false := by rw [beq_eq_false_iff_ne]; exact hkn
  have hk3 : decide ((k : Int) = (n : Int) + 1) = false := decide_eq_false hkn
  have hk4 : decide ((k : Int) < (n : Int) + 1) = false := decide_eq_false hk1
  obtain ⟨a1, ha1⟩ : ∃ a1, n + k = a1 := ⟨_, rfl⟩
  obtain ⟨a2, ha2⟩ : ∃ a2, a1 - (n + 1) = a2 := ⟨_, rfl⟩
  obtain ⟨am, ham⟩ : ∃ am, n + ws.length = am := ⟨_, rfl⟩
  have hwa1 : IntKind.i64.wrap ((n : Int) + (k : Int)) = (a1 : Int) := by unfold IntKind.wrap; simp [IntKind.bits, IntKind.signed]; omega
  have hwa2 : IntKind.i64.wrap ((a1 : Int) - ((n : Int) + 1)) = (a2 : Int) := by unfold IntKind.wrap; simp [IntKind.bits, IntKind.signed]; omega
  have hwa3 : IntKind.i64.wrap ((a2 : Int) - 1) = (am : Int) := by unfold IntKind.wrap; simp [IntKind.bits, IntKind.signed]; omega
  have hamn : am < 2 * n := by omega
  rw [ham] at hr ⊢
  have HJL : Hid (¬ ws.length + 1 = n) := Lib.hid hjl
  have HO := Lib.hid ho
  obtain ⟨L2, hL2⟩ : ∃ L2, ((Acc.rd am).run l c).2.1 = L2 := ⟨_, rfl⟩
  obtain ⟨C2, hC2⟩ : ∃ C2, ((Acc.rd am).run l c).2.2 = C2 := ⟨_, rfl⟩
  have HSW : Hid (∀ W : World, MemIs 108 W bm bw l c → Calls Try.prog 86 #[.pointer (some ⟨bm, 0, none⟩), .int .i64 (am : Int)] W fun e w' => e = .returned (.int .u64 (r : Int)) ∧ MemIs 108 w' bm bw L2 C2 ∧ But bm bw W w') := Lib.hid (fun W hW => by
    have h := rd_acc (i := am) hW (by omega) hl hc
    unfold AccPost at h
    rw [hL2, hC2, hr] at h
    exact h)
  rw [hL2, hC2]
  clear hkn ha1 ha2 ham hr hob hk hjl ho
  have HM := Lib.hid hM
  have HG : Hid (RowBlk 163 w g [.int .i64 (n : Int), .int .i64 0, .int .i64 (n : Int), .slice (some ⟨bo, 0, none⟩) n n, .int .i64 (th : Int), .int .u64 (num : Int), .int .i64 ((k : Int)), .bool oth, .slice ao ws.length cp]) := Lib.hid hg
  have hmm := m_Read ⟨bm, 0, none⟩
  have hbm := hM.lt1
  have hbw := hM.lt2
  have hgl := hg.lt
  unfold turnAgg
  clear hM hg
  go_enter Try.func75, Try.ntmps75
  go_upto_region 1 with fail
  have HMa : Hid (MemIs 108 ((w.alloc (.cells #[.iface 71 (.pointer (some ⟨bm, 0, none⟩)), .int .i64 (t : Int)] 87)).alloc (.cells #[.int .i64 0, .int .u64 0, .slice none 0 0] 39)) bm bw l c) := Lib.hid ((HM.out.alloc _).alloc _)
  have HTa : Hid (RowBlk 87 ((w.alloc (.cells #[.iface 71 (.pointer (some ⟨bm, 0, none⟩)), .int .i64 (t : Int)] 87)).alloc (.cells #[.int .i64 0, .int .u64 0, .slice none 0 0] 39)) w.heap.size [.iface 71 (.pointer (some ⟨bm, 0, none⟩)), .int .i64 (t : Int)]) := Lib.hid ((RowBlk.new w [.iface 71 (.pointer (some ⟨bm, 0, none⟩)), .int .i64 (t : Int)] 87).alloc _)
  have HAa : Hid (RowBlk 39 ((w.alloc (.cells #[.iface 71 (.pointer (some ⟨bm, 0, none⟩)), .int .i64 (t : Int)] 87)).alloc (.cells #[.int .i64 0, .int .u64 0, .slice none 0 0] 39)) (w.heap.size + 1) [.int .i64 0, .int .u64 0, .slice none 0 0]) := Lib.hid (by
    have h := RowBlk.new (w.alloc (.cells #[.iface 71 (.pointer (some ⟨bm, 0, none⟩)), .int .i64 (t : Int)] 87)) [.int .i64 0, .int .u64 0, .slice none 0 0] 39
    have e : (w.alloc (.cells #[.iface 71 (.pointer (some ⟨bm, 0, none⟩)), .int .i64 (t : Int)] 87)).heap.size = w.heap.size + 1 := by simp
    rw [e] at h; exact h)
  have HBa : Hid (ButS (fun b => b = bm ∨ b = bw ∨ (b = g ∨ (.slice ao ws.length cp : Value).ownBlock = some b)) w ((w.alloc (.cells #[.iface 71 (.pointer (some ⟨bm, 0, none⟩)), .int .i64 (t : Int)] 87)).alloc (.cells #[.int .i64 0, .int .u64 0, .slice none 0 0] 39))) := Lib.hid (((ButS.refl _ _).alloc _).alloc _)
  have HZa : Hid (((w.alloc (.cells #[.iface 71 (.pointer (some ⟨bm, 0, none⟩)), .int .i64 (t : Int)] 87)).alloc (.cells #[.int .i64 0, .int .u64 0, .slice none 0 0] 39)).heap.size = w.heap.size + 2) := Lib.hid (by simp)
  have HGa : Hid (RowBlk 163 ((w.alloc (.cells #[.iface 71 (.pointer (some ⟨bm, 0, none⟩)), .int .i64 (t : Int)] 87)).alloc (.cells #[.int .i64 0, .int .u64 0, .slice none 0 0] 39)) g [.int .i64 (n : Int), .int .i64 0, .int .i64 (n : Int), .slice (some ⟨bo, 0, none⟩) n n, .int .i64 (th : Int), .int .u64 (num : Int), .int .i64 ((k : Int)), .bool oth, .slice ao ws.length cp]) := Lib.hid ((HG.out.alloc _).alloc _)
  have HOa : Hid (((w.alloc (.cells #[.iface 71 (.pointer (some ⟨bm, 0, none⟩)), .int .i64 (t : Int)] 87)).alloc (.cells #[.int .i64 0, .int .u64 0, .slice none 0 0] 39)).ownsRow 0 37 1 (.slice ao ws.length cp) ws.length (ws.map mkU)) := Lib.hid ((HO.out.alloc _).alloc _)
  generalize ((w.alloc (.cells #[.iface 71 (.pointer (some ⟨bm, 0, none⟩)), .int .i64 (t : Int)] 87)).alloc (.cells #[.int .i64 0, .int .u64 0, .slice none 0 0] 39)) = wa at HMa HTa HAa HBa HZa HGa HOa ⊢
  have t0 : wa.cell? ⟨w.heap.size, 0, none⟩ = some (.iface 71 (.pointer (some ⟨bm, 0, none⟩))) := HTa.out.cell rfl
  have g0 : wa.cell? ⟨g, 0, none⟩ = some (.int .i64 (n : Int)) := HGa.out.cell rfl
  have g1 : wa.cell? ⟨g, 1, none⟩ = some (.int .i64 0) := HGa.out.cell rfl
  have g2 : wa.cell? ⟨g, 2, none⟩ = some (.int .i64 (n : Int)) := HGa.out.cell rfl
  have g4 : wa.cell? ⟨g, 4, none⟩ = some (.int .i64 (th : Int)) := HGa.out.cell rfl
  have g5 : wa.cell? ⟨g, 5, none⟩ = some (.int .u64 (num : Int)) := HGa.out.cell rfl
  have g6 : wa.cell? ⟨g, 6, none⟩ = some (.int .i64 ((k : Int))) := HGa.out.cell rfl
  have g7 : wa.cell? ⟨g, 7, none⟩ = some (.bool oth) := HGa.out.cell rfl
  have g8 : wa.cell? ⟨g, 8, none⟩ = some (.slice ao ws.length cp) := HGa.out.cell rfl
  go_quiet (fail)
  have HMb := Lib.hid (HMa.out.drewN nq)
  have HTb := Lib.hid (HTa.out.drewN nq)
  have HAb := Lib.hid (HAa.out.drewN nq)
  have HGb := Lib.hid (HGa.out.drewN nq)
  have HBb := Lib.hid (HBa.out.drewN nq)
  have HZb : Hid ((wa.drewN nq).heap.size = w.heap.size + 2) := Lib.hid HZa.out
  have HOb : Hid ((wa.drewN nq).ownsRow 0 37 1 (.slice ao ws.length cp) ws.length (ws.map mkU)) := Lib.hid (owns_sameB HOa.out (fun k hk => rfl))
  generalize wa.drewN nq = wb at HOb HMb HTb HAb HGb HBb HZb ⊢
  clear t0 g0 g1 g2 g4 g5 g6 g7 g8
  have t0 : wb.cell? ⟨w.heap.size, 0, none⟩ = some (.iface 71 (.pointer (some ⟨bm, 0, none⟩))) := HTb.out.cell rfl
  have g0 : wb.cell? ⟨g, 0, none⟩ = some (.int .i64 (n : Int)) := HGb.out.cell rfl
  have g1 : wb.cell? ⟨g, 1, none⟩ = some (.int .i64 0) := HGb.out.cell rfl
  have g2 : wb.cell? ⟨g, 2, none⟩ = some (.int .i64 (n : Int)) := HGb.out.cell rfl
  have g4 : wb.cell? ⟨g, 4, none⟩ = some (.int .i64 (th : Int)) := HGb.out.cell rfl
  have g5 : wb.cell? ⟨g, 5, none⟩ = some (.int .u64 (num : Int)) := HGb.out.cell rfl
  have g6 : wb.cell? ⟨g, 6, none⟩ = some (.int .i64 ((k : Int))) := HGb.out.cell rfl
  have g7 : wb.cell? ⟨g, 7, none⟩ = some (.bool oth) := HGb.out.cell rfl
  have g8 : wb.cell? ⟨g, 8, none⟩ = some (.slice ao ws.length cp) := HGb.out.cell rfl
  have fzb : ∀ j, wb.frozen? ⟨g, j, none⟩ = false := fun j => HGb.out.free
  have HMc : Hid (MemIs 108 (wb.setCell ⟨g, 6, none⟩ (.int .i64 ((k : Int) + 1))) bm bw l c) := Lib.hid (HMb.out.setNew _ _ hgm hgw)
  have HTc : Hid (RowBlk 87 (wb.setCell ⟨g, 6, none⟩ (.int .i64 ((k : Int) + 1))) w.heap.size [.iface 71 (.pointer (some ⟨bm, 0, none⟩)), .int .i64 (t : Int)]) := Lib.hid (HTb.out.other (a := ⟨g, 6, none⟩) (show w.heap.size ≠ g by omega) _)
  have HAc : Hid (RowBlk 39 (wb.setCell ⟨g, 6, none⟩ (.int .i64 ((k : Int) + 1))) (w.heap.size + 1) [.int .i64 0, .int .u64 0, .slice none 0 0]) := Lib.hid (HAb.out.other (a := ⟨g, 6, none⟩) (show w.heap.size + 1 ≠ g by omega) _)
  have HGc : Hid (RowBlk 163 (wb.setCell ⟨g, 6, none⟩ (.int .i64 ((k : Int) + 1))) g [.int .i64 (n : Int), .int .i64 0, .int .i64 (n : Int), .slice (some ⟨bo, 0, none⟩) n n, .int .i64 (th : Int), .int .u64 (num : Int), .int .i64 ((k : Int) + 1), .bool oth, .slice ao ws.length cp]) := Lib.hid (HGb.out.put 6 _)
  have HBc : Hid (ButS (fun b => b = bm ∨ b = bw ∨ (b = g ∨ (.slice ao ws.length cp : Value).ownBlock = some b)) w (wb.setCell ⟨g, 6, none⟩ (.int .i64 ((k : Int) + 1)))) := Lib.hid (HBb.out.setCell (x := ⟨g, 6, none⟩) (.inl (.inr (.inr (.inl rfl)))) _)
  have HZc : Hid ((wb.setCell ⟨g, 6, none⟩ (.int .i64 ((k : Int) + 1))).heap.size = w.heap.size + 2) := Lib.hid (by have := HZb.out; simpa [World.setCell] using this)
  have HOc : Hid ((wb.setCell ⟨g, 6, none⟩ (.int .i64 ((k : Int) + 1))).ownsRow 0 37 1 (.slice ao ws.length cp) ws.length (ws.map mkU)) := Lib.hid (owns_sameB HOb.out (fun k hk => heap_far (fun e => HOG.out (e ▸ hk))))
  go_upto_region 4 with fail
  generalize wb.setCell ⟨g, 6, none⟩ (.int .i64 ((k : Int) + 1)) = wc at HOc HMc HTc HAc HGc HBc HZc ⊢
  clear t0 g0 g1 g2 g4 g5 g6 g7 g8 fzb
  have t0 : wc.cell? ⟨w.heap.size, 0, none⟩ = some (.iface 71 (.pointer (some ⟨bm, 0, none⟩))) := HTc.out.cell rfl
  have g0 : wc.cell? ⟨g, 0, none⟩ = some (.int .i64 (n : Int)) := HGc.out.cell rfl
  have g1 : wc.cell? ⟨g, 1, none⟩ = some (.int .i64 0) := HGc.out.cell rfl
  have g2 : wc.cell? ⟨g, 2, none⟩ = some (.int .i64 (n : Int)) := HGc.out.cell rfl
  have g4 : wc.cell? ⟨g, 4, none⟩ = some (.int .i64 (th : Int)) := HGc.out.cell rfl
  have g5 : wc.cell? ⟨g, 5, none⟩ = some (.int .u64 (num : Int)) := HGc.out.cell rfl
  have g6 : wc.cell? ⟨g, 6, none⟩ = some (.int .i64 ((k : Int) + 1)) := HGc.out.cell rfl
  have g7 : wc.cell? ⟨g, 7, none⟩ = some (.bool oth) := HGc.out.cell rfl
  have g8 : wc.cell? ⟨g, 8, none⟩ = some (.slice ao ws.length cp) := HGc.out.cell rfl
  go_upto_region 5 with fail
  clear g0 g1 g2 g4 g5 g6 g7 hwk
  refine wp_region_tail (S := (fun w' => w'.cell? ⟨w.heap.size, 0, none⟩ = some (.iface 71 (.pointer (some ⟨bm, 0, none⟩))) ∧ w'.cell? ⟨g, 8, none⟩ = some (.slice ao ws.length cp))) 16 (by kernel_rfl) (by kernel_rfl) ?_ (fun hHeld => ?_)
  · first | with_reducible exact ⟨t0, g8⟩ | go_keep
  simp only [List.take_succ_cons, List.take_zero]
  refine wpAnyH_take (i := 0) (oi := _) (v := ?v0) rfl (by kernel_rfl) (by kernel_rfl) (by kernel_rfl) (fun _ _ _ h => h) (Or.inl ⟨by kernel_rfl, ?vy0⟩) (by assumption) ?vr0
  case vy0 => (intro w hSw; (try dsimp only at hSw); go_simp <;> with_reducible rfl)
  try simp only [Act.put, List.getElem_toArray, List.getElem_cons_zero, List.getElem_cons_succ, List.setIfInBounds_toArray, List.set_cons_zero, List.set_cons_succ]
  refine wpAnyH_take (i := 1) (oi := _) (v := ?v1) rfl (by kernel_rfl) (by kernel_rfl) (by kernel_rfl) (fun _ _ _ h => h) (Or.inl ⟨by kernel_rfl, ?vy1⟩) (by assumption) ?vr1
  case vy1 => (intro w hSw; (try dsimp only at hSw); go_simp <;> with_reducible rfl)
  try simp only [Act.put, List.getElem_toArray, List.getElem_cons_zero, List.getElem_cons_succ, List.setIfInBounds_toArray, List.set_cons_zero, List.set_cons_succ]
  refine wpAnyH_take (i := 2) (oi := _) (v := ?v2) rfl (by kernel_rfl) (by kernel_rfl) (by kernel_rfl) (fun _ _ _ h => h) (Or.inl ⟨by kernel_rfl, ?vy2⟩) (by assumption) ?vr2
  case vy2 => (intro w hSw; (try dsimp only at hSw); go_simp <;> with_reducible rfl)
  try simp only [Act.put, List.getElem_toArray, List.getElem_cons_zero, List.getElem_cons_succ, List.setIfInBounds_toArray, List.set_cons_zero, List.set_cons_succ]
  refine wpAnyH_take (i := 3) (oi := _) (v := ?v3) rfl (by kernel_rfl) (by kernel_rfl) (by kernel_rfl) (fun _ _ _ h => h) (Or.inl ⟨by kernel_rfl, ?vy3⟩) (by assumption) ?vr3
  case vy3 => (intro w hSw; (try dsimp only at hSw); go_simp <;> with_reducible rfl)
  try simp only [Act.put, List.getElem_toArray, List.getElem_cons_zero, List.getElem_cons_succ, List.setIfInBounds_toArray, List.set_cons_zero, List.set_cons_succ]
  refine wpAnyH_take (i := 4) (oi := _) (v := ?v4) rfl (by kernel_rfl) (by kernel_rfl) (by kernel_rfl) (fun _ _ _ h => h) (Or.inl ⟨by kernel_rfl, ?vy4⟩) (by assumption) ?vr4
  case vy4 => (intro w hSw; (try dsimp only at hSw); go_simp <;> with_reducible rfl)
  try simp only [Act.put, List.getElem_toArray, List.getElem_cons_zero, List.getElem_cons_succ, List.setIfInBounds_toArray, List.set_cons_zero, List.set_cons_succ]
  refine wpAnyH_take (i := 5) (oi := _) (v := ?v5) rfl (by kernel_rfl) (by kernel_rfl) (by kernel_rfl) (fun _ _ _ h => h) (Or.inl ⟨by kernel_rfl, ?vy5⟩) (by assumption) ?vr5
  case vy5 => (intro w hSw; (try dsimp only at hSw); go_simp <;> with_reducible rfl)
  try simp only [Act.put, List.getElem_toArray, List.getElem_cons_zero, List.getElem_cons_succ, List.setIfInBounds_toArray, List.set_cons_zero, List.set_cons_succ]
  refine wpAnyH_take (i := 6) (oi := _) (v := ?v6) rfl (by kernel_rfl) (by kernel_rfl) (by kernel_rfl) (fun _ _ _ h => h) (Or.inl ⟨by kernel_rfl, ?vy6⟩) (by assumption) ?vr6
  case vy6 => (intro w hSw; (try dsimp only at hSw); go_simp <;> with_reducible rfl)
  try simp only [Act.put, List.getElem_toArray, List.getElem_cons_zero, List.getElem_cons_succ, List.setIfInBounds_toArray, List.set_cons_zero, List.set_cons_succ]
  refine wpAnyH_take (i := 7) (oi := _) (v := ?v7) rfl (by kernel_rfl) (by kernel_rfl) (by kernel_rfl) (fun _ _ _ h => h) (Or.inl ⟨by kernel_rfl, ?vy7⟩) (by assumption) ?vr7
  case vy7 => (intro w hSw; (try dsimp only at hSw); go_simp <;> with_reducible rfl)
  try simp only [Act.put, List.getElem_toArray, List.getElem_cons_zero, List.getElem_cons_succ, List.setIfInBounds_toArray, List.set_cons_zero, List.set_cons_succ]
  refine wpAnyH_take (i := 8) (oi := _) (v := ?v8) rfl (by kernel_rfl) (by kernel_rfl) (by kernel_rfl) (fun _ _ _ h => h) (Or.inl ⟨by kernel_rfl, ?vy8⟩) (by assumption) ?vr8
  case vy8 => (intro w hSw; (try dsimp only at hSw); go_simp <;> with_reducible rfl)
  try simp only [Act.put, List.getElem_toArray, List.getElem_cons_zero, List.getElem_cons_succ, List.setIfInBounds_toArray, List.set_cons_zero, List.set_cons_succ]
  refine wpAnyH_take (i := 9) (oi := _) (v := ?v9) rfl (by kernel_rfl) (by kernel_rfl) (by kernel_rfl) (fun _ _ _ h => h) (Or.inl ⟨by kernel_rfl, ?vy9⟩) (by assumption) ?vr9
  case vy9 => (intro w hSw; (try dsimp only at hSw); go_simp <;> with_reducible rfl)
  try simp only [Act.put, List.getElem_toArray, List.getElem_cons_zero, List.getElem_cons_succ, List.setIfInBounds_toArray, List.set_cons_zero, List.set_cons_succ]
  refine wpAnyH_take (i := 10) (oi := _) (v := ?v10) rfl (by kernel_rfl) (by kernel_rfl) (by kernel_rfl) (fun _ _ _ h => h) (Or.inl ⟨by kernel_rfl, ?vy10⟩) (by assumption) ?vr10
  case vy10 => (intro w hSw; (try dsimp only at hSw); go_simp <;> with_reducible rfl)
  try simp only [Act.put, List.getElem_toArray, List.getElem_cons_zero, List.getElem_cons_succ, List.setIfInBounds_toArray, List.set_cons_zero, List.set_cons_succ]
  refine wpAnyH_take (i := 11) (oi := _) (v := ?v11) rfl (by kernel_rfl) (by kernel_rfl) (by kernel_rfl) (fun _ _ _ h => h) (Or.inl ⟨by kernel_rfl, ?vy11⟩) (by assumption) ?vr11
  case vy11 => (intro w hSw; (try dsimp only at hSw); go_simp <;> with_reducible rfl)
  try simp only [Act.put, List.getElem_toArray, List.getElem_cons_zero, List.getElem_cons_succ, List.setIfInBounds_toArray, List.set_cons_zero, List.set_cons_succ]
  refine wpAnyH_take (i := 12) (oi := _) (v := ?v12) rfl (by kernel_rfl) (by kernel_rfl) (by kernel_rfl) (fun _ _ _ h => h) (Or.inl ⟨by kernel_rfl, ?vy12⟩) (by assumption) ?vr12
  case vy12 => (intro w hSw; (try dsimp only at hSw); go_simp <;> with_reducible rfl)
  try simp only [Act.put, List.getElem_toArray, List.getElem_cons_zero, List.getElem_cons_succ, List.setIfInBounds_toArray, List.set_cons_zero, List.set_cons_succ]
  refine wpAnyH_ready (rs := [13]) (by kernel_rfl) (by simp) ?_
  refine AllReadyH.cons (o := _) rfl (fun K hK => ?_) AllReadyH.nil
  go_simp
  go_at_call 86
  refine (HSW.out _ (HMc.out.drewN _)).mono ?_
  rintro e w4 ⟨rfl, hM4, hB4⟩
  have HG4 := Lib.hid ((HGc.out.drewN _).same (hB4.block (g) HGc.out.lt hgm hgw))
  have HT4 := Lib.hid ((HTc.out.drewN _).same (hB4.block (w.heap.size) HTc.out.lt (by omega) (by omega)))
  have HA4 := Lib.hid ((HAc.out.drewN _).same (hB4.block (w.heap.size + 1) HAc.out.lt (by omega) (by omega)))
  have HM4 := Lib.hid hM4
  have HB4 : Hid (ButS (fun b => b = bm ∨ b = bw ∨ (b = g ∨ (.slice ao ws.length cp : Value).ownBlock = some b)) w w4) := Lib.hid ((HBc.out.drewN _).trans (ButS.of_but hB4 (.inl rfl) (.inr (.inl rfl))))
  have HO4 : Hid (w4.ownsRow 0 37 1 (.slice ao ws.length cp) ws.length (ws.map mkU)) := Lib.hid (owns_sameB HOc.out (fun k hk => hB4.block k (Nat.lt_of_lt_of_le (HOL.out k hk) (by have := HZc.out; show w.heap.size ≤ wc.heap.size; omega)) (fun h => HOM.out (h ▸ hk)) (fun h => HOW.out (h ▸ hk))))
  have HS4 : Hid (w.heap.size + 2 ≤ w4.heap.size) := Lib.hid (by have h1 := HZc.out; have h2 : wc.heap.size ≤ w4.heap.size := hB4.size; omega)
  have g8b : (w4.alloc (.cells #[.int .u64 (r : Int)] 37)).cell? ⟨g, 8, none⟩ = some (.slice ao ws.length cp) := (HG4.out.alloc _).cell rfl
  have t0 : w4.cell? ⟨w.heap.size, 0, none⟩ = some (.iface 71 (.pointer (some ⟨bm, 0, none⟩))) := HT4.out.cell rfl
  have g8 : w4.cell? ⟨g, 8, none⟩ = some (.slice ao ws.length cp) := HG4.out.cell rfl
  clear hM4 hB4
  refine hK.out _ _ ?_ (fun hHeld13 => ?_)
  · first | with_reducible exact ⟨t0, g8⟩ | go_keep
  clear hK K hHeld
  try simp only [Act.put, List.getElem_toArray, List.getElem_cons_zero, List.getElem_cons_succ, List.setIfInBounds_toArray, List.set_cons_zero, List.set_cons_succ]
  refine wpAnyH_ready (rs := [14]) (by kernel_rfl) (by simp) ?_
  refine AllReadyH.cons (o := _) rfl (fun K hK => ?_) AllReadyH.nil
  go_simp
  refine hK.out _ _ ?_ (fun hHeld14 => ?_)
  · first | with_reducible exact ⟨t0, g8⟩ | exact ⟨(HT4.out.alloc _).cell rfl, (HG4.out.alloc _).cell rfl⟩ | go_keep
  clear hK K hHeld13
  try simp only [Act.put, List.getElem_toArray, List.getElem_cons_zero, List.getElem_cons_succ, List.setIfInBounds_toArray, List.set_cons_zero, List.set_cons_succ]
  refine wpAnyH_ready (rs := [15]) (by kernel_rfl) (by simp) ?_
  refine AllReadyH.cons (o := _) rfl (fun K hK => ?_) AllReadyH.nil
  refine step_append_lies (w4.alloc (.cells #[.int .u64 (r : Int)] 37)) rfl _ _ 27 rfl 0 37 iU (.int .u64 0) 1 8 Try.underlying27 ua ub uc ud rfl (by decide) (.slice ao ws.length cp) ws.length (ws.map mkU) rfl (HO4.out.alloc _) ⟨w4.heap.size, 0, none⟩ 1 1 [.int .u64 (r : Int)] rfl rfl (cell_one_new w4 _ _) (by intro u hu; rw [List.mem_singleton] at hu; subst hu; rfl) (by decide) (by unfold maxLen; omega) (by omega) (Nat.zero_le _) (w4.heap.size + 1) (by simp) ?_
  intro gl cap w5 ho5 hg5 hat5 hl5
  have hS4 := HS4.out
  have hblk : ∀ k, k < w4.heap.size → (.slice ao ws.length cp : Value).ownBlock ≠ some k → w5.heap[k]? = (w4.alloc (.cells #[.int .u64 (r : Int)] 37)).heap[k]? := fun k hk hne => hg5.block k (by simp; omega) (fun e => hne e.symm)
  have HG5 := Lib.hid ((HG4.out.alloc (.cells #[.int .u64 (r : Int)] 37)).same (hblk g HG4.out.lt HOG.out))
  have HT5 := Lib.hid ((HT4.out.alloc (.cells #[.int .u64 (r : Int)] 37)).same (hblk w.heap.size HT4.out.lt (fun e => by have := HOL.out _ e; omega)))
  have HA5 := Lib.hid ((HA4.out.alloc (.cells #[.int .u64 (r : Int)] 37)).same (hblk (w.heap.size + 1) HA4.out.lt (fun e => by have := HOL.out _ e; omega)))
  have HM5 := Lib.hid ((HM4.out.alloc (.cells #[.int .u64 (r : Int)] 37)).of_blocks (hblk bm HM4.out.lt1 HOM.out) (hblk bw HM4.out.lt2 HOW.out))
  have HB5 : Hid (ButS (fun b => b = bm ∨ b = bw ∨ (b = g ∨ (.slice ao ws.length cp : Value).ownBlock = some b)) w w5) := Lib.hid ((HB4.out.alloc _).trans (ButS.of_grown hg5 (fun k hk => .inr (.inr (.inr hk)))))
  have HO5 : Hid (w5.ownsRow 0 37 1 (.slice (some ⟨gl, 0, none⟩) (ws.length + 1) cap) (ws.length + 1) ((ws ++ [r]).map mkU)) := Lib.hid (by rw [List.map_append]; exact ho5)
  have HAT5 : Hid ((.slice ao ws.length cp : Value).ownBlock = some gl ∨ w.heap.size + 2 ≤ gl) := Lib.hid (hat5.imp id (fun h => by omega))
  have HL5 := Lib.hid hl5
  have HP5 : Hid (∀ v : Value, (w5.setCell ⟨g, 8, none⟩ v).cell? ⟨w.heap.size, 0, none⟩ = some (.iface 71 (.pointer (some ⟨bm, 0, none⟩)))) := Lib.hid (fun v => (HT5.out.other (a := ⟨g, 8, none⟩) (show w.heap.size ≠ g by omega) v).cell rfl)
  have fz5 : ∀ j, w5.frozen? ⟨g, j, none⟩ = false := fun j => HG5.out.free
  have t0 : w5.cell? ⟨w.heap.size, 0, none⟩ = some (.iface 71 (.pointer (some ⟨bm, 0, none⟩))) := HT5.out.cell rfl
  have g8 : w5.cell? ⟨g, 8, none⟩ = some (.slice ao ws.length cp) := HG5.out.cell rfl
  clear ho5 hg5 hat5 hl5 hS4 hblk
  refine hK.out _ _ ?_ (fun hHeld15 => ?_)
  · first | with_reducible exact ⟨t0, g8⟩ | go_keep
  clear hK K hHeld14
  try simp only [Act.put, List.getElem_toArray, List.getElem_cons_zero, List.getElem_cons_succ, List.setIfInBounds_toArray, List.set_cons_zero, List.set_cons_succ]
  refine wpAnyH_done (by kernel_rfl) ?_ _
  dsimp only [tailQ]
  simp only [List.drop_succ_cons, List.drop_zero, List.take_succ_cons, List.take_zero, List.getElem_cons_succ, List.getElem_cons_zero, List.set_cons_zero, List.set_cons_succ]
  go_upto_region 13 with fail
  clear hHeld15 t0 g8 g8b
  have n1 : g ≠ w.heap.size + 1 := by omega
  have n2 : w.heap.size + 1 ≠ g := by omega
  have HGL1 : Hid (gl ≠ g) := Lib.hid (fun e => HAT5.out.elim (fun h => HOG.out (e ▸ h)) (fun h => by omega))
  have HGL2 : Hid (gl ≠ w.heap.size + 1) := Lib.hid (fun e => HAT5.out.elim (fun h => by have := HOL.out _ h; omega) (fun h => by omega))
  have HG6 : Hid (RowBlk 163 (w5.setCell ⟨g, 8, none⟩ (.slice (some ⟨gl, 0, none⟩) (ws.length + 1) cap)) g [.int .i64 (n : Int), .int .i64 0, .int .i64 (n : Int), .slice (some ⟨bo, 0, none⟩) n n, .int .i64 (th : Int), .int .u64 (num : Int), .int .i64 ((k : Int) + 1), .bool oth, .slice (some ⟨gl, 0, none⟩) (ws.length + 1) cap]) := Lib.hid (HG5.out.put 8 _)
  have HA6 : Hid (RowBlk 39 (w5.setCell ⟨g, 8, none⟩ (.slice (some ⟨gl, 0, none⟩) (ws.length + 1) cap)) (w.heap.size + 1) [.int .i64 0, .int .u64 0, .slice none 0 0]) := Lib.hid (HA5.out.other (a := ⟨g, 8, none⟩) n2 _)
  have HM6 : Hid (MemIs 108 (w5.setCell ⟨g, 8, none⟩ (.slice (some ⟨gl, 0, none⟩) (ws.length + 1) cap)) bm bw L2 C2) := Lib.hid (HM5.out.setNew _ _ hgm hgw)
  have HB6 : Hid (ButS (fun b => b = bm ∨ b = bw ∨ (b = g ∨ (.slice ao ws.length cp : Value).ownBlock = some b)) w (w5.setCell ⟨g, 8, none⟩ (.slice (some ⟨gl, 0, none⟩) (ws.length + 1) cap))) := Lib.hid (HB5.out.setCell (x := ⟨g, 8, none⟩) (.inl (.inr (.inr (.inl rfl)))) _)
  have HO6 : Hid ((w5.setCell ⟨g, 8, none⟩ (.slice (some ⟨gl, 0, none⟩) (ws.length + 1) cap)).ownsRow 0 37 1 (.slice (some ⟨gl, 0, none⟩) (ws.length + 1) cap) (ws.length + 1) ((ws ++ [r]).map mkU)) := Lib.hid (owns_sameB HO5.out (fun k hk => by cases hk; exact heap_far HGL1.out))
  have HL6 : Hid (gl < (w5.setCell ⟨g, 8, none⟩ (.slice (some ⟨gl, 0, none⟩) (ws.length + 1) cap)).heap.size) := Lib.hid (by have h1 := HL5.out; simpa [World.setCell] using h1)
  generalize (w5.setCell ⟨g, 8, none⟩ (.slice (some ⟨gl, 0, none⟩) (ws.length + 1) cap)) = w6 at HG6 HA6 HM6 HB6 HO6 HL6 ⊢
  clear fz5
  have g0 : w6.cell? ⟨g, 0, none⟩ = some (.int .i64 (n : Int)) := HG6.out.cell rfl
  have g8 : w6.cell? ⟨g, 8, none⟩ = some (.slice (some ⟨gl, 0, none⟩) (ws.length + 1) cap) := HG6.out.cell rfl
  have hjn : (ws.length : Int) + 1 < (n : Int) := by have := HJL.out; omega
  go_quiet (fail)
  have HM7 := Lib.hid (HM6.out.drewN nq)
  have HA7 := Lib.hid (HA6.out.drewN nq)
  have HG7 := Lib.hid (HG6.out.drewN nq)
  have HB7 := Lib.hid (HB6.out.drewN nq)
  have HO7 : Hid ((w6.drewN nq).ownsRow 0 37 1 (.slice (some ⟨gl, 0, none⟩) (ws.length + 1) cap) (ws.length + 1) ((ws ++ [r]).map mkU)) := Lib.hid (owns_sameB HO6.out (fun k hk => rfl))
  have HL7 : Hid (gl < (w6.drewN nq).heap.size) := Lib.hid HL6.out
  generalize w6.drewN nq = w7 at HM7 HA7 HG7 HB7 HO7 HL7 ⊢
  clear g0 g8
  have a0 : w7.cell? ⟨w.heap.size + 1, 0, none⟩ = some (.int .i64 0) := HA7.out.cell rfl
  have a1 : w7.cell? ⟨w.heap.size + 1, 1, none⟩ = some (.int .u64 0) := HA7.out.cell rfl
  have a2 : w7.cell? ⟨w.heap.size + 1, 2, none⟩ = some (.slice none 0 0) := HA7.out.cell rfl
  have z0 : ∀ j, w7.frozen? ⟨w.heap.size + 1, j, none⟩ = false := fun j => HA7.out.free
  have HX : Hid (RowBlk 39 (((w7.setCell ⟨w.heap.size + 1, 0, none⟩ (.int .i64 0)).setCell ⟨w.heap.size + 1, 1, none⟩ (.int .u64 0)).setCell ⟨w.heap.size + 1, 2, none⟩ (.slice none 0 0)) (w.heap.size + 1) [.int .i64 0, .int .u64 0, .slice none 0 0] ∧ RowBlk 163 (((w7.setCell ⟨w.heap.size + 1, 0, none⟩ (.int .i64 0)).setCell ⟨w.heap.size + 1, 1, none⟩ (.int .u64 0)).setCell ⟨w.heap.size + 1, 2, none⟩ (.slice none 0 0)) g [.int .i64 (n : Int), .int .i64 0, .int .i64 (n : Int), .slice (some ⟨bo, 0, none⟩) n n, .int .i64 (th : Int), .int .u64 (num : Int), .int .i64 ((k : Int) + 1), .bool oth, .slice (some ⟨gl, 0, none⟩) (ws.length + 1) cap] ∧ MemIs 108 (((w7.setCell ⟨w.heap.size + 1, 0, none⟩ (.int .i64 0)).setCell ⟨w.heap.size + 1, 1, none⟩ (.int .u64 0)).setCell ⟨w.heap.size + 1, 2, none⟩ (.slice none 0 0)) bm bw L2 C2 ∧ ButS (fun b => b = bm ∨ b = bw ∨ (b = g ∨ (.slice ao ws.length cp : Value).ownBlock = some b)) w (((w7.setCell ⟨w.heap.size + 1, 0, none⟩ (.int .i64 0)).setCell ⟨w.heap.size + 1, 1, none⟩ (.int .u64 0)).setCell ⟨w.heap.size + 1, 2, none⟩ (.slice none 0 0)) ∧ (((w7.setCell ⟨w.heap.size + 1, 0, none⟩ (.int .i64 0)).setCell ⟨w.heap.size + 1, 1, none⟩ (.int .u64 0)).setCell ⟨w.heap.size + 1, 2, none⟩ (.slice none 0 0)).ownsRow 0 37 1 (.slice (some ⟨gl, 0, none⟩) (ws.length + 1) cap) (ws.length + 1) ((ws ++ [r]).map mkU) ∧ gl < (((w7.setCell ⟨w.heap.size + 1, 0, none⟩ (.int .i64 0)).setCell ⟨w.heap.size + 1, 1, none⟩ (.int .u64 0)).setCell ⟨w.heap.size + 1, 2, none⟩ (.slice none 0 0)).heap.size) := Lib.hid
    ⟨(((HA7.out.put 0 _).put 1 _).put 2 _), (((HG7.out.other (a := ⟨w.heap.size + 1, 0, none⟩) n1 _).other (a := ⟨w.heap.size + 1, 1, none⟩) n1 _).other (a := ⟨w.heap.size + 1, 2, none⟩) n1 _), (((HM7.out.setNew _ _ (by omega) (by omega)).setNew _ _ (by omega) (by omega)).setNew _ _ (by omega) (by omega)), (((HB7.out.setCell (x := ⟨w.heap.size + 1, 0, none⟩) (.inr (by show w.heap.size ≤ w.heap.size + 1; omega)) _).setCell (x := ⟨w.heap.size + 1, 1, none⟩) (.inr (by show w.heap.size ≤ w.heap.size + 1; omega)) _).setCell (x := ⟨w.heap.size + 1, 2, none⟩) (.inr (by show w.heap.size ≤ w.heap.size + 1; omega)) _), (owns_sameB HO7.out (fun k hk => by obtain rfl : gl = k := Option.some.inj hk; rw [heap_far (show gl ≠ w.heap.size + 1 from HGL2.out), heap_far (show gl ≠ w.heap.size + 1 from HGL2.out), heap_far (show gl ≠ w.heap.size + 1 from HGL2.out)])), by have h1 := HL7.out; simpa [World.setCell] using h1⟩
  go_wp2_with fail
  generalize (((w7.setCell ⟨w.heap.size + 1, 0, none⟩ (.int .i64 0)).setCell ⟨w.heap.size + 1, 1, none⟩ (.int .u64 0)).setCell ⟨w.heap.size + 1, 2, none⟩ (.slice none 0 0)) = W5 at HX ⊢
  have q0 := HX.out.1.cell (i := 0) rfl
  have q1 := HX.out.1.cell (i := 1) rfl
  have q2 := HX.out.1.cell (i := 2) rfl
  exact bodyPost_ret (v := .tuple #[.agg #[.int .i64 0, .int .u64 0, .slice none 0 0], .bool false]) (by simp [results, Try.results75, go_sem, q0, q1, q2]) rfl ⟨rfl, HX.out.2.2.1, HX.out.2.2.2.1, gl, cap, HX.out.2.1, HX.out.2.2.2.2.1, HAT5.out.imp id (fun h => by omega), HX.out.2.2.2.2.2⟩
set_option maxRecDepth 100000 in
set_option maxHeartbeats 4000000 in
theorem ad_s3L (n bo g bm bw th num k r : Nat) (oth : Bool) (ao : Option Addr) (cp : Nat) (ws : List Nat) (l : List Nat) (c : Cn) (t : Nat) (w : World) (hM : MemIs 108 w bm bw l c) (hg : RowBlk 163 w g (AdVs n bo th num k oth (.slice ao ws.length cp))) (hn : 1 ≤ n ∧ n ≤ 16) (hth : th < n) (hnum : num < 4294967296) (hlen : l.length = 2 * n) (hl : l.length ≤ 65536) (ho : w.ownsRow 0 37 1 (.slice ao ws.length cp) ws.length (ws.map mkU)) (hob : ∀ b, (.slice ao ws.length cp : Value).ownBlock = some b → b ≠ bw) (hk : k = n + 2 + ws.length) (hj : ws.length < n) (hjl : ws.length + 1 = n) (hc : c.r < 9223372036854775807) (hr : l.getD (n + ws.length) 0 = r) (hn1 : 1 ≤ num) (hws : ∀ x ∈ ws ++ [r], x < 8589934592 ∧ (x % 2 = 1 → 2 ≤ x)) : Calls Try.prog 75 #[.pointer (some ⟨g, 0, none⟩), turnAgg bm (t : Int)] w (AdTook n bo g bm bw th num (k + 1) oth (.slice ao ws.length cp) ws r (some (adRes num (ws ++ [r]))) ((Acc.rd (n + ws.length)).run l c).2.1 ((Acc.rd (n + ws.length)).run l c).2.2 w) := by
  unfold AdVs at hg
  have hgm : g ≠ bm := by intro e; have h1 := hg; have h2 := hM.1; unfold RowBlk at h1; rw [e, h2] at h1; simp at h1
  have hgw : g ≠ bw := by intro e; have h1 := hg; have h2 := hM.2.1; unfold RowBlk at h1; rw [e, h2] at h1; simp at h1
  have hwk : IntKind.i64.wrap ((k : Int) + 1) = (k : Int) + 1 := by unfold IntKind.wrap; simp [IntKind.bits, IntKind.signed]; omega
  have hw1 : IntKind.i64.wrap ((n : Int) + 1) = (n : Int) + 1 := by unfold IntKind.wrap; simp [IntKind.bits, IntKind.signed]; omega
  have hk0 : ¬ (k : Int) = 0 := by omega
  have hk0b : ((k : Int) == 0) = false := by rw [beq_eq_false_iff_ne]; exact hk0
  have hk0c : decide ((k : Int) = 0) = false := decide_eq_false hk0
  obtain ⟨iU, ua, ub, uc, ud⟩ := info_parts info22
  have HOG : Hid ((.slice ao ws.length cp : Value).ownBlock ≠ some g) := Lib.hid (row_owns_ne hg ho (by decide))
  have HOM : Hid ((.slice ao ws.length cp : Value).ownBlock ≠ some bm) := Lib.hid (fun e => by obtain ⟨cur, h1⟩ := owns_blkT ho e; rw [hM.1] at h1; simp at h1)
  have HOW : Hid ((.slice ao ws.length cp : Value).ownBlock ≠ some bw) := Lib.hid (fun e => hob _ e rfl)
  have HOL : Hid (∀ k, (.slice ao ws.length cp : Value).ownBlock = some k → k < w.heap.size) := Lib.hid (fun k e => (owns_blkT ho e).lt)
  have hlen16 : ws.length < 16 := by omega
  have hkn : ¬ (k : Int) = (n : Int) + 1 := by omega
  have hk1 : ¬ (k : Int) < (n : Int) + 1 := by omega
  have hk2 : ((k : Int) == (n : Int) + 1) = false := by rw [beq_eq_false_iff_ne]; exact hkn
  have hk3 : decide ((k : Int) = (n : Int) + 1) = false := decide_eq_false hkn
  have hk4 : decide ((k : Int) < (n : Int) + 1) = false := decide_eq_false hk1
  obtain ⟨a1, ha1⟩ : ∃ a1, n + k = a1 := ⟨_, rfl⟩
  obtain ⟨a2, ha2⟩ : ∃ a2, a1 - (n + 1) = a2 := ⟨_, rfl⟩
  obtain ⟨am, ham⟩ : ∃ am, n + ws.length = am := ⟨_, rfl⟩
  have hwa1 : IntKind.i64.wrap ((n : Int) + (k : Int)) = (a1 : Int) := by unfold IntKind.wrap; simp [IntKind.bits, IntKind.signed]; omega
  have hwa2 : IntKind.i64.wrap ((a1 : Int) - ((n : Int) + 1)) = (a2 : Int) := by unfold IntKind.wrap; simp [IntKind.bits, IntKind.signed]; omega
  have hwa3 : IntKind.i64.wrap ((a2 : Int) - 1) = (am : Int) := by unfold IntKind.wrap; simp [IntKind.bits, IntKind.signed]; omega
  have hamn : am < 2 * n := by omega
  rw [ham] at hr ⊢
  have HJL : Hid (ws.length + 1 = n) := Lib.hid hjl
  have HO := Lib.hid ho
  obtain ⟨L2, hL2⟩ : ∃ L2, ((Acc.rd am).run l c).2.1 = L2 := ⟨_, rfl⟩
  obtain ⟨C2, hC2⟩ : ∃ C2, ((Acc.rd am).run l c).2.2 = C2 := ⟨_, rfl⟩
  have HSW : Hid (∀ W : World, MemIs 108 W bm bw l c → Calls Try.prog 86 #[.pointer (some ⟨bm, 0, none⟩), .int .i64 (am : Int)] W fun e w' => e = .returned (.int .u64 (r : Int)) ∧ MemIs 108 w' bm bw L2 C2 ∧ But bm bw W w') := Lib.hid (fun W hW => by
    have h := rd_acc (i := am) hW (by omega) hl hc
    unfold AccPost at h
    rw [hL2, hC2, hr] at h
    exact h)
  rw [hL2, hC2]
  obtain ⟨y, hy⟩ : ∃ y, adRes num (ws ++ [r]) = y := ⟨_, rfl⟩
  have HWS := Lib.hid hws
  have HY := Lib.hid hy
  rw [hy]
  clear hws hy
  clear hkn ha1 ha2 ham hr hob hk hjl ho
  have HM := Lib.hid hM
  have HG : Hid (RowBlk 163 w g [.int .i64 (n : Int), .int .i64 0, .int .i64 (n : Int), .slice (some ⟨bo, 0, none⟩) n n, .int .i64 (th : Int), .int .u64 (num : Int), .int .i64 ((k : Int)), .bool oth, .slice ao ws.length cp]) := Lib.hid hg
  have hmm := m_Read ⟨bm, 0, none⟩
  have hbm := hM.lt1
  have hbw := hM.lt2
  have hgl := hg.lt
  unfold turnAgg
  clear hM hg
  go_enter Try.func75, Try.ntmps75
  go_upto_region 1 with fail
  have HMa : Hid (MemIs 108 ((w.alloc (.cells #[.iface 71 (.pointer (some ⟨bm, 0, none⟩)), .int .i64 (t : Int)] 87)).alloc (.cells #[.int .i64 0, .int .u64 0, .slice none 0 0] 39)) bm bw l c) := Lib.hid ((HM.out.alloc _).alloc _)
  have HTa : Hid (RowBlk 87 ((w.alloc (.cells #[.iface 71 (.pointer (some ⟨bm, 0, none⟩)), .int .i64 (t : Int)] 87)).alloc (.cells #[.int .i64 0, .int .u64 0, .slice none 0 0] 39)) w.heap.size [.iface 71 (.pointer (some ⟨bm, 0, none⟩)), .int .i64 (t : Int)]) := Lib.hid ((RowBlk.new w [.iface 71 (.pointer (some ⟨bm, 0, none⟩)), .int .i64 (t : Int)] 87).alloc _)
  have HAa : Hid (RowBlk 39 ((w.alloc (.cells #[.iface 71 (.pointer (some ⟨bm, 0, none⟩)), .int .i64 (t : Int)] 87)).alloc (.cells #[.int .i64 0, .int .u64 0, .slice none 0 0] 39)) (w.heap.size + 1) [.int .i64 0, .int .u64 0, .slice none 0 0]) := Lib.hid (by
    have h := RowBlk.new (w.alloc (.cells #[.iface 71 (.pointer (some ⟨bm, 0, none⟩)), .int .i64 (t : Int)] 87)) [.int .i64 0, .int .u64 0, .slice none 0 0] 39
    have e : (w.alloc (.cells #[.iface 71 (.pointer (some ⟨bm, 0, none⟩)), .int .i64 (t : Int)] 87)).heap.size = w.heap.size + 1 := by simp
    rw [e] at h; exact h)
  have HBa : Hid (ButS (fun b => b = bm ∨ b = bw ∨ (b = g ∨ (.slice ao ws.length cp : Value).ownBlock = some b)) w ((w.alloc (.cells #[.iface 71 (.pointer (some ⟨bm, 0, none⟩)), .int .i64 (t : Int)] 87)).alloc (.cells #[.int .i64 0, .int .u64 0, .slice none 0 0] 39))) := Lib.hid (((ButS.refl _ _).alloc _).alloc _)
  have HZa : Hid (((w.alloc (.cells #[.iface 71 (.pointer (some ⟨bm, 0, none⟩)), .int .i64 (t : Int)] 87)).alloc (.cells #[.int .i64 0, .int .u64 0, .slice none 0 0] 39)).heap.size = w.heap.size + 2) := Lib.hid (by simp)
  have HGa : Hid (RowBlk 163 ((w.alloc (.cells #[.iface 71 (.pointer (some ⟨bm, 0, none⟩)), .int .i64 (t : Int)] 87)).alloc (.cells #[.int .i64 0, .int .u64 0, .slice none 0 0] 39)) g [.int .i64 (n : Int), .int .i64 0, .int .i64 (n : Int), .slice (some ⟨bo, 0, none⟩) n n, .int .i64 (th : Int), .int .u64 (num : Int), .int .i64 ((k : Int)), .bool oth, .slice ao ws.length cp]) := Lib.hid ((HG.out.alloc _).alloc _)
  have HOa : Hid (((w.alloc (.cells #[.iface 71 (.pointer (some ⟨bm, 0, none⟩)), .int .i64 (t : Int)] 87)).alloc (.cells #[.int .i64 0, .int .u64 0, .slice none 0 0] 39)).ownsRow 0 37 1 (.slice ao ws.length cp) ws.length (ws.map mkU)) := Lib.hid ((HO.out.alloc _).alloc _)
  generalize ((w.alloc (.cells #[.iface 71 (.pointer (some ⟨bm, 0, none⟩)), .int .i64 (t : Int)] 87)).alloc (.cells #[.int .i64 0, .int .u64 0, .slice none 0 0] 39)) = wa at HMa HTa HAa HBa HZa HGa HOa ⊢
  have t0 : wa.cell? ⟨w.heap.size, 0, none⟩ = some (.iface 71 (.pointer (some ⟨bm, 0, none⟩))) := HTa.out.cell rfl
  have g0 : wa.cell? ⟨g, 0, none⟩ = some (.int .i64 (n : Int)) := HGa.out.cell rfl
  have g1 : wa.cell? ⟨g, 1, none⟩ = some (.int .i64 0) := HGa.out.cell rfl
  have g2 : wa.cell? ⟨g, 2, none⟩ = some (.int .i64 (n : Int)) := HGa.out.cell rfl
  have g4 : wa.cell? ⟨g, 4, none⟩ = some (.int .i64 (th : Int)) := HGa.out.cell rfl
  have g5 : wa.cell? ⟨g, 5, none⟩ = some (.int .u64 (num : Int)) := HGa.out.cell rfl
  have g6 : wa.cell? ⟨g, 6, none⟩ = some (.int .i64 ((k : Int))) := HGa.out.cell rfl
  have g7 : wa.cell? ⟨g, 7, none⟩ = some (.bool oth) := HGa.out.cell rfl
  have g8 : wa.cell? ⟨g, 8, none⟩ = some (.slice ao ws.length cp) := HGa.out.cell rfl
  go_quiet (fail)
  have HMb := Lib.hid (HMa.out.drewN nq)
  have HTb := Lib.hid (HTa.out.drewN nq)
  have HAb := Lib.hid (HAa.out.drewN nq)
  have HGb := Lib.hid (HGa.out.drewN nq)
  have HBb := Lib.hid (HBa.out.drewN nq)
  have HZb : Hid ((wa.drewN nq).heap.size = w.heap.size + 2) := Lib.hid HZa.out
  have HOb : Hid ((wa.drewN nq).ownsRow 0 37 1 (.slice ao ws.length cp) ws.length (ws.map mkU)) := Lib.hid (owns_sameB HOa.out (fun k hk => rfl))
  generalize wa.drewN nq = wb at HOb HMb HTb HAb HGb HBb HZb ⊢
  clear t0 g0 g1 g2 g4 g5 g6 g7 g8
  have t0 : wb.cell? ⟨w.heap.size, 0, none⟩ = some (.iface 71 (.pointer (some ⟨bm, 0, none⟩))) := HTb.out.cell rfl
  have g0 : wb.cell? ⟨g, 0, none⟩ = some (.int .i64 (n : Int)) := HGb.out.cell rfl
  have g1 : wb.cell? ⟨g, 1, none⟩ = some (.int .i64 0) := HGb.out.cell rfl
  have g2 : wb.cell? ⟨g, 2, none⟩ = some (.int .i64 (n : Int)) := HGb.out.cell rfl
  have g4 : wb.cell? ⟨g, 4, none⟩ = some (.int .i64 (th : Int)) := HGb.out.cell rfl
  have g5 : wb.cell? ⟨g, 5, none⟩ = some (.int .u64 (num : Int)) := HGb.out.cell rfl
  have g6 : wb.cell? ⟨g, 6, none⟩ = some (.int .i64 ((k : Int))) := HGb.out.cell rfl
  have g7 : wb.cell? ⟨g, 7, none⟩ = some (.bool oth) := HGb.out.cell rfl
  have g8 : wb.cell? ⟨g, 8, none⟩ = some (.slice ao ws.length cp) := HGb.out.cell rfl
  have fzb : ∀ j, wb.frozen? ⟨g, j, none⟩ = false := fun j => HGb.out.free
  have HMc : Hid (MemIs 108 (wb.setCell ⟨g, 6, none⟩ (.int .i64 ((k : Int) + 1))) bm bw l c) := Lib.hid (HMb.out.setNew _ _ hgm hgw)
  have HTc : Hid (RowBlk 87 (wb.setCell ⟨g, 6, none⟩ (.int .i64 ((k : Int) + 1))) w.heap.size [.iface 71 (.pointer (some ⟨bm, 0, none⟩)), .int .i64 (t : Int)]) := Lib.hid (HTb.out.other (a := ⟨g, 6, none⟩) (show w.heap.size ≠ g by omega) _)
  have HAc : Hid (RowBlk 39 (wb.setCell ⟨g, 6, none⟩ (.int .i64 ((k : Int) + 1))) (w.heap.size + 1) [.int .i64 0, .int .u64 0, .slice none 0 0]) := Lib.hid (HAb.out.other (a := ⟨g, 6, none⟩) (show w.heap.size + 1 ≠ g by omega) _)
  have HGc : Hid (RowBlk 163 (wb.setCell ⟨g, 6, none⟩ (.int .i64 ((k : Int) + 1))) g [.int .i64 (n : Int), .int .i64 0, .int .i64 (n : Int), .slice (some ⟨bo, 0, none⟩) n n, .int .i64 (th : Int), .int .u64 (num : Int), .int .i64 ((k : Int) + 1), .bool oth, .slice ao ws.length cp]) := Lib.hid (HGb.out.put 6 _)
  have HBc : Hid (ButS (fun b => b = bm ∨ b = bw ∨ (b = g ∨ (.slice ao ws.length cp : Value).ownBlock = some b)) w (wb.setCell ⟨g, 6, none⟩ (.int .i64 ((k : Int) + 1)))) := Lib.hid (HBb.out.setCell (x := ⟨g, 6, none⟩) (.inl (.inr (.inr (.inl rfl)))) _)
  have HZc : Hid ((wb.setCell ⟨g, 6, none⟩ (.int .i64 ((k : Int) + 1))).heap.size = w.heap.size + 2) := Lib.hid (by have := HZb.out; simpa [World.setCell] using this)
  have HOc : Hid ((wb.setCell ⟨g, 6, none⟩ (.int .i64 ((k : Int) + 1))).ownsRow 0 37 1 (.slice ao ws.length cp) ws.length (ws.map mkU)) := Lib.hid (owns_sameB HOb.out (fun k hk => heap_far (fun e => HOG.out (e ▸ hk))))
  go_upto_region 4 with fail
  generalize wb.setCell ⟨g, 6, none⟩ (.int .i64 ((k : Int) + 1)) = wc at HOc HMc HTc HAc HGc HBc HZc ⊢
  clear t0 g0 g1 g2 g4 g5 g6 g7 g8 fzb
  have t0 : wc.cell? ⟨w.heap.size, 0, none⟩ = some (.iface 71 (.pointer (some ⟨bm, 0, none⟩))) := HTc.out.cell rfl
  have g0 : wc.cell? ⟨g, 0, none⟩ = some (.int .i64 (n : Int)) := HGc.out.cell rfl
  have g1 : wc.cell? ⟨g, 1, none⟩ = some (.int .i64 0) := HGc.out.cell rfl
  have g2 : wc.cell? ⟨g, 2, none⟩ = some (.int .i64 (n : Int)) := HGc.out.cell rfl
  have g4 : wc.cell? ⟨g, 4, none⟩ = some (.int .i64 (th : Int)) := HGc.out.cell rfl
  have g5 : wc.cell? ⟨g, 5, none⟩ = some (.int .u64 (num : Int)) := HGc.out.cell rfl
  have g6 : wc.cell? ⟨g, 6, none⟩ = some (.int .i64 ((k : Int) + 1)) := HGc.out.cell rfl
  have g7 : wc.cell? ⟨g, 7, none⟩ = some (.bool oth) := HGc.out.cell rfl
  have g8 : wc.cell? ⟨g, 8, none⟩ = some (.slice ao ws.length cp) := HGc.out.cell rfl
  go_upto_region 5 with fail
  clear g0 g1 g2 g4 g5 g6 g7 hwk
  refine wp_region_tail (S := (fun w' => w'.cell? ⟨w.heap.size, 0, none⟩ = some (.iface 71 (.pointer (some ⟨bm, 0, none⟩))) ∧ w'.cell? ⟨g, 8, none⟩ = some (.slice ao ws.length cp))) 16 (by kernel_rfl) (by kernel_rfl) ?_ (fun hHeld => ?_)
  · first | with_reducible exact ⟨t0, g8⟩ | go_keep
  simp only [List.take_succ_cons, List.take_zero]
  refine wpAnyH_take (i := 0) (oi := _) (v := ?v0) rfl (by kernel_rfl) (by kernel_rfl) (by kernel_rfl) (fun _ _ _ h => h) (Or.inl ⟨by kernel_rfl, ?vy0⟩) (by assumption) ?vr0
  case vy0 => (intro w hSw; (try dsimp only at hSw); go_simp <;> with_reducible rfl)
  try simp only [Act.put, List.getElem_toArray, List.getElem_cons_zero, List.getElem_cons_succ, List.setIfInBounds_toArray, List.set_cons_zero, List.set_cons_succ]
  refine wpAnyH_take (i := 1) (oi := _) (v := ?v1) rfl (by kernel_rfl) (by kernel_rfl) (by kernel_rfl) (fun _ _ _ h => h) (Or.inl ⟨by kernel_rfl, ?vy1⟩) (by assumption) ?vr1
  case vy1 => (intro w hSw; (try dsimp only at hSw); go_simp <;> with_reducible rfl)
  try simp only [Act.put, List.getElem_toArray, List.getElem_cons_zero, List.getElem_cons_succ, List.setIfInBounds_toArray, List.set_cons_zero, List.set_cons_succ]
  refine wpAnyH_take (i := 2) (oi := _) (v := ?v2) rfl (by kernel_rfl) (by kernel_rfl) (by kernel_rfl) (fun _ _ _ h => h) (Or.inl ⟨by kernel_rfl, ?vy2⟩) (by assumption) ?vr2
  case vy2 => (intro w hSw; (try dsimp only at hSw); go_simp <;> with_reducible rfl)
  try simp only [Act.put, List.getElem_toArray, List.getElem_cons_zero, List.getElem_cons_succ, List.setIfInBounds_toArray, List.set_cons_zero, List.set_cons_succ]
  refine wpAnyH_take (i := 3) (oi := _) (v := ?v3) rfl (by kernel_rfl) (by kernel_rfl) (by kernel_rfl) (fun _ _ _ h => h) (Or.inl ⟨by kernel_rfl, ?vy3⟩) (by assumption) ?vr3
  case vy3 => (intro w hSw; (try dsimp only at hSw); go_simp <;> with_reducible rfl)
  try simp only [Act.put, List.getElem_toArray, List.getElem_cons_zero, List.getElem_cons_succ, List.setIfInBounds_toArray, List.set_cons_zero, List.set_cons_succ]
  refine wpAnyH_take (i := 4) (oi := _) (v := ?v4) rfl (by kernel_rfl) (by kernel_rfl) (by kernel_rfl) (fun _ _ _ h => h) (Or.inl ⟨by kernel_rfl, ?vy4⟩) (by assumption) ?vr4
  case vy4 => (intro w hSw; (try dsimp only at hSw); go_simp <;> with_reducible rfl)
  try simp only [Act.put, List.getElem_toArray, List.getElem_cons_zero, List.getElem_cons_succ, List.setIfInBounds_toArray, List.set_cons_zero, List.set_cons_succ]
  refine wpAnyH_take (i := 5) (oi := _) (v := ?v5) rfl (by kernel_rfl) (by kernel_rfl) (by kernel_rfl) (fun _ _ _ h => h) (Or.inl ⟨by kernel_rfl, ?vy5⟩) (by assumption) ?vr5
  case vy5 => (intro w hSw; (try dsimp only at hSw); go_simp <;> with_reducible rfl)
  try simp only [Act.put, List.getElem_toArray, List.getElem_cons_zero, List.getElem_cons_succ, List.setIfInBounds_toArray, List.set_cons_zero, List.set_cons_succ]
  refine wpAnyH_take (i := 6) (oi := _) (v := ?v6) rfl (by kernel_rfl) (by kernel_rfl) (by kernel_rfl) (fun _ _ _ h => h) (Or.inl ⟨by kernel_rfl, ?vy6⟩) (by assumption) ?vr6
  case vy6 => (intro w hSw; (try dsimp only at hSw); go_simp <;> with_reducible rfl)
  try simp only [Act.put, List.getElem_toArray, List.getElem_cons_zero, List.getElem_cons_succ, List.setIfInBounds_toArray, List.set_cons_zero, List.set_cons_succ]
  refine wpAnyH_take (i := 7) (oi := _) (v := ?v7) rfl (by kernel_rfl) (by kernel_rfl) (by kernel_rfl) (fun _ _ _ h => h) (Or.inl ⟨by kernel_rfl, ?vy7⟩) (by assumption) ?vr7
  case vy7 => (intro w hSw; (try dsimp only at hSw); go_simp <;> with_reducible rfl)
  try simp only [Act.put, List.getElem_toArray, List.getElem_cons_zero, List.getElem_cons_succ, List.setIfInBounds_toArray, List.set_cons_zero, List.set_cons_succ]
  refine wpAnyH_take (i := 8) (oi := _) (v := ?v8) rfl (by kernel_rfl) (by kernel_rfl) (by kernel_rfl) (fun _ _ _ h => h) (Or.inl ⟨by kernel_rfl, ?vy8⟩) (by assumption) ?vr8
  case vy8 => (intro w hSw; (try dsimp only at hSw); go_simp <;> with_reducible rfl)
  try simp only [Act.put, List.getElem_toArray, List.getElem_cons_zero, List.getElem_cons_succ, List.setIfInBounds_toArray, List.set_cons_zero, List.set_cons_succ]
  refine wpAnyH_take (i := 9) (oi := _) (v := ?v9) rfl (by kernel_rfl) (by kernel_rfl) (by kernel_rfl) (fun _ _ _ h => h) (Or.inl ⟨by kernel_rfl, ?vy9⟩) (by assumption) ?vr9
  case vy9 => (intro w hSw; (try dsimp only at hSw); go_simp <;> with_reducible rfl)
  try simp only [Act.put, List.getElem_toArray, List.getElem_cons_zero, List.getElem_cons_succ, List.setIfInBounds_toArray, List.set_cons_zero, List.set_cons_succ]
  refine wpAnyH_take (i := 10) (oi := _) (v := ?v10) rfl (by kernel_rfl) (by kernel_rfl) (by kernel_rfl) (fun _ _ _ h => h) (Or.inl ⟨by kernel_rfl, ?vy10⟩) (by assumption) ?vr10
  case vy10 => (intro w hSw; (try dsimp only at hSw); go_simp <;> with_reducible rfl)
  try simp only [Act.put, List.getElem_toArray, List.getElem_cons_zero, List.getElem_cons_succ, List.setIfInBounds_toArray, List.set_cons_zero, List.set_cons_succ]
  refine wpAnyH_take (i := 11) (oi := _) (v := ?v11) rfl (by kernel_rfl) (by kernel_rfl) (by kernel_rfl) (fun _ _ _ h => h) (Or.inl ⟨by kernel_rfl, ?vy11⟩) (by assumption) ?vr11
  case vy11 => (intro w hSw; (try dsimp only at hSw); go_simp <;> with_reducible rfl)
  try simp only [Act.put, List.getElem_toArray, List.getElem_cons_zero, List.getElem_cons_succ, List.setIfInBounds_toArray, List.set_cons_zero, List.set_cons_succ]
  refine wpAnyH_take (i := 12) (oi := _) (v := ?v12) rfl (by kernel_rfl) (by kernel_rfl) (by kernel_rfl) (fun _ _ _ h => h) (Or.inl ⟨by kernel_rfl, ?vy12⟩) (by assumption) ?vr12
  case vy12 => (intro w hSw; (try dsimp only at hSw); go_simp <;> with_reducible rfl)
  try simp only [Act.put, List.getElem_toArray, List.getElem_cons_zero, List.getElem_cons_succ, List.setIfInBounds_toArray, List.set_cons_zero, List.set_cons_succ]
  refine wpAnyH_ready (rs := [13]) (by kernel_rfl) (by simp) ?_
  refine AllReadyH.cons (o := _) rfl (fun K hK => ?_) AllReadyH.nil
  go_simp
  go_at_call 86
  refine (HSW.out _ (HMc.out.drewN _)).mono ?_
  rintro e w4 ⟨rfl, hM4, hB4⟩
  have HG4 := Lib.hid ((HGc.out.drewN _).same (hB4.block (g) HGc.out.lt hgm hgw))
  have HT4 := Lib.hid ((HTc.out.drewN _).same (hB4.block (w.heap.size) HTc.out.lt (by omega) (by omega)))
  have HA4 := Lib.hid ((HAc.out.drewN _).same (hB4.block (w.heap.size + 1) HAc.out.lt (by omega) (by omega)))
  have HM4 := Lib.hid hM4
  have HB4 : Hid (ButS (fun b => b = bm ∨ b = bw ∨ (b = g ∨ (.slice ao ws.length cp : Value).ownBlock = some b)) w w4) := Lib.hid ((HBc.out.drewN _).trans (ButS.of_but hB4 (.inl rfl) (.inr (.inl rfl))))
  have HO4 : Hid (w4.ownsRow 0 37 1 (.slice ao ws.length cp) ws.length (ws.map mkU)) := Lib.hid (owns_sameB HOc.out (fun k hk => hB4.block k (Nat.lt_of_lt_of_le (HOL.out k hk) (by have := HZc.out; show w.heap.size ≤ wc.heap.size; omega)) (fun h => HOM.out (h ▸ hk)) (fun h => HOW.out (h ▸ hk))))
  have HS4 : Hid (w.heap.size + 2 ≤ w4.heap.size) := Lib.hid (by have h1 := HZc.out; have h2 : wc.heap.size ≤ w4.heap.size := hB4.size; omega)
  have g8b : (w4.alloc (.cells #[.int .u64 (r : Int)] 37)).cell? ⟨g, 8, none⟩ = some (.slice ao ws.length cp) := (HG4.out.alloc _).cell rfl
  have t0 : w4.cell? ⟨w.heap.size, 0, none⟩ = some (.iface 71 (.pointer (some ⟨bm, 0, none⟩))) := HT4.out.cell rfl
  have g8 : w4.cell? ⟨g, 8, none⟩ = some (.slice ao ws.length cp) := HG4.out.cell rfl
  clear hM4 hB4
  refine hK.out _ _ ?_ (fun hHeld13 => ?_)
  · first | with_reducible exact ⟨t0, g8⟩ | go_keep
  clear hK K hHeld
  try simp only [Act.put, List.getElem_toArray, List.getElem_cons_zero, List.getElem_cons_succ, List.setIfInBounds_toArray, List.set_cons_zero, List.set_cons_succ]
  refine wpAnyH_ready (rs := [14]) (by kernel_rfl) (by simp) ?_
  refine AllReadyH.cons (o := _) rfl (fun K hK => ?_) AllReadyH.nil
  go_simp
  refine hK.out _ _ ?_ (fun hHeld14 => ?_)
  · first | with_reducible exact ⟨t0, g8⟩ | exact ⟨(HT4.out.alloc _).cell rfl, (HG4.out.alloc _).cell rfl⟩ | go_keep
  clear hK K hHeld13
  try simp only [Act.put, List.getElem_toArray, List.getElem_cons_zero, List.getElem_cons_succ, List.setIfInBounds_toArray, List.set_cons_zero, List.set_cons_succ]
  refine wpAnyH_ready (rs := [15]) (by kernel_rfl) (by simp) ?_
  refine AllReadyH.cons (o := _) rfl (fun K hK => ?_) AllReadyH.nil
  refine step_append_lies (w4.alloc (.cells #[.int .u64 (r : Int)] 37)) rfl _ _ 27 rfl 0 37 iU (.int .u64 0) 1 8 Try.underlying27 ua ub uc ud rfl (by decide) (.slice ao ws.length cp) ws.length (ws.map mkU) rfl (HO4.out.alloc _) ⟨w4.heap.size, 0, none⟩ 1 1 [.int .u64 (r : Int)] rfl rfl (cell_one_new w4 _ _) (by intro u hu; rw [List.mem_singleton] at hu; subst hu; rfl) (by decide) (by unfold maxLen; omega) (by omega) (Nat.zero_le _) (w4.heap.size + 1) (by simp) ?_
  intro gl cap w5 ho5 hg5 hat5 hl5
  have hS4 := HS4.out
  have hblk : ∀ k, k < w4.heap.size → (.slice ao ws.length cp : Value).ownBlock ≠ some k → w5.heap[k]? = (w4.alloc (.cells #[.int .u64 (r : Int)] 37)).heap[k]? := fun k hk hne => hg5.block k (by simp; omega) (fun e => hne e.symm)
  have HG5 := Lib.hid ((HG4.out.alloc (.cells #[.int .u64 (r : Int)] 37)).same (hblk g HG4.out.lt HOG.out))
  have HT5 := Lib.hid ((HT4.out.alloc (.cells #[.int .u64 (r : Int)] 37)).same (hblk w.heap.size HT4.out.lt (fun e => by have := HOL.out _ e; omega)))
  have HA5 := Lib.hid ((HA4.out.alloc (.cells #[.int .u64 (r : Int)] 37)).same (hblk (w.heap.size + 1) HA4.out.lt (fun e => by have := HOL.out _ e; omega)))
  have HM5 := Lib.hid ((HM4.out.alloc (.cells #[.int .u64 (r : Int)] 37)).of_blocks (hblk bm HM4.out.lt1 HOM.out) (hblk bw HM4.out.lt2 HOW.out))
  have HB5 : Hid (ButS (fun b => b = bm ∨ b = bw ∨ (b = g ∨ (.slice ao ws.length cp : Value).ownBlock = some b)) w w5) := Lib.hid ((HB4.out.alloc _).trans (ButS.of_grown hg5 (fun k hk => .inr (.inr (.inr hk)))))
  have HO5 : Hid (w5.ownsRow 0 37 1 (.slice (some ⟨gl, 0, none⟩) (ws.length + 1) cap) (ws.length + 1) ((ws ++ [r]).map mkU)) := Lib.hid (by rw [List.map_append]; exact ho5)
  have HAT5 : Hid ((.slice ao ws.length cp : Value).ownBlock = some gl ∨ w.heap.size + 2 ≤ gl) := Lib.hid (hat5.imp id (fun h => by omega))
  have HL5 := Lib.hid hl5
  have HP5 : Hid (∀ v : Value, (w5.setCell ⟨g, 8, none⟩ v).cell? ⟨w.heap.size, 0, none⟩ = some (.iface 71 (.pointer (some ⟨bm, 0, none⟩)))) := Lib.hid (fun v => (HT5.out.other (a := ⟨g, 8, none⟩) (show w.heap.size ≠ g by omega) v).cell rfl)
  have fz5 : ∀ j, w5.frozen? ⟨g, j, none⟩ = false := fun j => HG5.out.free
  have t0 : w5.cell? ⟨w.heap.size, 0, none⟩ = some (.iface 71 (.pointer (some ⟨bm, 0, none⟩))) := HT5.out.cell rfl
  have g8 : w5.cell? ⟨g, 8, none⟩ = some (.slice ao ws.length cp) := HG5.out.cell rfl
  clear ho5 hg5 hat5 hl5 hS4 hblk
  refine hK.out _ _ ?_ (fun hHeld15 => ?_)
  · first | with_reducible exact ⟨t0, g8⟩ | go_keep
  clear hK K hHeld14
  try simp only [Act.put, List.getElem_toArray, List.getElem_cons_zero, List.getElem_cons_succ, List.setIfInBounds_toArray, List.set_cons_zero, List.set_cons_succ]
  refine wpAnyH_done (by kernel_rfl) ?_ _
  dsimp only [tailQ]
  simp only [List.drop_succ_cons, List.drop_zero, List.take_succ_cons, List.take_zero, List.getElem_cons_succ, List.getElem_cons_zero, List.set_cons_zero, List.set_cons_succ]
  go_upto_region 13 with fail
  clear hHeld15 t0 g8 g8b
  have n1 : g ≠ w.heap.size + 1 := by omega
  have n2 : w.heap.size + 1 ≠ g := by omega
  have HGL1 : Hid (gl ≠ g) := Lib.hid (fun e => HAT5.out.elim (fun h => HOG.out (e ▸ h)) (fun h => by omega))
  have HGL2 : Hid (gl ≠ w.heap.size + 1) := Lib.hid (fun e => HAT5.out.elim (fun h => by have := HOL.out _ h; omega) (fun h => by omega))
  have HG6 : Hid (RowBlk 163 (w5.setCell ⟨g, 8, none⟩ (.slice (some ⟨gl, 0, none⟩) (ws.length + 1) cap)) g [.int .i64 (n : Int), .int .i64 0, .int .i64 (n : Int), .slice (some ⟨bo, 0, none⟩) n n, .int .i64 (th : Int), .int .u64 (num : Int), .int .i64 ((k : Int) + 1), .bool oth, .slice (some ⟨gl, 0, none⟩) (ws.length + 1) cap]) := Lib.hid (HG5.out.put 8 _)
  have HA6 : Hid (RowBlk 39 (w5.setCell ⟨g, 8, none⟩ (.slice (some ⟨gl, 0, none⟩) (ws.length + 1) cap)) (w.heap.size + 1) [.int .i64 0, .int .u64 0, .slice none 0 0]) := Lib.hid (HA5.out.other (a := ⟨g, 8, none⟩) n2 _)
  have HM6 : Hid (MemIs 108 (w5.setCell ⟨g, 8, none⟩ (.slice (some ⟨gl, 0, none⟩) (ws.length + 1) cap)) bm bw L2 C2) := Lib.hid (HM5.out.setNew _ _ hgm hgw)
  have HB6 : Hid (ButS (fun b => b = bm ∨ b = bw ∨ (b = g ∨ (.slice ao ws.length cp : Value).ownBlock = some b)) w (w5.setCell ⟨g, 8, none⟩ (.slice (some ⟨gl, 0, none⟩) (ws.length + 1) cap))) := Lib.hid (HB5.out.setCell (x := ⟨g, 8, none⟩) (.inl (.inr (.inr (.inl rfl)))) _)
  have HO6 : Hid ((w5.setCell ⟨g, 8, none⟩ (.slice (some ⟨gl, 0, none⟩) (ws.length + 1) cap)).ownsRow 0 37 1 (.slice (some ⟨gl, 0, none⟩) (ws.length + 1) cap) (ws.length + 1) ((ws ++ [r]).map mkU)) := Lib.hid (owns_sameB HO5.out (fun k hk => by cases hk; exact heap_far HGL1.out))
  have HL6 : Hid (gl < (w5.setCell ⟨g, 8, none⟩ (.slice (some ⟨gl, 0, none⟩) (ws.length + 1) cap)).heap.size) := Lib.hid (by have h1 := HL5.out; simpa [World.setCell] using h1)
  generalize (w5.setCell ⟨g, 8, none⟩ (.slice (some ⟨gl, 0, none⟩) (ws.length + 1) cap)) = w6 at HG6 HA6 HM6 HB6 HO6 HL6 ⊢
  clear fz5
  have g0 : w6.cell? ⟨g, 0, none⟩ = some (.int .i64 (n : Int)) := HG6.out.cell rfl
  have g8 : w6.cell? ⟨g, 8, none⟩ = some (.slice (some ⟨gl, 0, none⟩) (ws.length + 1) cap) := HG6.out.cell rfl
  have hjn : ¬ (ws.length : Int) + 1 < (n : Int) := by have := HJL.out; omega
  go_quiet (fail)
  have HM7 := Lib.hid (HM6.out.drewN nq)
  have HA7 := Lib.hid (HA6.out.drewN nq)
  have HG7 := Lib.hid (HG6.out.drewN nq)
  have HB7 := Lib.hid (HB6.out.drewN nq)
  have HO7 : Hid ((w6.drewN nq).ownsRow 0 37 1 (.slice (some ⟨gl, 0, none⟩) (ws.length + 1) cap) (ws.length + 1) ((ws ++ [r]).map mkU)) := Lib.hid (owns_sameB HO6.out (fun k hk => rfl))
  have HL7 : Hid (gl < (w6.drewN nq).heap.size) := Lib.hid HL6.out
  generalize w6.drewN nq = w7 at HM7 HA7 HG7 HB7 HO7 HL7 ⊢
  clear g0 g8
  go_wp2_with fail
  have hll : (ws ++ [r]).length = ws.length + 1 := by simp
  refine (ad_result n bo g th num (k + 1) oth gl cap (ws ++ [r]) w7 (by rw [hll]; exact HG7.out) (owns_words (B := 0) (cap := cap) (by rw [hll]; exact HO7.out)) (by rw [hll]; omega) ⟨hn1, hnum⟩ HWS.out).mono ?_
  rw [HY.out]
  rintro e w8 ⟨rfl, hb8⟩
  have HM8 := Lib.hid (HM7.out.of_blocks (hb8.block _ HM7.out.lt1) (hb8.block _ HM7.out.lt2))
  have HA8 := Lib.hid (HA7.out.same (hb8.block _ HA7.out.lt))
  have HG8 := Lib.hid (HG7.out.same (hb8.block _ HG7.out.lt))
  have HB8 := Lib.hid (HB7.out.trans (ButS.of_below hb8))
  have HO8 : Hid (w8.ownsRow 0 37 1 (.slice (some ⟨gl, 0, none⟩) (ws.length + 1) cap) (ws.length + 1) ((ws ++ [r]).map mkU)) := Lib.hid (owns_sameB HO7.out (fun k hk => by cases hk; exact hb8.block _ HL7.out))
  have HL8 : Hid (gl < w8.heap.size) := Lib.hid (Nat.lt_of_lt_of_le HL7.out hb8.size)
  clear hb8 hll
  have a0 : w8.cell? ⟨w.heap.size + 1, 0, none⟩ = some (.int .i64 0) := HA8.out.cell rfl
  have a1 : w8.cell? ⟨w.heap.size + 1, 1, none⟩ = some (.int .u64 0) := HA8.out.cell rfl
  have a2 : w8.cell? ⟨w.heap.size + 1, 2, none⟩ = some (.slice none 0 0) := HA8.out.cell rfl
  have z0 : ∀ j, w8.frozen? ⟨w.heap.size + 1, j, none⟩ = false := fun j => HA8.out.free
  have HX : Hid (RowBlk 39 (((w8.setCell ⟨w.heap.size + 1, 0, none⟩ (.int .i64 0)).setCell ⟨w.heap.size + 1, 1, none⟩ (.int .u64 (y : Int))).setCell ⟨w.heap.size + 1, 2, none⟩ (.slice none 0 0)) (w.heap.size + 1) [.int .i64 0, .int .u64 (y : Int), .slice none 0 0] ∧ RowBlk 163 (((w8.setCell ⟨w.heap.size + 1, 0, none⟩ (.int .i64 0)).setCell ⟨w.heap.size + 1, 1, none⟩ (.int .u64 (y : Int))).setCell ⟨w.heap.size + 1, 2, none⟩ (.slice none 0 0)) g [.int .i64 (n : Int), .int .i64 0, .int .i64 (n : Int), .slice (some ⟨bo, 0, none⟩) n n, .int .i64 (th : Int), .int .u64 (num : Int), .int .i64 ((k : Int) + 1), .bool oth, .slice (some ⟨gl, 0, none⟩) (ws.length + 1) cap] ∧ MemIs 108 (((w8.setCell ⟨w.heap.size + 1, 0, none⟩ (.int .i64 0)).setCell ⟨w.heap.size + 1, 1, none⟩ (.int .u64 (y : Int))).setCell ⟨w.heap.size + 1, 2, none⟩ (.slice none 0 0)) bm bw L2 C2 ∧ ButS (fun b => b = bm ∨ b = bw ∨ (b = g ∨ (.slice ao ws.length cp : Value).ownBlock = some b)) w (((w8.setCell ⟨w.heap.size + 1, 0, none⟩ (.int .i64 0)).setCell ⟨w.heap.size + 1, 1, none⟩ (.int .u64 (y : Int))).setCell ⟨w.heap.size + 1, 2, none⟩ (.slice none 0 0)) ∧ (((w8.setCell ⟨w.heap.size + 1, 0, none⟩ (.int .i64 0)).setCell ⟨w.heap.size + 1, 1, none⟩ (.int .u64 (y : Int))).setCell ⟨w.heap.size + 1, 2, none⟩ (.slice none 0 0)).ownsRow 0 37 1 (.slice (some ⟨gl, 0, none⟩) (ws.length + 1) cap) (ws.length + 1) ((ws ++ [r]).map mkU) ∧ gl < (((w8.setCell ⟨w.heap.size + 1, 0, none⟩ (.int .i64 0)).setCell ⟨w.heap.size + 1, 1, none⟩ (.int .u64 (y : Int))).setCell ⟨w.heap.size + 1, 2, none⟩ (.slice none 0 0)).heap.size) := Lib.hid
    ⟨(((HA8.out.put 0 _).put 1 _).put 2 _), (((HG8.out.other (a := ⟨w.heap.size + 1, 0, none⟩) n1 _).other (a := ⟨w.heap.size + 1, 1, none⟩) n1 _).other (a := ⟨w.heap.size + 1, 2, none⟩) n1 _), (((HM8.out.setNew _ _ (by omega) (by omega)).setNew _ _ (by omega) (by omega)).setNew _ _ (by omega) (by omega)), (((HB8.out.setCell (x := ⟨w.heap.size + 1, 0, none⟩) (.inr (by show w.heap.size ≤ w.heap.size + 1; omega)) _).setCell (x := ⟨w.heap.size + 1, 1, none⟩) (.inr (by show w.heap.size ≤ w.heap.size + 1; omega)) _).setCell (x := ⟨w.heap.size + 1, 2, none⟩) (.inr (by show w.heap.size ≤ w.heap.size + 1; omega)) _), (owns_sameB HO8.out (fun k hk => by obtain rfl : gl = k := Option.some.inj hk; rw [heap_far (show gl ≠ w.heap.size + 1 from HGL2.out), heap_far (show gl ≠ w.heap.size + 1 from HGL2.out), heap_far (show gl ≠ w.heap.size + 1 from HGL2.out)])), by have h1 := HL8.out; simpa [World.setCell] using h1⟩
  go_wp2_with fail
  generalize (((w8.setCell ⟨w.heap.size + 1, 0, none⟩ (.int .i64 0)).setCell ⟨w.heap.size + 1, 1, none⟩ (.int .u64 (y : Int))).setCell ⟨w.heap.size + 1, 2, none⟩ (.slice none 0 0)) = W5 at HX ⊢
  have q0 := HX.out.1.cell (i := 0) rfl
  have q1 := HX.out.1.cell (i := 1) rfl
  have q2 := HX.out.1.cell (i := 2) rfl
  exact bodyPost_ret (v := .tuple #[.agg #[.int .i64 0, .int .u64 (y : Int), .slice none 0 0], .bool true]) (by simp [results, Try.results75, go_sem, q0, q1, q2]) rfl ⟨rfl, HX.out.2.2.1, HX.out.2.2.2.1, gl, cap, HX.out.2.1, HX.out.2.2.2.2.1, HAT5.out.imp id (fun h => by omega), HX.out.2.2.2.2.2⟩
end Go.Proofs.Ytglpalomhhhmhaa
