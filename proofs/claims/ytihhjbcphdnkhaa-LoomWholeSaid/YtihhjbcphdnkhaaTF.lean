/- Walk of the reference's access: a fresh tape that has nothing yet. -/
import Derived.Test.YtihhjbcphdnkhaaTB
import Derived.Test.YtihhjbcphdnkhaaK7
namespace Go.Proofs.Ytihhjbcphdnkhaa
open Go.ChangeShapes Go.WideShapes Go.ChangeAt Go.RowKit
set_option linter.unusedVariables false
set_option linter.unusedSimpArgs false
def TpW (bW bw cap B n : Nat) (l : List Nat) (w : World) : Prop := ∃ (c : Cn) (vM vTr vLog : Value) (nl : Nat) (logs : List Value), RefG 44 [.int .i64 0, vM, vTr, vLog] w bW bw cap l c ∧ w.ownsRow B 111 6 vLog nl logs ∧ nl ≤ n ∧ c.le n
def TpT (bt bW : Nat) (w : World) : Prop := RowBlk 53 w bt (tapeVs bW 0 0 (.slice none 0 0) (.slice none 0 0) 0 true false (.slice none 0 0) 0 0 (.slice none 0 0) (.slice none 0 0))
def SB (bt bW bw B : Nat) (w : World) : Nat → Prop := fun b => b = bt ∨ b = bW ∨ b = bw ∨ (B ≤ b ∧ BlkT w b 111)
theorem owns_blkT {w : World} {B : Nat} {e : TypeId} {n sz : Nat} {v : Value} {xs : List Value} (h : w.ownsRow B e sz v n xs) {b : Nat} (hb : v.ownBlock = some b) : BlkT w b e := by
  obtain ⟨_, ⟨rfl, rfl⟩ | ⟨g, cap, cur, rfl, hg, hb', _⟩⟩ := h
  · simp [Value.ownBlock] at hb
  · have e : g = b := by simpa [Value.ownBlock] using hb
    subst e
    exact ⟨cur, hb'⟩
theorem ButS.trans2 {S S' : Nat → Prop} {a b c : World} (h : ButS S a b) (k : ButS S' b c) (hS : ∀ j, j < a.heap.size → S' j → S j) : ButS S a c :=
  ⟨k.os.trans h.os, k.tape.trans h.tape, k.output.trans h.output, Nat.le_trans h.size k.size, fun j hj hs => (k.block j (Nat.lt_of_lt_of_le hj h.size) (fun e => hs (hS j hj e))).trans (h.block j hj hs)⟩
def Acc0 (bt bW bw cap B n x : Nat) (l' : List Nat) (v : Value) (w : World) (e : Ending) (w' : World) : Prop := e = .returned v ∧ TpW bW bw cap B (n + 1) l' w' ∧ (∃ vG vT, RowBlk 53 w' bt (tapeVs bW 0 0 vG vT 1 false false (.slice none 0 0) 0 0 (.slice none 0 0) (.slice none 0 0))) ∧ ButS (SB bt bW bw B w) w w'
theorem RefG.setLog {t : TypeId} {n1 vM vTr vL vL' : Value} {W : World} {bm bw cap : Nat} {l : List Nat} {c : Cn} (h : RefG t [n1, vM, vTr, vL] W bm bw cap l c) : RefG t [n1, vM, vTr, vL'] (W.setCell ⟨bm, 9, none⟩ vL') bm bw cap l c := by
  obtain ⟨cur, h3, h4⟩ := h.2.1
  refine ⟨?_, ⟨cur, (Below.heap_setCell _ _ _ _ h.2.2.symm).trans h3, h4⟩, h.2.2⟩
  rw [heap_set_self h.1]; rfl
theorem RefG.other {t : TypeId} {R : List Value} {W : World} {bm bw cap : Nat} {l : List Nat} {c : Cn} (h : RefG t R W bm bw cap l c) {a : Addr} (h1 : bm ≠ a.block) (h2 : bw ≠ a.block) (v : Value) : RefG t R (W.setCell a v) bm bw cap l c := h.of_blocks (Below.heap_setCell _ _ _ _ h1) (Below.heap_setCell _ _ _ _ h2)
set_option maxRecDepth 20000 in
set_option maxHeartbeats 8000000 in
theorem access0c (bt bW bw cap B n nl : Nat) (k : Int) (i x y : Nat) (l : List Nat) (c : Cn) (vM vTr vLog : Value) (logs : List Value) (w : World) (hT : TpT bt bW w) (hM : RefG 44 [.int .i64 0, vM, vTr, vLog] w bW bw cap l c) (hL : w.ownsRow B 111 6 vLog nl logs) (hnl : nl ≤ n) (hc : c.le n)
    (hB1 : bw < B) (hB2 : B ≤ w.heap.size) (hi : i < l.length) (hn : l.length ≤ 65536) (hN : n ≤ 70000) :
    Calls Try.prog 26 #[.pointer (some ⟨bt, 0, none⟩), .int .i64 k, .int .i64 i, .int .u64 x, .int .u64 y] w (Acc0 bt bW bw cap B n (stepA k i x y l c).1 (stepA k i x y l c).2.1 (.int .u64 ((stepA k i x y l c).1 : Int)) w) := by
  obtain ⟨iI, ia, ib, ic, id⟩ := info_parts infoIu
  obtain ⟨iU, ua, ub, uc, ud⟩ := info_parts info22
  obtain ⟨iA, ja, jb, jc, jd⟩ := info_parts info06
  have hT' : RowBlk 53 w bt (tapeVs bW 0 0 (.slice none 0 0) (.slice none 0 0) 0 true false (.slice none 0 0) 0 0 (.slice none 0 0) (.slice none 0 0)) := hT
  have t0 : w.cell? ⟨bt, 0, none⟩ = some (.pointer (some ⟨bW, 0, none⟩)) := hT'.cell rfl
  have t1 : w.cell? ⟨bt, 1, none⟩ = some (.int .i64 0) := hT'.cell rfl
  have t3 : w.cell? ⟨bt, 3, none⟩ = some (.slice none 0 0) := hT'.cell rfl
  have t4 : w.cell? ⟨bt, 4, none⟩ = some (.slice none 0 0) := hT'.cell rfl
  have t5 : w.cell? ⟨bt, 5, none⟩ = some (.int .i64 ((0 : Nat) : Int)) := hT'.cell rfl
  have t6 : w.cell? ⟨bt, 6, none⟩ = some (.bool true) := hT'.cell rfl
  have t7 : w.cell? ⟨bt, 7, none⟩ = some (.bool false) := hT'.cell rfl
  have ft : ∀ j, w.frozen? ⟨bt, j, none⟩ = false := fun j => hT'.free
  have m0 := hM.c0
  have hne2 : bt ≠ bw := fun e => by
    obtain ⟨cur, h2, _⟩ := hM.2.1
    have h1 := hT'
    subst e
    unfold RowBlk at h1
    rw [h1] at h2
    simp at h2
  obtain ⟨old, hold⟩ : ∃ old, l[i]? = some old := ⟨l[i], List.getElem?_eq_getElem hi⟩
  have mw := hM.word hold
  have hne3 : bw ≠ bt := fun e => hne2 e.symm
  have z3 : (0 : Int) ≤ (i : Int) := Int.natCast_nonneg _
  have z4 : (i : Int) < (l.length : Int) := by omega
  have z5 : decide ((i : Int) ≥ 0) = true := decide_eq_true (by omega)
  have HT := Lib.hid hT'
  have HL := Lib.hid hL
  have HM := Lib.hid hM
  have hne1 : bW ≠ bt := fun e => by
    have h1 := HT.out
    have h2 := HM.out.1
    subst e
    unfold RowBlk at h1
    rw [h1] at h2
    simp at h2
  have hlen := hn
  clear hT hT' hL hM
  go_enter Try.func26, Try.ntmps26
  go_wp2_with fail
  go_quiet (fail)
  go_wp2_with fail
  have HM1 : Hid (RefG 44 [.int .i64 0, vM, vTr, vLog] ((w.drewN nq).setCell ⟨bt, 6, none⟩ (.bool false)) bW bw cap l c) := Lib.hid (HM.out.of_blocks (Below.heap_setCell _ _ _ _ hne1) (Below.heap_setCell _ _ _ _ hne3))
  refine (gacc_any _ _ bW bw cap k i x y l c _ HM1.out hn n hc (by omega)).mono ?_
  rintro e w2 ⟨rfl, hM2, hb2⟩
  have HT2 : Hid (RowBlk 53 w2 bt (tapeVs bW 0 0 (.slice none 0 0) (.slice none 0 0) 0 false false (.slice none 0 0) 0 0 (.slice none 0 0) (.slice none 0 0))) := Lib.hid (RowBlk.same (HT.out.put 6 (.bool false)) (by
    rw [hb2.block bt (by simpa [World.setCell] using HT.out.lt) hne1.symm hne2]; rfl))
  have HF : Hid (∀ b, b < w.heap.size → b ≠ bt → b ≠ bW → b ≠ bw → w2.heap[b]? = w.heap[b]?) := Lib.hid (fun b hb h1 h2 h3 => by
    rw [hb2.block b (by simpa [World.setCell] using hb) h2 h3]; exact Below.heap_setCell _ _ _ _ h1)
  have hs2 : w.heap.size ≤ w2.heap.size := by have := hb2.size; simpa [World.setCell] using this
  have HB2 : Hid (ButS (SB bt bW bw B w) w w2) := Lib.hid (((ButS.refl _ w).drewN nq).setCell (.inl (.inl rfl)) _ |>.trans (ButS.of_but hb2 (.inr (.inl rfl)) (.inr (.inr (.inl rfl)))))
  obtain ⟨v, l', c', hst⟩ : ∃ v l' c', stepA k i x y l c = (v, l', c') := ⟨_, _, _, rfl⟩
  have hll : l'.length = l.length := by have := stepA_len k i x y l c; rw [hst] at this; exact this
  have HCL : Hid (c'.le (n + 1)) := Lib.hid (by have := stepA_le k i x y l c n hc; rw [hst] at this; exact this)
  rw [hst] at hM2 ⊢
  have HM2 : Hid (RefG 44 [.int .i64 0, vM, vTr, vLog] w2 bW bw cap l' c') := Lib.hid hM2
  have HST := Lib.hid hst
  clear hM2 hb2 hst
  have HMb : Hid (RowBlk 44 w bW (.slice (some ⟨bw, 0, none⟩) l.length cap :: .int .i64 (c.r : Int) :: .int .i64 (c.w : Int) :: .int .i64 (c.s : Int) :: .int .i64 (c.a : Int) :: .int .i64 (c.f : Int) :: [.int .i64 0, vM, vTr, vLog])) := Lib.hid HM.out.1
  have HL2 : Hid (w2.ownsRow B 111 6 vLog nl logs) := Lib.hid (owns_sameB HL.out (fun b hb => HF.out b (HL.out.lt b hb).2 (fun e => row_owns_ne HT.out HL.out (by decide) (e ▸ hb)) (fun e => row_owns_ne HMb.out HL.out (by decide) (e ▸ hb)) (fun e => by have := (HL.out.lt b hb).1; omega)))
  obtain ⟨nw, hnw⟩ : ∃ nw, l'[i]? = some nw := ⟨l'[i]'(by omega), List.getElem?_eq_getElem (by omega)⟩
  clear t0 t1 t3 t4 t5 t6 t7 ft m0 mw
  have t0 : w2.cell? ⟨bt, 0, none⟩ = some (.pointer (some ⟨bW, 0, none⟩)) := HT2.out.cell rfl
  have t1 : w2.cell? ⟨bt, 1, none⟩ = some (.int .i64 0) := HT2.out.cell rfl
  have m0 := HM2.out.c0
  have m6 : w2.cell? ⟨bW, 6, none⟩ = some (.int .i64 0) := cell_of_heap HM2.out.1 (by simp)
  have m9 : w2.cell? ⟨bW, 9, none⟩ = some vLog := cell_of_heap HM2.out.1 (by simp)
  have mw := HM2.out.word hnw
  have z6 : (i : Int) < (l'.length : Int) := by omega
  have hB22 : B ≤ w2.heap.size := by omega
  have hnl' : nl ≤ 4294967296 := by omega
  obtain ⟨agL, gL, cL, hvL, _⟩ := owns_open HL2.out
  subst hvL
  have HMR : Hid (w2.heap[bW]? = some (.cells (Value.slice (some ⟨bw, 0, none⟩) l'.length cap :: .int .i64 (c'.r : Int) :: .int .i64 (c'.w : Int) :: .int .i64 (c'.s : Int) :: .int .i64 (c'.a : Int) :: .int .i64 (c'.f : Int) :: [.int .i64 0, vM, vTr, .slice agL nl cL]).toArray 44 (0, 0))) := Lib.hid HM2.out.1
  have HLW : Hid (some bW ≠ (Value.slice agL nl cL).ownBlock) := Lib.hid (fun e => row_owns_ne (t := 44) (g := bW) (w := w2) HMR.out HL2.out (by decide) e.symm)
  have HLT : Hid (some bt ≠ (Value.slice agL nl cL).ownBlock) := Lib.hid (fun e => row_owns_ne HT2.out HL2.out (by decide) e.symm)
  have HLb : Hid (some bw ≠ (Value.slice agL nl cL).ownBlock) := Lib.hid (fun e => by have := (HL2.out.lt bw e.symm).1; omega)
  have hbl2 := HM2.out.lt1
  have hbt2 := HT2.out.lt
  have hbw2 := HM2.out.lt2
  go_wp2_with fail
  clear hll hs2
  refine wp_region_tail (S := fun w' => w'.cell? ⟨bt, 0, none⟩ = some (.pointer (some ⟨bW, 0, none⟩)) ∧ w'.cell? ⟨bt, 1, none⟩ = some (.int .i64 0) ∧ w'.cell? ⟨bW, 0, none⟩ = some (.slice (some ⟨bw, 0, none⟩) l'.length cap) ∧ w'.cell? ⟨bW, 6, none⟩ = some (.int .i64 0) ∧ w'.cell? ⟨bW, 9, none⟩ = some (.slice agL nl cL) ∧ w'.cell? ⟨bw, i, none⟩ = some (.int .u64 (nw : Int))) 39 (by kernel_rfl) (by kernel_rfl) ?_ (fun hHeld => ?_)
  · first | with_reducible exact ⟨t0, t1, m0, m6, m9, mw⟩ | go_keep
  simp only [List.take_succ_cons, List.take_zero]
  refine wpAnyH_take (i := 0) (oi := _) (v := ?v0) rfl (by kernel_rfl) (by kernel_rfl) (by kernel_rfl) (fun _ _ _ h => h) (Or.inl ⟨by kernel_rfl, ?hy0⟩) (by assumption) ?rest0
  case hy0 => (intro w hSw; (try dsimp only at hSw); go_simp <;> with_reducible rfl)
  try simp only [Act.put, List.getElem_toArray, List.getElem_cons_zero, List.getElem_cons_succ, List.setIfInBounds_toArray, List.set_cons_zero, List.set_cons_succ]
  refine wpAnyH_take (i := 1) (oi := _) (v := ?v1) rfl (by kernel_rfl) (by kernel_rfl) (by kernel_rfl) (fun _ _ _ h => h) (Or.inl ⟨by kernel_rfl, ?hy1⟩) (by assumption) ?rest1
  case hy1 => (intro w hSw; (try dsimp only at hSw); go_simp <;> with_reducible rfl)
  try simp only [Act.put, List.getElem_toArray, List.getElem_cons_zero, List.getElem_cons_succ, List.setIfInBounds_toArray, List.set_cons_zero, List.set_cons_succ]
  refine wpAnyH_take (i := 2) (oi := _) (v := ?v2) rfl (by kernel_rfl) (by kernel_rfl) (by kernel_rfl) (fun _ _ _ h => h) (Or.inl ⟨by kernel_rfl, ?hy2⟩) (by assumption) ?rest2
  case hy2 => (intro w hSw; (try dsimp only at hSw); go_simp <;> with_reducible rfl)
  try simp only [Act.put, List.getElem_toArray, List.getElem_cons_zero, List.getElem_cons_succ, List.setIfInBounds_toArray, List.set_cons_zero, List.set_cons_succ]
  refine wpAnyH_take (i := 3) (oi := _) (v := ?v3) rfl (by kernel_rfl) (by kernel_rfl) (by kernel_rfl) (fun _ _ _ h => h) (Or.inl ⟨by kernel_rfl, ?hy3⟩) (by assumption) ?rest3
  case hy3 => (intro w hSw; (try dsimp only at hSw); go_simp <;> with_reducible rfl)
  try simp only [Act.put, List.getElem_toArray, List.getElem_cons_zero, List.getElem_cons_succ, List.setIfInBounds_toArray, List.set_cons_zero, List.set_cons_succ]
  refine wpAnyH_take (i := 4) (oi := _) (v := ?v4) rfl (by kernel_rfl) (by kernel_rfl) (by kernel_rfl) (fun _ _ _ h => h) (Or.inl ⟨by kernel_rfl, ?hy4⟩) (by assumption) ?rest4
  case hy4 => (intro w hSw; (try dsimp only at hSw); go_simp <;> with_reducible rfl)
  try simp only [Act.put, List.getElem_toArray, List.getElem_cons_zero, List.getElem_cons_succ, List.setIfInBounds_toArray, List.set_cons_zero, List.set_cons_succ]
  refine wpAnyH_take (i := 5) (oi := _) (v := ?v5) rfl (by kernel_rfl) (by kernel_rfl) (by kernel_rfl) (fun _ _ _ h => h) (Or.inl ⟨by kernel_rfl, ?hy5⟩) (by assumption) ?rest5
  case hy5 => (intro w hSw; (try dsimp only at hSw); go_simp <;> with_reducible rfl)
  try simp only [Act.put, List.getElem_toArray, List.getElem_cons_zero, List.getElem_cons_succ, List.setIfInBounds_toArray, List.set_cons_zero, List.set_cons_succ]
  refine wpAnyH_take (i := 6) (oi := _) (v := ?v6) rfl (by kernel_rfl) (by kernel_rfl) (by kernel_rfl) (fun _ _ _ h => h) (Or.inl ⟨by kernel_rfl, ?hy6⟩) (by assumption) ?rest6
  case hy6 => (intro w hSw; (try dsimp only at hSw); go_simp <;> with_reducible rfl)
  try simp only [Act.put, List.getElem_toArray, List.getElem_cons_zero, List.getElem_cons_succ, List.setIfInBounds_toArray, List.set_cons_zero, List.set_cons_succ]
  refine wpAnyH_take (i := 7) (oi := _) (v := ?v7) rfl (by kernel_rfl) (by kernel_rfl) (by kernel_rfl) (fun _ _ _ h => h) (Or.inl ⟨by kernel_rfl, ?hy7⟩) (by assumption) ?rest7
  case hy7 => (intro w hSw; (try dsimp only at hSw); go_simp <;> with_reducible rfl)
  try simp only [Act.put, List.getElem_toArray, List.getElem_cons_zero, List.getElem_cons_succ, List.setIfInBounds_toArray, List.set_cons_zero, List.set_cons_succ]
  refine wpAnyH_take (i := 8) (oi := _) (v := ?v8) rfl (by kernel_rfl) (by kernel_rfl) (by kernel_rfl) (fun _ _ _ h => h) (Or.inl ⟨by kernel_rfl, ?hy8⟩) (by assumption) ?rest8
  case hy8 => (intro w hSw; (try dsimp only at hSw); go_simp <;> with_reducible rfl)
  try simp only [Act.put, List.getElem_toArray, List.getElem_cons_zero, List.getElem_cons_succ, List.setIfInBounds_toArray, List.set_cons_zero, List.set_cons_succ]
  refine wpAnyH_take (i := 9) (oi := _) (v := ?v9) rfl (by kernel_rfl) (by kernel_rfl) (by kernel_rfl) (fun _ _ _ h => h) (Or.inl ⟨by kernel_rfl, ?hy9⟩) (by assumption) ?rest9
  case hy9 => (intro w hSw; (try dsimp only at hSw); go_simp <;> with_reducible rfl)
  try simp only [Act.put, List.getElem_toArray, List.getElem_cons_zero, List.getElem_cons_succ, List.setIfInBounds_toArray, List.set_cons_zero, List.set_cons_succ]
  refine wpAnyH_take (i := 10) (oi := _) (v := ?v10) rfl (by kernel_rfl) (by kernel_rfl) (by kernel_rfl) (fun _ _ _ h => h) (Or.inl ⟨by kernel_rfl, ?hy10⟩) (by assumption) ?rest10
  case hy10 => (intro w hSw; (try dsimp only at hSw); go_simp <;> with_reducible rfl)
  try simp only [Act.put, List.getElem_toArray, List.getElem_cons_zero, List.getElem_cons_succ, List.setIfInBounds_toArray, List.set_cons_zero, List.set_cons_succ]
  refine wpAnyH_take (i := 11) (oi := _) (v := ?v11) rfl (by kernel_rfl) (by kernel_rfl) (by kernel_rfl) (fun _ _ _ h => h) (Or.inl ⟨by kernel_rfl, ?hy11⟩) (by assumption) ?rest11
  case hy11 => (intro w hSw; (try dsimp only at hSw); go_simp <;> with_reducible rfl)
  try simp only [Act.put, List.getElem_toArray, List.getElem_cons_zero, List.getElem_cons_succ, List.setIfInBounds_toArray, List.set_cons_zero, List.set_cons_succ]
  refine wpAnyH_take (i := 12) (oi := _) (v := ?v12) rfl (by kernel_rfl) (by kernel_rfl) (by kernel_rfl) (fun _ _ _ h => h) (Or.inl ⟨by kernel_rfl, ?hy12⟩) (by assumption) ?rest12
  case hy12 => (intro w hSw; (try dsimp only at hSw); go_simp <;> with_reducible rfl)
  try simp only [Act.put, List.getElem_toArray, List.getElem_cons_zero, List.getElem_cons_succ, List.setIfInBounds_toArray, List.set_cons_zero, List.set_cons_succ]
  refine wpAnyH_take (i := 13) (oi := _) (v := ?v13) rfl (by kernel_rfl) (by kernel_rfl) (by kernel_rfl) (fun _ _ _ h => h) (Or.inl ⟨by kernel_rfl, ?hy13⟩) (by assumption) ?rest13
  case hy13 => (intro w hSw; (try dsimp only at hSw); go_simp <;> with_reducible rfl)
  try simp only [Act.put, List.getElem_toArray, List.getElem_cons_zero, List.getElem_cons_succ, List.setIfInBounds_toArray, List.set_cons_zero, List.set_cons_succ]
  refine wpAnyH_take (i := 14) (oi := _) (v := ?v14) rfl (by kernel_rfl) (by kernel_rfl) (by kernel_rfl) (fun _ _ _ h => h) (Or.inl ⟨by kernel_rfl, ?hy14⟩) (by assumption) ?rest14
  case hy14 => (intro w hSw; (try dsimp only at hSw); go_simp <;> with_reducible rfl)
  try simp only [Act.put, List.getElem_toArray, List.getElem_cons_zero, List.getElem_cons_succ, List.setIfInBounds_toArray, List.set_cons_zero, List.set_cons_succ]
  refine wpAnyH_take (i := 15) (oi := _) (v := ?v15) rfl (by kernel_rfl) (by kernel_rfl) (by kernel_rfl) (fun _ _ _ h => h) (Or.inl ⟨by kernel_rfl, ?hy15⟩) (by assumption) ?rest15
  case hy15 => (intro w hSw; (try dsimp only at hSw); go_simp <;> with_reducible rfl)
  try simp only [Act.put, List.getElem_toArray, List.getElem_cons_zero, List.getElem_cons_succ, List.setIfInBounds_toArray, List.set_cons_zero, List.set_cons_succ]
  refine wpAnyH_take (i := 16) (oi := _) (v := ?v16) rfl (by kernel_rfl) (by kernel_rfl) (by kernel_rfl) (fun _ _ _ h => h) (Or.inl ⟨by kernel_rfl, ?hy16⟩) (by assumption) ?rest16
  case hy16 => (intro w hSw; (try dsimp only at hSw); go_simp <;> with_reducible rfl)
  try simp only [Act.put, List.getElem_toArray, List.getElem_cons_zero, List.getElem_cons_succ, List.setIfInBounds_toArray, List.set_cons_zero, List.set_cons_succ]
  refine wpAnyH_take (i := 17) (oi := _) (v := ?v17) rfl (by kernel_rfl) (by kernel_rfl) (by kernel_rfl) (fun _ _ _ h => h) (Or.inl ⟨by kernel_rfl, ?hy17⟩) (by assumption) ?rest17
  case hy17 => (intro w hSw; (try dsimp only at hSw); go_simp <;> with_reducible rfl)
  try simp only [Act.put, List.getElem_toArray, List.getElem_cons_zero, List.getElem_cons_succ, List.setIfInBounds_toArray, List.set_cons_zero, List.set_cons_succ]
  refine wpAnyH_take (i := 18) (oi := _) (v := ?v18) rfl (by kernel_rfl) (by kernel_rfl) (by kernel_rfl) (fun _ _ _ h => h) (Or.inl ⟨by kernel_rfl, ?hy18⟩) (by assumption) ?rest18
  case hy18 => (intro w hSw; (try dsimp only at hSw); go_simp <;> with_reducible rfl)
  try simp only [Act.put, List.getElem_toArray, List.getElem_cons_zero, List.getElem_cons_succ, List.setIfInBounds_toArray, List.set_cons_zero, List.set_cons_succ]
  refine wpAnyH_take (i := 19) (oi := _) (v := ?v19) rfl (by kernel_rfl) (by kernel_rfl) (by kernel_rfl) (fun _ _ _ h => h) (Or.inl ⟨by kernel_rfl, ?hy19⟩) (by assumption) ?rest19
  case hy19 => (intro w hSw; (try dsimp only at hSw); go_simp <;> with_reducible rfl)
  try simp only [Act.put, List.getElem_toArray, List.getElem_cons_zero, List.getElem_cons_succ, List.setIfInBounds_toArray, List.set_cons_zero, List.set_cons_succ]
  refine wpAnyH_take (i := 20) (oi := _) (v := ?v20) rfl (by kernel_rfl) (by kernel_rfl) (by kernel_rfl) (fun _ _ _ h => h) (Or.inl ⟨by kernel_rfl, ?hy20⟩) (by assumption) ?rest20
  case hy20 => (intro w hSw; (try dsimp only at hSw); go_simp <;> with_reducible rfl)
  try simp only [Act.put, List.getElem_toArray, List.getElem_cons_zero, List.getElem_cons_succ, List.setIfInBounds_toArray, List.set_cons_zero, List.set_cons_succ]
  refine wpAnyH_take (i := 21) (oi := _) (v := ?v21) rfl (by kernel_rfl) (by kernel_rfl) (by kernel_rfl) (fun _ _ _ h => h) (Or.inl ⟨by kernel_rfl, ?hy21⟩) (by assumption) ?rest21
  case hy21 => (intro w hSw; (try dsimp only at hSw); go_simp <;> with_reducible rfl)
  try simp only [Act.put, List.getElem_toArray, List.getElem_cons_zero, List.getElem_cons_succ, List.setIfInBounds_toArray, List.set_cons_zero, List.set_cons_succ]
  refine wpAnyH_take (i := 22) (oi := _) (v := ?v22) rfl (by kernel_rfl) (by kernel_rfl) (by kernel_rfl) (fun _ _ _ h => h) (Or.inl ⟨by kernel_rfl, ?hy22⟩) (by assumption) ?rest22
  case hy22 => (intro w hSw; (try dsimp only at hSw); go_simp <;> with_reducible rfl)
  try simp only [Act.put, List.getElem_toArray, List.getElem_cons_zero, List.getElem_cons_succ, List.setIfInBounds_toArray, List.set_cons_zero, List.set_cons_succ]
  refine wpAnyH_take (i := 23) (oi := _) (v := ?v23) rfl (by kernel_rfl) (by kernel_rfl) (by kernel_rfl) (fun _ _ _ h => h) (Or.inl ⟨by kernel_rfl, ?hy23⟩) (by assumption) ?rest23
  case hy23 => (intro w hSw; (try dsimp only at hSw); go_simp <;> with_reducible rfl)
  try simp only [Act.put, List.getElem_toArray, List.getElem_cons_zero, List.getElem_cons_succ, List.setIfInBounds_toArray, List.set_cons_zero, List.set_cons_succ]
  refine wpAnyH_take (i := 24) (oi := _) (v := ?v24) rfl (by kernel_rfl) (by kernel_rfl) (by kernel_rfl) (fun _ _ _ h => h) (Or.inl ⟨by kernel_rfl, ?hy24⟩) (by assumption) ?rest24
  case hy24 => (intro w hSw; (try dsimp only at hSw); go_simp <;> with_reducible rfl)
  try simp only [Act.put, List.getElem_toArray, List.getElem_cons_zero, List.getElem_cons_succ, List.setIfInBounds_toArray, List.set_cons_zero, List.set_cons_succ]
  refine wpAnyH_take (i := 25) (oi := _) (v := ?v25) rfl (by kernel_rfl) (by kernel_rfl) (by kernel_rfl) (fun _ _ _ h => h) (Or.inl ⟨by kernel_rfl, ?hy25⟩) (by assumption) ?rest25
  case hy25 => (intro w hSw; (try dsimp only at hSw); go_simp <;> with_reducible rfl)
  try simp only [Act.put, List.getElem_toArray, List.getElem_cons_zero, List.getElem_cons_succ, List.setIfInBounds_toArray, List.set_cons_zero, List.set_cons_succ]
  refine wpAnyH_take (i := 26) (oi := _) (v := ?v26) rfl (by kernel_rfl) (by kernel_rfl) (by kernel_rfl) (fun _ _ _ h => h) (Or.inl ⟨by kernel_rfl, ?hy26⟩) (by assumption) ?rest26
  case hy26 => (intro w hSw; (try dsimp only at hSw); go_simp <;> with_reducible rfl)
  try simp only [Act.put, List.getElem_toArray, List.getElem_cons_zero, List.getElem_cons_succ, List.setIfInBounds_toArray, List.set_cons_zero, List.set_cons_succ]
  refine wpAnyH_take (i := 27) (oi := _) (v := ?v27) rfl (by kernel_rfl) (by kernel_rfl) (by kernel_rfl) (fun _ _ _ h => h) (Or.inl ⟨by kernel_rfl, ?hy27⟩) (by assumption) ?rest27
  case hy27 => (intro w hSw; (try dsimp only at hSw); go_simp <;> with_reducible rfl)
  try simp only [Act.put, List.getElem_toArray, List.getElem_cons_zero, List.getElem_cons_succ, List.setIfInBounds_toArray, List.set_cons_zero, List.set_cons_succ]
  refine wpAnyH_take (i := 28) (oi := _) (v := ?v28) rfl (by kernel_rfl) (by kernel_rfl) (by kernel_rfl) (fun _ _ _ h => h) (Or.inl ⟨by kernel_rfl, ?hy28⟩) (by assumption) ?rest28
  case hy28 => (intro w hSw; (try dsimp only at hSw); go_simp <;> with_reducible rfl)
  try simp only [Act.put, List.getElem_toArray, List.getElem_cons_zero, List.getElem_cons_succ, List.setIfInBounds_toArray, List.set_cons_zero, List.set_cons_succ]
  refine wpAnyH_take (i := 29) (oi := _) (v := ?v29) rfl (by kernel_rfl) (by kernel_rfl) (by kernel_rfl) (fun _ _ _ h => h) (Or.inl ⟨by kernel_rfl, ?hy29⟩) (by assumption) ?rest29
  case hy29 => (intro w hSw; (try dsimp only at hSw); go_simp <;> with_reducible rfl)
  try simp only [Act.put, List.getElem_toArray, List.getElem_cons_zero, List.getElem_cons_succ, List.setIfInBounds_toArray, List.set_cons_zero, List.set_cons_succ]
  refine wpAnyH_take (i := 30) (oi := _) (v := ?v30) rfl (by kernel_rfl) (by kernel_rfl) (by kernel_rfl) (fun _ _ _ h => h) (Or.inl ⟨by kernel_rfl, ?hy30⟩) (by assumption) ?rest30
  case hy30 => (intro w hSw; (try dsimp only at hSw); go_simp <;> with_reducible rfl)
  try simp only [Act.put, List.getElem_toArray, List.getElem_cons_zero, List.getElem_cons_succ, List.setIfInBounds_toArray, List.set_cons_zero, List.set_cons_succ]
  refine wpAnyH_take (i := 31) (oi := _) (v := ?v31) rfl (by kernel_rfl) (by kernel_rfl) (by kernel_rfl) (fun _ _ _ h => h) (Or.inl ⟨by kernel_rfl, ?hy31⟩) (by assumption) ?rest31
  case hy31 => (intro w hSw; (try dsimp only at hSw); go_simp <;> with_reducible rfl)
  try simp only [Act.put, List.getElem_toArray, List.getElem_cons_zero, List.getElem_cons_succ, List.setIfInBounds_toArray, List.set_cons_zero, List.set_cons_succ]
  refine wpAnyH_take (i := 32) (oi := _) (v := ?v32) rfl (by kernel_rfl) (by kernel_rfl) (by kernel_rfl) (fun _ _ _ h => h) (Or.inl ⟨by kernel_rfl, ?hy32⟩) (by assumption) ?rest32
  case hy32 => (intro w hSw; (try dsimp only at hSw); go_simp <;> with_reducible rfl)
  try simp only [Act.put, List.getElem_toArray, List.getElem_cons_zero, List.getElem_cons_succ, List.setIfInBounds_toArray, List.set_cons_zero, List.set_cons_succ]
  refine wpAnyH_take (i := 33) (oi := _) (v := ?v33) rfl (by kernel_rfl) (by kernel_rfl) (by kernel_rfl) (fun _ _ _ h => h) (Or.inl ⟨by kernel_rfl, ?hy33⟩) (by assumption) ?rest33
  case hy33 => (intro w hSw; (try dsimp only at hSw); go_simp <;> with_reducible rfl)
  try simp only [Act.put, List.getElem_toArray, List.getElem_cons_zero, List.getElem_cons_succ, List.setIfInBounds_toArray, List.set_cons_zero, List.set_cons_succ]
  refine wpAnyH_take (i := 34) (oi := _) (v := ?v34) rfl (by kernel_rfl) (by kernel_rfl) (by kernel_rfl) (fun _ _ _ h => h) (Or.inl ⟨by kernel_rfl, ?hy34⟩) (by assumption) ?rest34
  case hy34 => (intro w hSw; (try dsimp only at hSw); go_simp <;> with_reducible rfl)
  try simp only [Act.put, List.getElem_toArray, List.getElem_cons_zero, List.getElem_cons_succ, List.setIfInBounds_toArray, List.set_cons_zero, List.set_cons_succ]
  refine wpAnyH_take (i := 35) (oi := _) (v := ?v35) rfl (by kernel_rfl) (by kernel_rfl) (by kernel_rfl) (fun _ _ _ h => h) (Or.inl ⟨by kernel_rfl, ?hy35⟩) (by assumption) ?rest35
  case hy35 => (intro w hSw; (try dsimp only at hSw); go_simp <;> with_reducible rfl)
  try simp only [Act.put, List.getElem_toArray, List.getElem_cons_zero, List.getElem_cons_succ, List.setIfInBounds_toArray, List.set_cons_zero, List.set_cons_succ]
  refine wpAnyH_take (i := 36) (oi := _) (v := ?v36) rfl (by kernel_rfl) (by kernel_rfl) (by kernel_rfl) (fun _ _ _ h => h) (Or.inl ⟨by kernel_rfl, ?hy36⟩) (by assumption) ?rest36
  case hy36 => (intro w hSw; (try dsimp only at hSw); go_simp <;> with_reducible rfl)
  try simp only [Act.put, List.getElem_toArray, List.getElem_cons_zero, List.getElem_cons_succ, List.setIfInBounds_toArray, List.set_cons_zero, List.set_cons_succ]
  refine wpAnyH_ready (rs := [37]) (by kernel_rfl) (by simp) ?_
  refine AllReadyH.cons (o := _) rfl (fun K hK => ?_) AllReadyH.nil
  go_simp
  refine hK.out _ _ ?_ (fun hHeld2 => ?_)
  · exact ⟨(World.cell?_alloc_past _ _ _ (by exact hbt2)).trans t0, (World.cell?_alloc_past _ _ _ (by exact hbt2)).trans t1, (World.cell?_alloc_past _ _ _ (by exact hbl2)).trans m0, (World.cell?_alloc_past _ _ _ (by exact hbl2)).trans m6, (World.cell?_alloc_past _ _ _ (by exact hbl2)).trans m9, (World.cell?_alloc_past _ _ _ (by exact hbw2)).trans mw⟩
  clear hK K hHeld
  try simp only [Act.put, List.getElem_toArray, List.getElem_cons_zero, List.getElem_cons_succ, List.setIfInBounds_toArray, List.set_cons_zero, List.set_cons_succ]
  refine wpAnyH_ready (rs := [38]) (by kernel_rfl) (by simp) ?_
  refine AllReadyH.cons (o := _) rfl (fun K hK => ?_) AllReadyH.nil
  refine step_append_g (w := w2.drew) rfl _ _ 42 rfl B 111 iA (.agg #[.int .i64 0, .int .i64 0, .int .i64 0, .int .i64 0, .int .u64 0, .int .u64 0]) 6 48 Try.underlying42 ja jb jc jd rfl (by decide) (by decide) _ nl _ rfl (owns_sameB HL2.out (fun _ _ => rfl)) [.int .i64 0, .int .i64 0, .int .i64 k, .int .i64 (i : Int), .int .u64 (old : Int), .int .u64 (nw : Int)] rfl rfl rfl hnl' hB22 ?_
  intro v3 w3 ho3 hg3 _
  have b3t : w3.heap[bt]? = w2.heap[bt]? := hg3.block bt hbt2 HLT.out
  have b3W : w3.heap[bW]? = w2.heap[bW]? := hg3.block bW hbl2 HLW.out
  have b3w : w3.heap[bw]? = w2.heap[bw]? := hg3.block bw hbw2 HLb.out
  have HT3 := Lib.hid (HT2.out.same b3t)
  have HM3 := Lib.hid (HM2.out.of_blocks b3W b3w)
  have HB3 : Hid (ButS (SB bt bW bw B w) w w3) := Lib.hid (HB2.out.drew.trans (ButS.of_grown hg3 (fun k hk => .inr (.inr (.inr ⟨(HL2.out.lt k hk).1, owns_blkT HL.out hk⟩)))))
  have hsz3 : w2.heap.size ≤ w3.heap.size := hg3.size
  refine hK.out _ _ ?_ (fun hHeld3 => ?_)
  · exact ⟨HT3.out.cell (i := 0) rfl, HT3.out.cell (i := 1) rfl, HM3.out.c0, cell_of_heap HM3.out.1 (by simp), cell_of_heap HM3.out.1 (by simp), HM3.out.word hnw⟩
  clear hK K hHeld2 hHeld3
  obtain ⟨a3, g3, c3, hv3, ha3, _⟩ := owns_open ho3
  obtain rfl := ha3 (by omega)
  subst hv3
  clear ha3
  have HL4 : Hid ((w3.setCell ⟨bW, 9, none⟩ (.slice (some ⟨g3, 0, none⟩) (nl + 1) c3)).ownsRow B 111 6 (.slice (some ⟨g3, 0, none⟩) (nl + 1) c3) (nl + 1) (logs ++ [.int .i64 0, .int .i64 0, .int .i64 k, .int .i64 (i : Int), .int .u64 (old : Int), .int .u64 (nw : Int)])) := Lib.hid (owns_sameB ho3 (fun b hb => Below.heap_setCell _ _ _ _ (fun e => row_owns_ne (t := 44) (g := bW) (w := w3) HM3.out.1 ho3 (by decide) ((show b = bW from e) ▸ hb))))
  have HM4 : Hid (RefG 44 [.int .i64 0, vM, vTr, .slice (some ⟨g3, 0, none⟩) (nl + 1) c3] (w3.setCell ⟨bW, 9, none⟩ (.slice (some ⟨g3, 0, none⟩) (nl + 1) c3)) bW bw cap l' c') := Lib.hid HM3.out.setLog
  have HT4 : Hid (RowBlk 53 (w3.setCell ⟨bW, 9, none⟩ (.slice (some ⟨g3, 0, none⟩) (nl + 1) c3)) bt (tapeVs bW 0 0 (.slice none 0 0) (.slice none 0 0) 0 false false (.slice none 0 0) 0 0 (.slice none 0 0) (.slice none 0 0))) := Lib.hid (HT3.out.other (a := ⟨bW, 9, none⟩) (fun e => hne1 e.symm) _)
  have HB4 : Hid (ButS (SB bt bW bw B w) w (w3.setCell ⟨bW, 9, none⟩ (.slice (some ⟨g3, 0, none⟩) (nl + 1) c3))) := Lib.hid (HB3.out.setCell (.inl (.inr (.inl rfl))) _)
  clear t0 t1 m0 m6 m9 mw ho3 hg3 b3t b3W b3w
  have q9c : w3.cell? ⟨bW, 9, none⟩ = some (.slice agL nl cL) := cell_of_heap HM3.out.1 (by simp)
  have q9f : w3.frozen? ⟨bW, 9, none⟩ = false := HM3.out.fz 9
  have t3 : w3.cell? ⟨bt, 3, none⟩ = some (.slice none 0 0) := HT3.out.cell rfl
  have ft3 : w3.frozen? ⟨bt, 3, none⟩ = false := HT3.out.free
  have hB33 : B ≤ (w3.setCell ⟨bW, 9, none⟩ (.slice (some ⟨g3, 0, none⟩) (nl + 1) c3)).heap.size := by simp [World.setCell]; omega
  have hzz : (w3.setCell ⟨bW, 9, none⟩ (.slice (some ⟨g3, 0, none⟩) (nl + 1) c3)).heap.size = w3.heap.size := by simp [World.setCell]
  have HZZ := Lib.hid hzz
  have hbt3 : bt < w3.heap.size := by omega
  have hbl3 : bW < w3.heap.size := by omega
  clear hzz hsz3
  try simp only [Act.put, List.getElem_toArray, List.getElem_cons_zero, List.getElem_cons_succ, List.setIfInBounds_toArray, List.set_cons_zero, List.set_cons_succ]
  refine wpAnyH_done (by kernel_rfl) ?_ _
  dsimp only [tailQ]
  simp only [List.drop_succ_cons, List.drop_zero, List.take_succ_cons, List.take_zero, List.getElem_cons_succ, List.getElem_cons_zero, List.set_cons_zero, List.set_cons_succ]
  go_wp2_with fail
  obtain ⟨c5, hc5⟩ : ∃ c5, c5 = (Question.appendCap 1 0 46).cut (w3.tape w3.drawn (Question.appendCap 1 0 46)) := ⟨_, rfl⟩
  rw [← hc5]
  clear hc5
  generalize (#[Value.int .u64 (v : Int)] ++ Builtin.zeroCells #[Value.int .u64 0] (c5 - 1)) = oc
  have HX : Hid (ButS (fun b => b = bt) (w3.setCell ⟨bW, 9, none⟩ (.slice (some ⟨g3, 0, none⟩) (nl + 1) c3)) (((((w3.setCell ⟨bW, 9, none⟩ (.slice (some ⟨g3, 0, none⟩) (nl + 1) c3)).setCell ⟨bt, 3, none⟩ (.slice (some ⟨w3.heap.size + 1, 0, none⟩) 1 c5)).alloc (.cells #[.int .u64 (v : Int)] 46)).alloc (.cells oc 46)).drew)) := Lib.hid (((((ButS.refl (fun b => b = bt) _).setCell (x := ⟨bt, 3, none⟩) (.inl (show bt = bt from rfl)) _).alloc _).alloc _).drew)
  have HT5 : Hid (RowBlk 53 (((((w3.setCell ⟨bW, 9, none⟩ (.slice (some ⟨g3, 0, none⟩) (nl + 1) c3)).setCell ⟨bt, 3, none⟩ (.slice (some ⟨w3.heap.size + 1, 0, none⟩) 1 c5)).alloc (.cells #[.int .u64 (v : Int)] 46)).alloc (.cells oc 46)).drew) bt (tapeVs bW 0 0 (.slice (some ⟨w3.heap.size + 1, 0, none⟩) 1 c5) (.slice none 0 0) 0 false false (.slice none 0 0) 0 0 (.slice none 0 0) (.slice none 0 0))) := Lib.hid ((((HT4.out.put 3 _).alloc _).alloc _).drew)
  generalize ((((w3.setCell ⟨bW, 9, none⟩ (.slice (some ⟨g3, 0, none⟩) (nl + 1) c3)).setCell ⟨bt, 3, none⟩ (.slice (some ⟨w3.heap.size + 1, 0, none⟩) 1 c5)).alloc (.cells #[.int .u64 (v : Int)] 46)).alloc (.cells oc 46)).drew = w5 at HX HT5 ⊢
  generalize (Value.slice (some ⟨w3.heap.size + 1, 0, none⟩) 1 c5) = vG at HT5
  have HM5 := Lib.hid (HM4.out.of_blocks (HX.out.block bW HM4.out.lt1 (fun e => hne1 e)) (HX.out.block bw HM4.out.lt2 (fun e => hne3 e)))
  have HL5 := Lib.hid (owns_sameB HL4.out (fun b hb => HX.out.block b (HL4.out.lt b hb).2 (fun e => row_owns_ne HT4.out HL4.out (by decide) ((show b = bt from e) ▸ hb))))
  have HB5 : Hid (ButS (SB bt bW bw B w) w w5) := Lib.hid (HB4.out.trans (HX.out.mono (fun b _ h => .inl h)))
  have hB55 : B ≤ w5.heap.size := Nat.le_trans hB33 HX.out.size
  clear q9c q9f t3 ft3 hB33 hbt3 hbl3
  have t0 : w5.cell? ⟨bt, 0, none⟩ = some (.pointer (some ⟨bW, 0, none⟩)) := HT5.out.cell rfl
  have t4 : w5.cell? ⟨bt, 4, none⟩ = some (.slice none 0 0) := HT5.out.cell rfl
  have m6 : w5.cell? ⟨bW, 6, none⟩ = some (.int .i64 0) := cell_of_heap HM5.out.1 (by simp)
  have hbl5 := HM5.out.lt1
  have hbt5 := HT5.out.lt
  refine wp_region_tail (S := fun w' => w'.cell? ⟨bt, 0, none⟩ = some (.pointer (some ⟨bW, 0, none⟩)) ∧ w'.cell? ⟨bt, 4, none⟩ = some (.slice none 0 0) ∧ w'.cell? ⟨bW, 6, none⟩ = some (.int .i64 0)) 14 (by kernel_rfl) (by kernel_rfl) ?_ (fun hHeld => ?_)
  · first | with_reducible exact ⟨t0, t4, m6⟩ | go_keep
  simp only [List.take_succ_cons, List.take_zero]
  refine wpAnyH_take (i := 0) (oi := _) (v := ?u0) rfl (by kernel_rfl) (by kernel_rfl) (by kernel_rfl) (fun _ _ _ h => h) (Or.inl ⟨by kernel_rfl, ?hz0⟩) (by assumption) ?resu0
  case hz0 => (intro w hSw; (try dsimp only at hSw); go_simp <;> with_reducible rfl)
  try simp only [Act.put, List.getElem_toArray, List.getElem_cons_zero, List.getElem_cons_succ, List.setIfInBounds_toArray, List.set_cons_zero, List.set_cons_succ]
  refine wpAnyH_take (i := 1) (oi := _) (v := ?u1) rfl (by kernel_rfl) (by kernel_rfl) (by kernel_rfl) (fun _ _ _ h => h) (Or.inl ⟨by kernel_rfl, ?hz1⟩) (by assumption) ?resu1
  case hz1 => (intro w hSw; (try dsimp only at hSw); go_simp <;> with_reducible rfl)
  try simp only [Act.put, List.getElem_toArray, List.getElem_cons_zero, List.getElem_cons_succ, List.setIfInBounds_toArray, List.set_cons_zero, List.set_cons_succ]
  refine wpAnyH_take (i := 2) (oi := _) (v := ?u2) rfl (by kernel_rfl) (by kernel_rfl) (by kernel_rfl) (fun _ _ _ h => h) (Or.inl ⟨by kernel_rfl, ?hz2⟩) (by assumption) ?resu2
  case hz2 => (intro w hSw; (try dsimp only at hSw); go_simp <;> with_reducible rfl)
  try simp only [Act.put, List.getElem_toArray, List.getElem_cons_zero, List.getElem_cons_succ, List.setIfInBounds_toArray, List.set_cons_zero, List.set_cons_succ]
  refine wpAnyH_take (i := 3) (oi := _) (v := ?u3) rfl (by kernel_rfl) (by kernel_rfl) (by kernel_rfl) (fun _ _ _ h => h) (Or.inl ⟨by kernel_rfl, ?hz3⟩) (by assumption) ?resu3
  case hz3 => (intro w hSw; (try dsimp only at hSw); go_simp <;> with_reducible rfl)
  try simp only [Act.put, List.getElem_toArray, List.getElem_cons_zero, List.getElem_cons_succ, List.setIfInBounds_toArray, List.set_cons_zero, List.set_cons_succ]
  refine wpAnyH_take (i := 4) (oi := _) (v := ?u4) rfl (by kernel_rfl) (by kernel_rfl) (by kernel_rfl) (fun _ _ _ h => h) (Or.inl ⟨by kernel_rfl, ?hz4⟩) (by assumption) ?resu4
  case hz4 => (intro w hSw; (try dsimp only at hSw); go_simp <;> with_reducible rfl)
  try simp only [Act.put, List.getElem_toArray, List.getElem_cons_zero, List.getElem_cons_succ, List.setIfInBounds_toArray, List.set_cons_zero, List.set_cons_succ]
  refine wpAnyH_take (i := 5) (oi := _) (v := ?u5) rfl (by kernel_rfl) (by kernel_rfl) (by kernel_rfl) (fun _ _ _ h => h) (Or.inl ⟨by kernel_rfl, ?hz5⟩) (by assumption) ?resu5
  case hz5 => (intro w hSw; (try dsimp only at hSw); go_simp <;> with_reducible rfl)
  try simp only [Act.put, List.getElem_toArray, List.getElem_cons_zero, List.getElem_cons_succ, List.setIfInBounds_toArray, List.set_cons_zero, List.set_cons_succ]
  refine wpAnyH_take (i := 6) (oi := _) (v := ?u6) rfl (by kernel_rfl) (by kernel_rfl) (by kernel_rfl) (fun _ _ _ h => h) (Or.inl ⟨by kernel_rfl, ?hz6⟩) (by assumption) ?resu6
  case hz6 => (intro w hSw; (try dsimp only at hSw); go_simp <;> with_reducible rfl)
  try simp only [Act.put, List.getElem_toArray, List.getElem_cons_zero, List.getElem_cons_succ, List.setIfInBounds_toArray, List.set_cons_zero, List.set_cons_succ]
  refine wpAnyH_take (i := 7) (oi := _) (v := ?u7) rfl (by kernel_rfl) (by kernel_rfl) (by kernel_rfl) (fun _ _ _ h => h) (Or.inl ⟨by kernel_rfl, ?hz7⟩) (by assumption) ?resu7
  case hz7 => (intro w hSw; (try dsimp only at hSw); go_simp <;> with_reducible rfl)
  try simp only [Act.put, List.getElem_toArray, List.getElem_cons_zero, List.getElem_cons_succ, List.setIfInBounds_toArray, List.set_cons_zero, List.set_cons_succ]
  refine wpAnyH_take (i := 8) (oi := _) (v := ?u8) rfl (by kernel_rfl) (by kernel_rfl) (by kernel_rfl) (fun _ _ _ h => h) (Or.inl ⟨by kernel_rfl, ?hz8⟩) (by assumption) ?resu8
  case hz8 => (intro w hSw; (try dsimp only at hSw); go_simp <;> with_reducible rfl)
  try simp only [Act.put, List.getElem_toArray, List.getElem_cons_zero, List.getElem_cons_succ, List.setIfInBounds_toArray, List.set_cons_zero, List.set_cons_succ]
  refine wpAnyH_take (i := 9) (oi := _) (v := ?u9) rfl (by kernel_rfl) (by kernel_rfl) (by kernel_rfl) (fun _ _ _ h => h) (Or.inl ⟨by kernel_rfl, ?hz9⟩) (by assumption) ?resu9
  case hz9 => (intro w hSw; (try dsimp only at hSw); go_simp <;> with_reducible rfl)
  try simp only [Act.put, List.getElem_toArray, List.getElem_cons_zero, List.getElem_cons_succ, List.setIfInBounds_toArray, List.set_cons_zero, List.set_cons_succ]
  refine wpAnyH_take (i := 10) (oi := _) (v := ?u10) rfl (by kernel_rfl) (by kernel_rfl) (by kernel_rfl) (fun _ _ _ h => h) (Or.inl ⟨by kernel_rfl, ?hz10⟩) (by assumption) ?resu10
  case hz10 => (intro w hSw; (try dsimp only at hSw); go_simp <;> with_reducible rfl)
  try simp only [Act.put, List.getElem_toArray, List.getElem_cons_zero, List.getElem_cons_succ, List.setIfInBounds_toArray, List.set_cons_zero, List.set_cons_succ]
  refine wpAnyH_take (i := 11) (oi := _) (v := ?u11) rfl (by kernel_rfl) (by kernel_rfl) (by kernel_rfl) (fun _ _ _ h => h) (Or.inl ⟨by kernel_rfl, ?hz11⟩) (by assumption) ?resu11
  case hz11 => (intro w hSw; (try dsimp only at hSw); go_simp <;> with_reducible rfl)
  try simp only [Act.put, List.getElem_toArray, List.getElem_cons_zero, List.getElem_cons_succ, List.setIfInBounds_toArray, List.set_cons_zero, List.set_cons_succ]
  refine wpAnyH_ready (rs := [12]) (by kernel_rfl) (by simp) ?_
  refine AllReadyH.cons (o := _) rfl (fun K hK => ?_) AllReadyH.nil
  go_simp
  refine hK.out _ _ ?_ (fun hHeld2 => ?_)
  · exact ⟨(World.cell?_alloc_past _ _ _ (by exact hbt5)).trans t0, (World.cell?_alloc_past _ _ _ (by exact hbt5)).trans t4, (World.cell?_alloc_past _ _ _ (by exact hbl5)).trans m6⟩
  clear hK K hHeld
  try simp only [Act.put, List.getElem_toArray, List.getElem_cons_zero, List.getElem_cons_succ, List.setIfInBounds_toArray, List.set_cons_zero, List.set_cons_succ]
  refine wpAnyH_ready (rs := [13]) (by kernel_rfl) (by simp) ?_
  refine AllReadyH.cons (o := _) rfl (fun K hK => ?_) AllReadyH.nil
  refine step_append_g (w := w5.drew) rfl _ _ 24 rfl B 3 iI (.int .i64 0) 1 8 Try.underlying24 ia ib ic id rfl (by decide) (by decide) (.slice none 0 0) 0 [] rfl (World.ownsRow_nil _ _ _ _) [.int .i64 0] rfl rfl rfl (by decide) hB55 ?_
  intro v7 w7 ho7 hg7 _
  have HT7 := Lib.hid (HT5.out.same (hg7.block bt hbt5 (by simp [Value.ownBlock])))
  have HM7 := Lib.hid (HM5.out.of_blocks (hg7.block bW hbl5 (by simp [Value.ownBlock])) (hg7.block bw HM5.out.lt2 (by simp [Value.ownBlock])))
  have HL7 := Lib.hid (owns_sameB HL5.out (fun b hb => hg7.block b (HL5.out.lt b hb).2 (by simp [Value.ownBlock])))
  have HB7 : Hid (ButS (SB bt bW bw B w) w w7) := Lib.hid (HB5.out.drew.trans (ButS.of_grown hg7 (fun k hk => by simp [Value.ownBlock] at hk)))
  refine hK.out _ _ ?_ (fun hHeld3 => ?_)
  · exact ⟨HT7.out.cell (i := 0) rfl, HT7.out.cell (i := 4) rfl, cell_of_heap HM7.out.1 (by simp)⟩
  clear hK K hHeld2 hHeld3 t0 t4 m6 hg7
  obtain ⟨a7, g7, c7, hv7, ha7, _⟩ := owns_open ho7
  obtain rfl := ha7 (by omega)
  subst hv7
  clear ha7 ho7
  have HF : Hid (RowBlk 53 ((w7.setCell ⟨bt, 4, none⟩ (.slice (some ⟨g7, 0, none⟩) (0 + 1) c7)).setCell ⟨bt, 5, none⟩ (.int .i64 ((1 : Nat) : Int))) bt (tapeVs bW 0 0 vG (.slice (some ⟨g7, 0, none⟩) (0 + 1) c7) 1 false false (.slice none 0 0) 0 0 (.slice none 0 0) (.slice none 0 0)) ∧ RefG 44 [.int .i64 0, vM, vTr, .slice (some ⟨g3, 0, none⟩) (nl + 1) c3] ((w7.setCell ⟨bt, 4, none⟩ (.slice (some ⟨g7, 0, none⟩) (0 + 1) c7)).setCell ⟨bt, 5, none⟩ (.int .i64 ((1 : Nat) : Int))) bW bw cap l' c' ∧ ((w7.setCell ⟨bt, 4, none⟩ (.slice (some ⟨g7, 0, none⟩) (0 + 1) c7)).setCell ⟨bt, 5, none⟩ (.int .i64 ((1 : Nat) : Int))).ownsRow B 111 6 (.slice (some ⟨g3, 0, none⟩) (nl + 1) c3) (nl + 1) (logs ++ [.int .i64 0, .int .i64 0, .int .i64 k, .int .i64 (i : Int), .int .u64 (old : Int), .int .u64 (nw : Int)]) ∧ ButS (SB bt bW bw B w) w ((w7.setCell ⟨bt, 4, none⟩ (.slice (some ⟨g7, 0, none⟩) (0 + 1) c7)).setCell ⟨bt, 5, none⟩ (.int .i64 ((1 : Nat) : Int)))) := Lib.hid
    ⟨(HT7.out.put 4 _).put 5 _, (HM7.out.other (a := ⟨bt, 4, none⟩) hne1 hne3 _).other (a := ⟨bt, 5, none⟩) hne1 hne3 _, owns_sameB HL7.out (fun b hb => by
      have hx : b ≠ bt := fun e => row_owns_ne HT7.out HL7.out (by decide) (e ▸ hb)
      rw [Below.heap_setCell _ _ _ _ (show b ≠ (⟨bt, 5, none⟩ : Addr).block from hx), Below.heap_setCell _ _ _ _ (show b ≠ (⟨bt, 4, none⟩ : Addr).block from hx)]), (HB7.out.setCell (.inl (.inl rfl)) _).setCell (.inl (.inl rfl)) _⟩
  have t4 : w7.cell? ⟨bt, 4, none⟩ = some (.slice none 0 0) := HT7.out.cell rfl
  have t5 : w7.cell? ⟨bt, 5, none⟩ = some (.int .i64 0) := HT7.out.cell rfl
  have ft : ∀ j, w7.frozen? ⟨bt, j, none⟩ = false := fun j => HT7.out.free
  try simp only [Act.put, List.getElem_toArray, List.getElem_cons_zero, List.getElem_cons_succ, List.setIfInBounds_toArray, List.set_cons_zero, List.set_cons_succ]
  refine wpAnyH_done (by kernel_rfl) ?_ _
  dsimp only [tailQ]
  simp only [List.drop_succ_cons, List.drop_zero, List.take_succ_cons, List.take_zero, List.getElem_cons_succ, List.getElem_cons_zero, List.set_cons_zero, List.set_cons_succ]
  go_wp2_with fail
  go_ret
  rw [HST.out]
  exact ⟨rfl, ⟨c', vM, vTr, _, nl + 1, _, HF.out.2.1, HF.out.2.2.1, by omega, HCL.out⟩, ⟨_, _, HF.out.1⟩, HF.out.2.2.2⟩
end Go.Proofs.Ytihhjbcphdnkhaa
