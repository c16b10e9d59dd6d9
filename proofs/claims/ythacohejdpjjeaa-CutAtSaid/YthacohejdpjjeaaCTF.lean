/- cut: copies of lists of any length that may be; an event as it was at a tick. -/
import Derived.Test.YthacohejdpjjeaaCTC
import Derived.Test.YthacohejdpjjeaaK4
import Derived.Laws.AppendOwnNone
namespace Go.Proofs.Ythacohejdpjjeaa
open Go.ChangeShapes Go.WideShapes Go.ChangeAt Go.RowKit Go.Lib Go.Sort
set_option linter.unusedVariables false

/-- append of a whole slice onto an empty one that was just made, of any length that may be read -/
theorem append_copy {P : Program} {w : World} {ops : Array Oper} {rest : List Oper} {o : Oper} {a : Act} {Q : Exit → Act → World → Prop} (hgd : o.guard = none) (s x : Operand) (t : TypeId)
    (ho : o.op = .call { callee := .builtin .append, args := #[s, x], argTypes := #[t, t] })
    (e : TypeId) (i : TypeInfo) (z : Value) (bytes : Nat) (ht : P.underlying t = some (.slice e)) (hi : P.info? e = some i) (hz : i.zero = some z)
    (hsize : i.size = 1) (hby : i.bytes = bytes) (hzs : z.cells.size = 1)
    (g0 : Nat) (hg0 : g0 = w.heap.size) (hs : a.eval s = .slice (some ⟨g0, 0, none⟩) 0 0) (ad : Addr) (b off cap n : Nat) (us : List Value) (hx : a.eval x = .slice (some ad) n cap) (hn : us.length = n)
    (ha : 0 < n → some ad = some ⟨b, off, none⟩) (hc : ∀ (j : Nat) (u : Value), us[j]? = some u → w.cell? ⟨b, off + j, none⟩ = some u) (h1 : us.all (fun u => u.oneCell') = true) (hle : n ≤ maxLen) (hle2 : n * bytes ≤ 140737488355328)
    (h : ∀ v' w', w'.ownsRow w.heap.size e 1 v' n us → Below w.heap.size w w' → wpList P ops Q rest (a.put o.dst v') w') : wpList P ops Q (o :: rest) a (w.alloc (.cells #[] e)) := by
  subst hg0
  have hmade : (w.alloc (.cells #[] e)).ownsRow w.heap.size e 1 (.slice (some ⟨w.heap.size, 0, none⟩) 0 0) 0 [] :=
    World.ownsRow_made (base := w.heap.size) (e := e) (size := 1) w #[] 0 (Nat.le_refl _) (by unfold maxLen; omega) rfl
  refine wpList_append_own _ hgd s x t ho w.heap.size e i z 1 bytes ht hi hz hsize hby hzs (by decide) _ 0 [] hs hmade ad n cap us hx (by rw [hn, Nat.mul_one]) ?_ (by simpa using h1) (by omega) (by rw [Nat.zero_add]; exact hle2) (by simp) ?_
  · intro j u hj
    have hl : 0 < n := by have := (List.getElem?_eq_some_iff.1 hj).1; omega
    obtain rfl := Option.some.inj (ha hl)
    have hcj := hc j u hj
    have hlt := World.block_lt_of_cell? w ⟨b, off + j, none⟩ hcj
    rw [addr_add _ j b off rfl, World.cell?_alloc_past _ _ _ hlt]
    exact hcj
  · intro v' w' hown hg hnn
    exact h v' w' (by simpa using hown) (((Below.refl _ _).alloc (Nat.le_refl _) _).grown hg (by simp) (fun k hk => by simp [Value.ownBlock] at hk; omega))

theorem infoIc : (Try.prog.info? 3).map (fun i => (i.zero, i.size, i.bytes)) = some (some (.int .i64 0), 1, 8) := by kernel_rfl
theorem infoUc : (Try.prog.info? 37).map (fun i => (i.zero, i.size, i.bytes)) = some (some (.int .u64 0), 1, 8) := by kernel_rfl
def wIc (x : Int) : Value := .int .i64 x
def wUc (x : Nat) : Value := .int .u64 (x : Int)
theorem wIc_one (l : List Int) : (l.map wIc).all (fun u => u.oneCell') = true := by
  rw [List.all_eq_true]; intro u hu; obtain ⟨x, _, rfl⟩ := List.mem_map.1 hu; rfl
theorem wUc_one (l : List Nat) : (l.map wUc).all (fun u => u.oneCell') = true := by
  rw [List.all_eq_true]; intro u hu; obtain ⟨x, _, rfl⟩ := List.mem_map.1 hu; rfl
/-- what a copy gives -/
def CopyP (t : TypeId) (us : List Value) (w : World) (e : Ending) (w' : World) : Prop :=
  ∃ (ao : Option Addr) (g cap : Nat), e = .returned (.slice ao us.length cap) ∧ (0 < us.length → ao = some ⟨g, 0, none⟩) ∧ (0 < us.length → w.heap.size ≤ g) ∧ (0 < us.length → g < w'.heap.size) ∧ us.length ≤ cap ∧ (∀ (i : Nat) (u : Value), us[i]? = some u → w'.cell? ⟨g, i, none⟩ = some u) ∧ Below w.heap.size w w'
theorem CopyP.own {t : TypeId} {us : List Value} {w w' : World} {v : Value} (h : w'.ownsRow w.heap.size t 1 v us.length us) (hb : Below w.heap.size w w') : CopyP t us w (.returned v) w' := by
  have h' := h
  obtain ⟨ao, g, cap, rfl, h1, h2, h3, h4⟩ := owns_open h
  refine ⟨ao, g, cap, rfl, h1, h2, h3, ?_, h4, hb⟩
  obtain ⟨_, ⟨hv, h0⟩ | ⟨g', cap', cur, hv, _, _, hc, _⟩⟩ := h'
  · rw [h0]; exact Nat.zero_le _
  · cases hv; exact hc

set_option maxHeartbeats 1000000 in
theorem copyU_any (ao : Option Addr) (b o cap : Nat) (l : List Nat) (w : World) (ha : 0 < l.length → ao = some ⟨b, o, none⟩) (hc : ∀ (i x : Nat), l[i]? = some x → w.cell? ⟨b, o + i, none⟩ = some (.int .u64 (x : Int))) (hl : l.length ≤ 17592186044416) :
    Calls Try.prog 39 #[.slice ao l.length cap] w (CopyP 37 (l.map wUc) w) := by
  have qT : ∀ (w : World) (a : Option Addr) (n c n' c' : Nat), (binOp .eql 40 (.slice a n c) (.slice none n' c')).run Try.prog w = .ok (.bool a.isNone) w := fun w a n c n' c' => Lib.run_eql_slice_nil w _ _ a n c n' c' Try.underlying40
  cases ao with
  | none =>
    have h0 : l = [] := by
      cases l with
      | nil => rfl
      | cons x l => exact absurd (ha (by simp)) (by simp)
    subst h0
    clear ha hc
    go_enter Try.func39, Try.ntmps39
    go_wp2
    go_ret
    exact CopyP.own (World.ownsRow_nil _ _ _ _) (Below.refl _ _)
  | some ad =>
    obtain ⟨iI, ia, ib, ic, id⟩ := info_parts infoUc
    have HA := Lib.hid ha
    have HS : Hid (∀ (j : Nat) (u : Value), (l.map wUc)[j]? = some u → w.cell? ⟨b, o + j, none⟩ = some u) := Lib.hid (fun j u hu => by
      rw [List.getElem?_map] at hu
      obtain ⟨x, hx, rfl⟩ := Option.map_eq_some_iff.1 hu
      exact hc j x hx)
    have HONE := Lib.hid (wUc_one l)
    have HLEN : Hid ((l.map wUc).length = l.length) := Lib.hid (by simp)
    clear ha hc
    go_enter Try.func39, Try.ntmps39
    go_wp2_with (at_builtin; refine append_copy rfl _ _ 40 rfl 37 iI (.int .u64 0) 8 Try.underlying40 ia ib ic id rfl w.heap.size rfl rfl ad b o cap l.length (l.map wUc) rfl HLEN.out HA.out HS.out HONE.out (by unfold maxLen; omega) (by omega) ?_)
    intro v' w1 how hbl
    have HO := Lib.hid how
    have HB := Lib.hid hbl
    clear how hbl
    go_wp2
    go_ret
    exact CopyP.own (by rw [HLEN.out]; exact HO.out) HB.out
set_option maxHeartbeats 1000000 in
theorem copyI_any (ao : Option Addr) (b o cap : Nat) (l : List Int) (w : World) (ha : 0 < l.length → ao = some ⟨b, o, none⟩) (hc : ∀ (i : Nat) (x : Int), l[i]? = some x → w.cell? ⟨b, o + i, none⟩ = some (.int .i64 x)) (hl : l.length ≤ 17592186044416) :
    Calls Try.prog 40 #[.slice ao l.length cap] w (CopyP 3 (l.map wIc) w) := by
  have qT : ∀ (w : World) (a : Option Addr) (n c n' c' : Nat), (binOp .eql 24 (.slice a n c) (.slice none n' c')).run Try.prog w = .ok (.bool a.isNone) w := fun w a n c n' c' => Lib.run_eql_slice_nil w _ _ a n c n' c' Try.underlying24
  cases ao with
  | none =>
    have h0 : l = [] := by
      cases l with
      | nil => rfl
      | cons x l => exact absurd (ha (by simp)) (by simp)
    subst h0
    clear ha hc
    go_enter Try.func40, Try.ntmps40
    go_wp2
    go_ret
    exact CopyP.own (World.ownsRow_nil _ _ _ _) (Below.refl _ _)
  | some ad =>
    obtain ⟨iI, ia, ib, ic, id⟩ := info_parts infoIc
    have HA := Lib.hid ha
    have HS : Hid (∀ (j : Nat) (u : Value), (l.map wIc)[j]? = some u → w.cell? ⟨b, o + j, none⟩ = some u) := Lib.hid (fun j u hu => by
      rw [List.getElem?_map] at hu
      obtain ⟨x, hx, rfl⟩ := Option.map_eq_some_iff.1 hu
      exact hc j x hx)
    have HONE := Lib.hid (wIc_one l)
    have HLEN : Hid ((l.map wIc).length = l.length) := Lib.hid (by simp)
    clear ha hc
    go_enter Try.func40, Try.ntmps40
    go_wp2_with (at_builtin; refine append_copy rfl _ _ 24 rfl 3 iI (.int .i64 0) 8 Try.underlying24 ia ib ic id rfl w.heap.size rfl rfl ad b o cap l.length (l.map wIc) rfl HLEN.out HA.out HS.out HONE.out (by unfold maxLen; omega) (by omega) ?_)
    intro v' w1 how hbl
    have HO := Lib.hid how
    have HB := Lib.hid hbl
    clear how hbl
    go_wp2
    go_ret
    exact CopyP.own (by rw [HLEN.out]; exact HO.out) HB.out

/-- eight cells written -/
def put8 (w : World) (g : Nat) (v0 v1 v2 v3 v4 v5 v6 v7 : Value) : World := (((((((w.setCell ⟨g, 0, none⟩ v0).setCell ⟨g, 1, none⟩ v1).setCell ⟨g, 2, none⟩ v2).setCell ⟨g, 3, none⟩ v3).setCell ⟨g, 4, none⟩ v4).setCell ⟨g, 5, none⟩ v5).setCell ⟨g, 6, none⟩ v6).setCell ⟨g, 7, none⟩ v7
theorem put8_row {w : World} {t : TypeId} {g : Nat} {a0 a1 a2 a3 a4 a5 a6 a7 : Value} (h : RowBlk t w g [a0, a1, a2, a3, a4, a5, a6, a7]) (v0 v1 v2 v3 v4 v5 v6 v7 : Value) : RowBlk t (put8 w g v0 v1 v2 v3 v4 v5 v6 v7) g [v0, v1, v2, v3, v4, v5, v6, v7] :=
  (((((((h.put 0 v0).put 1 v1).put 2 v2).put 3 v3).put 4 v4).put 5 v5).put 6 v6).put 7 v7
theorem put8_other (w : World) (g : Nat) (v0 v1 v2 v3 v4 v5 v6 v7 : Value) {b : Nat} (hb : b ≠ g) : (put8 w g v0 v1 v2 v3 v4 v5 v6 v7).heap[b]? = w.heap[b]? := by
  unfold put8
  iterate 8 rw [Below.heap_setCell _ _ _ _ (show b ≠ g from hb)]
theorem put8_size (w : World) (g : Nat) (v0 v1 v2 v3 v4 v5 v6 v7 : Value) : (put8 w g v0 v1 v2 v3 v4 v5 v6 v7).heap.size = w.heap.size := by simp [put8, World.setCell]
theorem put8_below {B : Nat} {a w : World} (h : Below B a w) {g : Nat} (hg : B ≤ g) (v0 v1 v2 v3 v4 v5 v6 v7 : Value) : Below B a (put8 w g v0 v1 v2 v3 v4 v5 v6 v7) :=
  (((((((h.setCell hg v0).setCell hg v1).setCell hg v2).setCell hg v3).setCell hg v4).setCell hg v5).setCell hg v6).setCell hg v7
/-- an event as it was at a tick -/
def evAtX (x : EvX) (tick st : Int) : EvX := if x.rs = 0 ∨ tick < x.rs then ⟨x.ca, x.iv, 0, st, 0, 0, [], []⟩ else { x with st := st }
theorem evAtX_open {x : EvX} {tick st : Int} (h : x.rs = 0 ∨ tick < x.rs) : evAtX x tick st = ⟨x.ca, x.iv, 0, st, 0, 0, [], []⟩ := if_pos h
theorem evAtX_done {x : EvX} {tick st : Int} (h : ¬ (x.rs = 0 ∨ tick < x.rs)) : evAtX x tick st = { x with st := st } := if_neg h
/-- the lists of an event lie in blocks from B on -/
def EvFrom (B : Nat) (x : EvX) (s : EvS) : Prop := (0 < x.lw.length → B ≤ s.lb) ∧ (0 < x.kw.length → B ≤ s.kb)
def EvSmall (x : EvX) : Prop := x.lw.length ≤ 17592186044416 ∧ x.kw.length ≤ 17592186044416
/-- what eventAt gives -/
def EventAtP (x : EvX) (w : World) (e : Ending) (w' : World) : Prop := ∃ s, e = .returned (evV x s) ∧ EvR w' x s ∧ EvFrom w.heap.size x s ∧ Below w.heap.size w w'
def zEvVs : List Value := [.int .i64 0, .int .i64 0, .int .i64 0, .int .i64 0, .int .i64 0, .int .u64 0, .slice none 0 0, .slice none 0 0]
def s0 : EvS := ⟨none, 0, 0, 0, none, 0, 0, 0⟩
theorem EvR.none (w : World) (x : EvX) (h1 : x.lw = []) (h2 : x.kw = []) : EvR w x s0 := by
  obtain ⟨ca, iv, rs, st, er, vl, lw, kw⟩ := x
  dsimp only at h1 h2
  subst h1 h2
  exact ⟨fun h => absurd h (by simp), fun h => absurd h (by simp), by simp, fun i x h => by simp at h, fun h => absurd h (by simp), fun h => absurd h (by simp), by simp, fun i x h => by simp at h⟩

set_option maxRecDepth 100000 in
set_option maxHeartbeats 2000000 in
theorem eventAt_open (x : EvX) (s : EvS) (tick st : Int) (w : World) (h : x.rs = 0 ∨ tick < x.rs) :
    Calls Try.prog 25 #[evV x s, .int .i64 tick, .int .i64 st] w (EventAtP (evAtX x tick st) w) := by
  rw [evAtX_open h]
  obtain ⟨ca, iv, rs, es, er, vl, lw, kw⟩ := x
  obtain ⟨la, lb, lo, lc, ka, kb, ko, kc⟩ := s
  dsimp only at h ⊢
  have HF : ∀ W, Below w.heap.size w W → EventAtP ⟨ca, iv, 0, st, 0, 0, [], []⟩ w (.returned (evV ⟨ca, iv, 0, st, 0, 0, [], []⟩ s0)) W := fun W hb => ⟨s0, rfl, EvR.none _ _ rfl rfl, ⟨fun h => absurd h (by simp), fun h => absurd h (by simp)⟩, hb⟩
  have HFH := Lib.hid HF
  clear HF
  obtain ⟨W, hW⟩ : ∃ W, (w.alloc (.cells #[.int .i64 ca, .int .i64 iv, .int .i64 rs, .int .i64 es, .int .i64 er, .int .u64 (vl : Int), .slice la lw.length lc, .slice ka kw.length kc] 44)).alloc (.cells #[.int .i64 ca, .int .i64 iv, .int .i64 0, .int .i64 st, .int .i64 0, .int .u64 0, .slice none 0 0, .slice none 0 0] 44) = W := ⟨_, rfl⟩
  have HR : Hid (RowBlk 44 W (w.heap.size + 1) [.int .i64 ca, .int .i64 iv, .int .i64 0, .int .i64 st, .int .i64 0, .int .u64 0, .slice none 0 0, .slice none 0 0]) := Lib.hid (by
    rw [← hW]
    have := RowBlk.new (w.alloc (.cells #[.int .i64 ca, .int .i64 iv, .int .i64 rs, .int .i64 es, .int .i64 er, .int .u64 (vl : Int), .slice la lw.length lc, .slice ka kw.length kc] 44)) [.int .i64 ca, .int .i64 iv, .int .i64 0, .int .i64 st, .int .i64 0, .int .u64 0, .slice none 0 0, .slice none 0 0] 44
    rw [World.size_alloc] at this
    exact this)
  have HB : Hid (Below w.heap.size w W) := Lib.hid (by rw [← hW]; exact ((Below.refl _ _).alloc (Nat.le_refl _) _).alloc (by simp) _)
  have HW := Lib.hid hW
  clear hW
  by_cases h0 : rs = 0
  · have d1 : decide (rs = 0) = true := decide_eq_true h0
    have d2 : (rs == 0) = true := by rw [beq_iff_eq]; exact h0
    clear h h0
    go_enter Try.func25, Try.ntmps25
    go_wp2_with fail
    rw [HW.out]
    obtain ⟨q0, q1, q2, q3, q4, q5, q6, q7⟩ : W.cell? ⟨w.heap.size + 1, 0, none⟩ = some (.int .i64 ca) ∧ W.cell? ⟨w.heap.size + 1, 1, none⟩ = some (.int .i64 iv) ∧ W.cell? ⟨w.heap.size + 1, 2, none⟩ = some (.int .i64 0) ∧ W.cell? ⟨w.heap.size + 1, 3, none⟩ = some (.int .i64 st) ∧ W.cell? ⟨w.heap.size + 1, 4, none⟩ = some (.int .i64 0) ∧ W.cell? ⟨w.heap.size + 1, 5, none⟩ = some (.int .u64 0) ∧ W.cell? ⟨w.heap.size + 1, 6, none⟩ = some (.slice none 0 0) ∧ W.cell? ⟨w.heap.size + 1, 7, none⟩ = some (.slice none 0 0) :=
      ⟨HR.out.cell rfl, HR.out.cell rfl, HR.out.cell rfl, HR.out.cell rfl, HR.out.cell rfl, HR.out.cell rfl, HR.out.cell rfl, HR.out.cell rfl⟩
    exact bodyPost_ret (v := evV ⟨ca, iv, 0, st, 0, 0, [], []⟩ s0) (by simp [results, Try.results25, go_sem, q0, q1, q2, q3, q4, q5, q6, q7, evV, s0]) rfl (HFH.out _ HB.out)
  · have h1 : tick < rs := by omega
    have d1 : decide (rs = 0) = false := decide_eq_false h0
    have d2 : (rs == 0) = false := by rw [beq_eq_false_iff_ne]; exact h0
    have d3 : decide (tick < rs) = true := decide_eq_true h1
    clear h h0
    go_enter Try.func25, Try.ntmps25
    go_wp2_with fail
    rw [HW.out]
    obtain ⟨q0, q1, q2, q3, q4, q5, q6, q7⟩ : W.cell? ⟨w.heap.size + 1, 0, none⟩ = some (.int .i64 ca) ∧ W.cell? ⟨w.heap.size + 1, 1, none⟩ = some (.int .i64 iv) ∧ W.cell? ⟨w.heap.size + 1, 2, none⟩ = some (.int .i64 0) ∧ W.cell? ⟨w.heap.size + 1, 3, none⟩ = some (.int .i64 st) ∧ W.cell? ⟨w.heap.size + 1, 4, none⟩ = some (.int .i64 0) ∧ W.cell? ⟨w.heap.size + 1, 5, none⟩ = some (.int .u64 0) ∧ W.cell? ⟨w.heap.size + 1, 6, none⟩ = some (.slice none 0 0) ∧ W.cell? ⟨w.heap.size + 1, 7, none⟩ = some (.slice none 0 0) :=
      ⟨HR.out.cell rfl, HR.out.cell rfl, HR.out.cell rfl, HR.out.cell rfl, HR.out.cell rfl, HR.out.cell rfl, HR.out.cell rfl, HR.out.cell rfl⟩
    exact bodyPost_ret (v := evV ⟨ca, iv, 0, st, 0, 0, [], []⟩ s0) (by simp [results, Try.results25, go_sem, q0, q1, q2, q3, q4, q5, q6, q7, evV, s0]) rfl (HFH.out _ HB.out)

set_option maxRecDepth 100000 in
set_option maxHeartbeats 2000000 in
theorem eventAt_done (x : EvX) (s : EvS) (tick st : Int) (w : World) (h : ¬ (x.rs = 0 ∨ tick < x.rs)) (hx : EvR w x s) (hsm : EvSmall x) :
    Calls Try.prog 25 #[evV x s, .int .i64 tick, .int .i64 st] w (EventAtP (evAtX x tick st) w) := by
  rw [evAtX_done h]
  obtain ⟨ca, iv, rs, es, er, vl, lw, kw⟩ := x
  obtain ⟨la, lb, lo, lc, ka, kb, ko, kc⟩ := s
  obtain ⟨hs1, hs2⟩ := hsm
  dsimp only at h hs1 hs2 ⊢
  have h0 : ¬ rs = 0 := fun e => h (.inl e)
  have h1 : ¬ tick < rs := fun e => h (.inr e)
  have d1 : decide (rs = 0) = false := decide_eq_false h0
  have d2 : (rs == 0) = false := by rw [beq_eq_false_iff_ne]; exact h0
  have d3 : decide (tick < rs) = false := decide_eq_false h1
  obtain ⟨W, hW⟩ : ∃ W, (w.alloc (.cells #[.int .i64 ca, .int .i64 iv, .int .i64 rs, .int .i64 es, .int .i64 er, .int .u64 (vl : Int), .slice la lw.length lc, .slice ka kw.length kc] 44)).alloc (.cells #[.int .i64 0, .int .i64 0, .int .i64 0, .int .i64 0, .int .i64 0, .int .u64 0, .slice none 0 0, .slice none 0 0] 44) = W := ⟨_, rfl⟩
  obtain ⟨bx, hbx⟩ : ∃ bx, w.heap.size = bx := ⟨_, rfl⟩
  have hR : RowBlk 44 W bx [.int .i64 ca, .int .i64 iv, .int .i64 rs, .int .i64 es, .int .i64 er, .int .u64 (vl : Int), .slice la lw.length lc, .slice ka kw.length kc] := by
    rw [← hW, ← hbx]; exact (RowBlk.new _ _ _).alloc _
  have hZ : RowBlk 44 W (bx + 1) [.int .i64 0, .int .i64 0, .int .i64 0, .int .i64 0, .int .i64 0, .int .u64 0, .slice none 0 0, .slice none 0 0] := by
    rw [← hW, ← hbx]
    have := RowBlk.new (w.alloc (.cells #[.int .i64 ca, .int .i64 iv, .int .i64 rs, .int .i64 es, .int .i64 er, .int .u64 (vl : Int), .slice la lw.length lc, .slice ka kw.length kc] 44)) [.int .i64 0, .int .i64 0, .int .i64 0, .int .i64 0, .int .i64 0, .int .u64 0, .slice none 0 0, .slice none 0 0] 44
    rw [World.size_alloc] at this
    exact this
  have hB : Below w.heap.size w W := by rw [← hW]; exact ((Below.refl _ _).alloc (Nat.le_refl _) _).alloc (by simp) _
  have HR := Lib.hid hR
  have HZ := Lib.hid hZ
  have HB := Lib.hid hB
  have HW := Lib.hid hW
  have HX := Lib.hid hx
  have HBX := Lib.hid hbx
  clear h h0 h1 hW hR hZ hB hx hbx
  go_enter Try.func25, Try.ntmps25
  go_upto_region 3 with fail
  rw [HW.out, HBX.out]
  have c3 := HR.out.cell (i := 3) rfl
  have f3 : W.frozen? ⟨bx, 3, none⟩ = false := HR.out.free
  go_upto_region 4 with fail
  have hR4 : RowBlk 44 (W.setCell ⟨bx, 3, none⟩ (.int .i64 st)) bx [.int .i64 ca, .int .i64 iv, .int .i64 rs, .int .i64 st, .int .i64 er, .int .u64 (vl : Int), .slice la lw.length lc, .slice ka kw.length kc] := HR.out.put 3 (.int .i64 st)
  have hZ4 : RowBlk 44 (W.setCell ⟨bx, 3, none⟩ (.int .i64 st)) (bx + 1) [.int .i64 0, .int .i64 0, .int .i64 0, .int .i64 0, .int .i64 0, .int .u64 0, .slice none 0 0, .slice none 0 0] := HZ.out.other (a := ⟨bx, 3, none⟩) (show bx + 1 ≠ bx by omega) _
  have hB4 : Below w.heap.size w (W.setCell ⟨bx, 3, none⟩ (.int .i64 st)) := HB.out.setCell (show w.heap.size ≤ bx by have := HBX.out; omega) _
  clear c3 f3 HR HZ HB HW
  generalize W.setCell ⟨bx, 3, none⟩ (.int .i64 st) = W4 at hR4 hZ4 hB4 ⊢
  have HR4 := Lib.hid hR4
  have HZ4 := Lib.hid hZ4
  have HB4 := Lib.hid hB4
  have c6 := hR4.cell (i := 6) rfl
  clear hR4 hZ4 hB4
  have HCU := Lib.hid (copyU_any la lb lo lc lw W4 HX.out.la (HX.out.below HB4.out).lc hs1)
  go_wp2_with fail
  refine HCU.out.mono ?_
  rintro e W5 ⟨a5, g5, k5, rfl, h1, h2, h3, h4, h5, hb5⟩
  rw [List.length_map] at h1 h2 h3 h4 ⊢
  have H5 : Hid (_ ∧ _ ∧ _ ∧ _ ∧ _) := Lib.hid ⟨h1, h2, h3, h4, h5⟩
  have hR5 : RowBlk 44 W5 bx [.int .i64 ca, .int .i64 iv, .int .i64 rs, .int .i64 st, .int .i64 er, .int .u64 (vl : Int), .slice la lw.length lc, .slice ka kw.length kc] := HR4.out.same (hb5.block bx HR4.out.lt)
  have hZ5 : RowBlk 44 W5 (bx + 1) [.int .i64 0, .int .i64 0, .int .i64 0, .int .i64 0, .int .i64 0, .int .u64 0, .slice none 0 0, .slice none 0 0] := HZ4.out.same (hb5.block (bx + 1) HZ4.out.lt)
  have HLT : Hid (bx + 1 < W4.heap.size) := Lib.hid HZ4.out.lt
  have HLT5 : Hid (W4.heap.size ≤ W5.heap.size) := Lib.hid hb5.size
  have HB5 : Hid (Below w.heap.size w W5) := Lib.hid (HB4.out.trans (hb5.mono HB4.out.size))
  have HR5 := Lib.hid hR5
  have HZ5 := Lib.hid hZ5
  have c6' := hR5.cell (i := 6) rfl
  have f6 : W5.frozen? ⟨bx, 6, none⟩ = false := hR5.free
  clear h1 h2 h3 h4 h5 hb5 hR5 hZ5 c6 HR4 HZ4 HB4 HCU
  go_upto_region 5 with fail
  have hR6 : RowBlk 44 (W5.setCell ⟨bx, 6, none⟩ (.slice a5 lw.length k5)) bx [.int .i64 ca, .int .i64 iv, .int .i64 rs, .int .i64 st, .int .i64 er, .int .u64 (vl : Int), .slice a5 lw.length k5, .slice ka kw.length kc] := HR5.out.put 6 _
  have hZ6 : RowBlk 44 (W5.setCell ⟨bx, 6, none⟩ (.slice a5 lw.length k5)) (bx + 1) [.int .i64 0, .int .i64 0, .int .i64 0, .int .i64 0, .int .i64 0, .int .u64 0, .slice none 0 0, .slice none 0 0] := HZ5.out.other (a := ⟨bx, 6, none⟩) (show bx + 1 ≠ bx by omega) _
  have hB6 : Below w.heap.size w (W5.setCell ⟨bx, 6, none⟩ (.slice a5 lw.length k5)) := HB5.out.setCell (show w.heap.size ≤ bx by have := HBX.out; omega) _
  have h56 : ∀ g, g ≠ bx → (W5.setCell ⟨bx, 6, none⟩ (.slice a5 lw.length k5)).heap[g]? = W5.heap[g]? := fun g hg => Below.heap_setCell _ _ _ _ hg
  have hs6 : (W5.setCell ⟨bx, 6, none⟩ (.slice a5 lw.length k5)).heap.size = W5.heap.size := by simp [World.setCell]
  clear c6' f6
  generalize W5.setCell ⟨bx, 6, none⟩ (.slice a5 lw.length k5) = W6 at hR6 hZ6 hB6 h56 hs6 ⊢
  have HR6 := Lib.hid hR6
  have HZ6 := Lib.hid hZ6
  have HB6 := Lib.hid hB6
  have H56 := Lib.hid h56
  have HS6 := Lib.hid hs6
  have c7 := hR6.cell (i := 7) rfl
  clear hR6 hZ6 hB6 h56 hs6
  have HCI := Lib.hid (copyI_any ka kb ko kc kw W6 HX.out.ka (HX.out.below HB6.out).kc hs2)
  go_wp2_with fail
  refine HCI.out.mono ?_
  rintro e W7 ⟨a7, g7, k7, rfl, h1, h2, h3, h4, h5, hb7⟩
  rw [List.length_map] at h1 h2 h3 h4 ⊢
  have H7 : Hid (_ ∧ _ ∧ _ ∧ _ ∧ _) := Lib.hid ⟨h1, h2, h3, h4, h5⟩
  have hR7 : RowBlk 44 W7 bx [.int .i64 ca, .int .i64 iv, .int .i64 rs, .int .i64 st, .int .i64 er, .int .u64 (vl : Int), .slice a5 lw.length k5, .slice ka kw.length kc] := HR6.out.same (hb7.block bx HR6.out.lt)
  have hZ7 : RowBlk 44 W7 (bx + 1) [.int .i64 0, .int .i64 0, .int .i64 0, .int .i64 0, .int .i64 0, .int .u64 0, .slice none 0 0, .slice none 0 0] := HZ6.out.same (hb7.block (bx + 1) HZ6.out.lt)
  have HB7 : Hid (Below w.heap.size w W7) := Lib.hid (HB6.out.trans (hb7.mono HB6.out.size))
  have HB67 := Lib.hid hb7
  have HR7 := Lib.hid hR7
  have HZ7 := Lib.hid hZ7
  have c7' := hR7.cell (i := 7) rfl
  have f7 : W7.frozen? ⟨bx, 7, none⟩ = false := hR7.free
  clear h1 h2 h3 h4 h5 hb7 hR7 hZ7 c7 HR6 HZ6 HCI
  go_upto_region 6 with fail
  have hR8 : RowBlk 44 (W7.setCell ⟨bx, 7, none⟩ (.slice a7 kw.length k7)) bx [.int .i64 ca, .int .i64 iv, .int .i64 rs, .int .i64 st, .int .i64 er, .int .u64 (vl : Int), .slice a5 lw.length k5, .slice a7 kw.length k7] := HR7.out.put 7 _
  have hZ8 : RowBlk 44 (W7.setCell ⟨bx, 7, none⟩ (.slice a7 kw.length k7)) (bx + 1) [.int .i64 0, .int .i64 0, .int .i64 0, .int .i64 0, .int .i64 0, .int .u64 0, .slice none 0 0, .slice none 0 0] := HZ7.out.other (a := ⟨bx, 7, none⟩) (show bx + 1 ≠ bx by omega) _
  have hB8 : Below w.heap.size w (W7.setCell ⟨bx, 7, none⟩ (.slice a7 kw.length k7)) := HB7.out.setCell (show w.heap.size ≤ bx by have := HBX.out; omega) _
  have h78 : ∀ g, g ≠ bx → (W7.setCell ⟨bx, 7, none⟩ (.slice a7 kw.length k7)).heap[g]? = W7.heap[g]? := fun g hg => Below.heap_setCell _ _ _ _ hg
  have hs8 : (W7.setCell ⟨bx, 7, none⟩ (.slice a7 kw.length k7)).heap.size = W7.heap.size := by simp [World.setCell]
  clear c7' f7
  generalize W7.setCell ⟨bx, 7, none⟩ (.slice a7 kw.length k7) = W8 at hR8 hZ8 hB8 h78 hs8 ⊢
  have HR8 := Lib.hid hR8
  have HZ8 := Lib.hid hZ8
  have HB8 := Lib.hid hB8
  have H78 := Lib.hid h78
  have HS8 := Lib.hid hs8
  obtain ⟨q0, q1, q2, q3, q4, q5, q6, q7⟩ : W8.cell? ⟨bx, 0, none⟩ = some (.int .i64 ca) ∧ W8.cell? ⟨bx, 1, none⟩ = some (.int .i64 iv) ∧ W8.cell? ⟨bx, 2, none⟩ = some (.int .i64 rs) ∧ W8.cell? ⟨bx, 3, none⟩ = some (.int .i64 st) ∧ W8.cell? ⟨bx, 4, none⟩ = some (.int .i64 er) ∧ W8.cell? ⟨bx, 5, none⟩ = some (.int .u64 (vl : Int)) ∧ W8.cell? ⟨bx, 6, none⟩ = some (.slice a5 lw.length k5) ∧ W8.cell? ⟨bx, 7, none⟩ = some (.slice a7 kw.length k7) :=
    ⟨hR8.cell rfl, hR8.cell rfl, hR8.cell rfl, hR8.cell rfl, hR8.cell rfl, hR8.cell rfl, hR8.cell rfl, hR8.cell rfl⟩
  obtain ⟨z0, z1, z2, z3, z4, z5, z6, z7⟩ : W8.cell? ⟨bx + 1, 0, none⟩ = some (.int .i64 0) ∧ W8.cell? ⟨bx + 1, 1, none⟩ = some (.int .i64 0) ∧ W8.cell? ⟨bx + 1, 2, none⟩ = some (.int .i64 0) ∧ W8.cell? ⟨bx + 1, 3, none⟩ = some (.int .i64 0) ∧ W8.cell? ⟨bx + 1, 4, none⟩ = some (.int .i64 0) ∧ W8.cell? ⟨bx + 1, 5, none⟩ = some (.int .u64 0) ∧ W8.cell? ⟨bx + 1, 6, none⟩ = some (.slice none 0 0) ∧ W8.cell? ⟨bx + 1, 7, none⟩ = some (.slice none 0 0) :=
    ⟨hZ8.cell rfl, hZ8.cell rfl, hZ8.cell rfl, hZ8.cell rfl, hZ8.cell rfl, hZ8.cell rfl, hZ8.cell rfl, hZ8.cell rfl⟩
  have fz : ∀ j, W8.frozen? ⟨bx + 1, j, none⟩ = false := fun j => hZ8.free
  clear hR8 hZ8 hB8 h78 hs8
  go_wp2_with fail
  have hR9 := put8_row HZ8.out (.int .i64 ca) (.int .i64 iv) (.int .i64 rs) (.int .i64 st) (.int .i64 er) (.int .u64 (vl : Int)) (.slice a5 lw.length k5) (.slice a7 kw.length k7)
  have hB9 := put8_below HB8.out (g := bx + 1) (by have := HBX.out; omega) (.int .i64 ca) (.int .i64 iv) (.int .i64 rs) (.int .i64 st) (.int .i64 er) (.int .u64 (vl : Int)) (.slice a5 lw.length k5) (.slice a7 kw.length k7)
  have hO9 := fun (b : Nat) (hb : b ≠ bx + 1) => put8_other W8 (bx + 1) (.int .i64 ca) (.int .i64 iv) (.int .i64 rs) (.int .i64 st) (.int .i64 er) (.int .u64 (vl : Int)) (.slice a5 lw.length k5) (.slice a7 kw.length k7) hb
  have hs9 := put8_size W8 (bx + 1) (.int .i64 ca) (.int .i64 iv) (.int .i64 rs) (.int .i64 st) (.int .i64 er) (.int .u64 (vl : Int)) (.slice a5 lw.length k5) (.slice a7 kw.length k7)
  clear q0 q1 q2 q3 q4 q5 q6 q7 z0 z1 z2 z3 z4 z5 z6 z7 fz
  obtain ⟨W9, hW9⟩ : ∃ W9, put8 W8 (bx + 1) (.int .i64 ca) (.int .i64 iv) (.int .i64 rs) (.int .i64 st) (.int .i64 er) (.int .u64 (vl : Int)) (.slice a5 lw.length k5) (.slice a7 kw.length k7) = W9 := ⟨_, rfl⟩
  rw [hW9] at hR9 hB9 hO9 hs9
  unfold put8 at hW9
  rw [hW9]
  clear hW9
  have hsz := HLT.out
  have hsz5 := HLT5.out
  have hs67 := HB67.out.size
  have hs6 := HS6.out
  have hs8 := HS8.out
  have hwb := HBX.out
  have hev : EvR W9 ⟨ca, iv, rs, st, er, vl, lw, kw⟩ ⟨a5, g5, 0, k5, a7, g7, 0, k7⟩ := by
    obtain ⟨u1, u2, u3, u4, u5⟩ := H5.out
    obtain ⟨v1, v2, v3, v4, v5⟩ := H7.out
    refine ⟨u1, fun h0 => ?_, u4, fun i x hx => ?_, v1, fun h0 => ?_, v4, fun i x hx => ?_⟩
    · have := u3 h0
      show g5 < W9.heap.size
      omega
    · have h0 : 0 < lw.length := by have := (List.getElem?_eq_some_iff.1 hx).1; show 0 < lw.length; dsimp only at this; omega
      have g1 := u2 h0
      have g2 := u3 h0
      show W9.cell? ⟨g5, 0 + i, none⟩ = some (wUc x)
      rw [Nat.zero_add, ← u5 i (wUc x) (by rw [List.getElem?_map]; dsimp only at hx; rw [hx]; rfl)]
      unfold World.cell?
      rw [hO9 g5 (by omega), H78.out g5 (by omega), HB67.out.block g5 (by omega), H56.out g5 (by omega)]
    · have := v3 h0
      show g7 < W9.heap.size
      omega
    · have h0 : 0 < kw.length := by have := (List.getElem?_eq_some_iff.1 hx).1; show 0 < kw.length; dsimp only at this; omega
      have g1 := v2 h0
      have g2 := v3 h0
      show W9.cell? ⟨g7, 0 + i, none⟩ = some (wIc x)
      rw [Nat.zero_add, ← v5 i (wIc x) (by rw [List.getElem?_map]; dsimp only at hx; rw [hx]; rfl)]
      unfold World.cell?
      rw [hO9 g7 (by omega), H78.out g7 (by omega)]
  obtain ⟨q0, q1, q2, q3, q4, q5, q6, q7⟩ : W9.cell? ⟨bx + 1, 0, none⟩ = some (.int .i64 ca) ∧ W9.cell? ⟨bx + 1, 1, none⟩ = some (.int .i64 iv) ∧ W9.cell? ⟨bx + 1, 2, none⟩ = some (.int .i64 rs) ∧ W9.cell? ⟨bx + 1, 3, none⟩ = some (.int .i64 st) ∧ W9.cell? ⟨bx + 1, 4, none⟩ = some (.int .i64 er) ∧ W9.cell? ⟨bx + 1, 5, none⟩ = some (.int .u64 (vl : Int)) ∧ W9.cell? ⟨bx + 1, 6, none⟩ = some (.slice a5 lw.length k5) ∧ W9.cell? ⟨bx + 1, 7, none⟩ = some (.slice a7 kw.length k7) :=
    ⟨hR9.cell rfl, hR9.cell rfl, hR9.cell rfl, hR9.cell rfl, hR9.cell rfl, hR9.cell rfl, hR9.cell rfl, hR9.cell rfl⟩
  exact bodyPost_ret (v := evV ⟨ca, iv, rs, st, er, vl, lw, kw⟩ ⟨a5, g5, 0, k5, a7, g7, 0, k7⟩) (by simp [results, Try.results25, go_sem, q0, q1, q2, q3, q4, q5, q6, q7, evV]) rfl
    ⟨⟨a5, g5, 0, k5, a7, g7, 0, k7⟩, rfl, hev, ⟨fun h0 => by have := H5.out.2.1 h0; show w.heap.size ≤ g5; omega, fun h0 => by have := H7.out.2.1 h0; show w.heap.size ≤ g7; omega⟩, hB9⟩
end Go.Proofs.Ythacohejdpjjeaa
