/- Pin at the program: MachRel; a step by the stored step. | Pin at the program: MachOk; Play. -/
import Derived.Test.YtpoebpnmbogmnaaGPa
import Derived.Test.YtpoebpnmbogmnaaGPd
import Derived.Test.YtpoebpnmbogmnaaGPe
import Derived.Test.YtpoebpnmbogmnaaGPf
import Derived.Test.YtpoebpnmbogmnaaGPc
import Derived.Test.YtpoebpnmbogmnaaGPb
namespace Go.Proofs.Ytpoebpnmbogmnaa
section
open Go.RowKit
set_option linter.unusedVariables false
/-- a row that the operation has to itself -/
theorem listAt_owns {w : World} {B n : Nat} {v : Value} {l : List Nat} {p : Nat → Prop} (h : w.ownsRow B 37 1 v n (l.map mkU)) (hn : n = l.length) (hl : l.length ≤ 4294967296) (hp : ∀ k, v.ownBlock = some k → p k) (ha : ∃ ao cp, v = .slice ao l.length cp) : ListAt w 37 mkU p v l := by
  obtain ⟨h0, ⟨rfl, h1⟩ | ⟨g, cap, cur, rfl, _, hh, h2, h3, h4, h5⟩⟩ := h
  · have : l = [] := List.length_eq_zero_iff.1 (by omega)
    subst this
    exact ListAt.nil _ _ _ _
  · obtain ⟨ao, cp, e⟩ := ha
    cases e
    refine ⟨_, g, 0, cap, rfl, fun _ => ⟨rfl, hp g rfl, ⟨cur, hh⟩⟩, (fun e => by cases e), hl, fun i x hx => ?_⟩
    rw [Nat.zero_add]
    rw [cell_of_row w g i cur _ (0, 0) hh]
    have hi := (List.getElem?_eq_some_iff.1 hx).1
    have h6 : (cur.toList.take (l.length * 1))[i]? = (l.map mkU)[i]? := by rw [h5]
    rw [List.getElem?_take_of_lt (by omega), List.getElem?_map, hx] at h6
    simpa using h6
def pinWV (g : Nat) : Value := .iface 223 (.pointer (some ⟨g, 0, none⟩))
def pinRV (g : Nat) : Value := .iface 225 (.pointer (some ⟨g, 0, none⟩))
def PinOpR (br : Nat) (w : World) (v : Value) (F : Nat → Prop) : PinQ → Prop
  | .look a q => ∃ g, v = pinWV g ∧ F g ∧ RowBlk 229 w g (WrVs br a q 0 g 132)
  | .fill a q j => ∃ g, v = pinWV g ∧ F g ∧ RowBlk 229 w g (WrVs br a q j g 135)
  | .pub a q => ∃ g j, v = pinWV g ∧ F g ∧ RowBlk 229 w g (WrVs br a q j g 138)
  | .wdone => ∃ g, v = pinWV g
  | .enter => ∃ g, v = pinRV g ∧ F g ∧ RowBlk 231 w g (RdVs br 0 0 (.slice none 0 0) (.slice none 0 0) g 133)
  | .take t0 q l => ∃ g ao cp, v = pinRV g ∧ F g ∧ RowBlk 231 w g (RdVs br t0 q (.slice ao l.length cp) (.slice none 0 0) g 136) ∧ w.ownsRow 0 37 1 (.slice ao l.length cp) l.length (l.map mkU) ∧ ∀ k, (Value.slice ao l.length cp).ownBlock = some k → F k
  | .leave t0 q l => ∃ g ao cp, v = pinRV g ∧ F g ∧ RowBlk 231 w g (RdVs br t0 q (.slice ao l.length cp) (.slice none 0 0) g 139) ∧ w.ownsRow 0 37 1 (.slice ao l.length cp) l.length (l.map mkU) ∧ ∀ k, (Value.slice ao l.length cp).ownBlock = some k → F k
  | .rdone t0 => ∃ g bk q lv, v = pinRV g ∧ F g ∧ F bk ∧ RowBlk 231 w g (RdVs br t0 q lv (.slice (some ⟨bk, 0, none⟩) 1 1) g 139) ∧ RowBlk 3 w bk [.int .i64 ((2 * t0 : Nat) : Int)]
theorem pinOpR_keep {br : Nat} {w w' : World} {v : Value} {q : PinQ} {F G : Nat → Prop} (h : PinOpR br w v F q) (hb : ∀ k, F k → w'.heap[k]? = w.heap[k]?) (hG : ∀ k, F k → G k) : PinOpR br w' v G q := by
  match q, h with
  | .look a q, h => obtain ⟨g, h1, h2, h3⟩ := h; exact ⟨g, h1, hG g h2, h3.same (hb g h2)⟩
  | .fill a q j, h => obtain ⟨g, h1, h2, h3⟩ := h; exact ⟨g, h1, hG g h2, h3.same (hb g h2)⟩
  | .pub a q, h => obtain ⟨g, j, h1, h2, h3⟩ := h; exact ⟨g, j, h1, hG g h2, h3.same (hb g h2)⟩
  | .wdone, h => exact h
  | .enter, h => obtain ⟨g, h1, h2, h3⟩ := h; exact ⟨g, h1, hG g h2, h3.same (hb g h2)⟩
  | .take t0 q l, h => obtain ⟨g, ao, cp, h1, h2, h3, h4, h5⟩ := h; exact ⟨g, ao, cp, h1, hG g h2, h3.same (hb g h2), owns_sameB h4 (fun k hk => hb k (h5 k hk)), fun k hk => hG k (h5 k hk)⟩
  | .leave t0 q l, h => obtain ⟨g, ao, cp, h1, h2, h3, h4, h5⟩ := h; exact ⟨g, ao, cp, h1, hG g h2, h3.same (hb g h2), owns_sameB h4 (fun k hk => hb k (h5 k hk)), fun k hk => hG k (h5 k hk)⟩
  | .rdone t0, h => obtain ⟨g, bk, q, lv, h1, h2, h3, h4, h5⟩ := h; exact ⟨g, bk, q, lv, h1, hG g h2, hG bk h3, h4.same (hb g h2), h5.same (hb bk h3)⟩
def pinObj (br : Nat) : Value := .iface 190 (.pointer (some ⟨br, 0, none⟩))
def pinK (n w br be : Nat) : MachRel (pinM n w) where
  objs := [pinObj br]
  Obj := fun W s FO => FO br ∧ FO be ∧ RegIs n w br be s W
  Op := fun W v q F => PinOpR br W v F q
  obj_keep := fun {w w' s F G} h hb hG => ⟨hG _ h.1, hG _ h.2.1, h.2.2.same (hb _ h.1) (hb _ h.2.1)⟩
  op_keep := fun h hb hG => pinOpR_keep h hb hG
  op_iface := fun {w v q F} h => by
    match q, h with
    | .look a q, h => obtain ⟨g, h1, _⟩ := h; exact ⟨_, _, h1⟩
    | .fill a q j, h => obtain ⟨g, h1, _⟩ := h; exact ⟨_, _, h1⟩
    | .pub a q, h => obtain ⟨g, j, h1, _⟩ := h; exact ⟨_, _, h1⟩
    | .wdone, h => obtain ⟨g, h1⟩ := h; exact ⟨_, _, h1⟩
    | .enter, h => obtain ⟨g, h1, _⟩ := h; exact ⟨_, _, h1⟩
    | .take t0 q l, h => obtain ⟨g, ao, cp, h1, _⟩ := h; exact ⟨_, _, h1⟩
    | .leave t0 q l, h => obtain ⟨g, ao, cp, h1, _⟩ := h; exact ⟨_, _, h1⟩
    | .rdone t0, h => obtain ⟨g, bk, q, lv, h1, _⟩ := h; exact ⟨_, _, h1⟩
theorem pinM_meth (br : Nat) (w : World) : (method 369 190 (.pointer (some ⟨br, 0, none⟩)) "Invoke").run Try.prog w = .ok (127, .pointer (some ⟨br, 0, none⟩)) w := by kernel_rfl
theorem pinM_enter (args : Array Value) (w : World) : (callFunc 127 args).run Try.prog w = .ok (.enter 127 args) w := by kernel_rfl
theorem pinW_meth (g : Nat) (w : World) : (method 369 223 (.pointer (some ⟨g, 0, none⟩)) "Step").run Try.prog w = .ok (166, .pointer (some ⟨g, 0, none⟩)) w := by kernel_rfl
theorem pinW_enter (args : Array Value) (w : World) : (callFunc 166 args).run Try.prog w = .ok (.enter 166 args) w := by kernel_rfl
theorem pinR_meth (g : Nat) (w : World) : (method 369 225 (.pointer (some ⟨g, 0, none⟩)) "Step").run Try.prog w = .ok (168, .pointer (some ⟨g, 0, none⟩)) w := by kernel_rfl
theorem pinR_enter (args : Array Value) (w : World) : (callFunc 168 args).run Try.prog w = .ok (.enter 168 args) w := by kernel_rfl
theorem pinR_kmeth (g : Nat) (w : World) : (method 369 225 (.pointer (some ⟨g, 0, none⟩)) "Key").run Try.prog w = .ok (167, .pointer (some ⟨g, 0, none⟩)) w := by kernel_rfl
theorem pinR_kenter (args : Array Value) (w : World) : (callFunc 167 args).run Try.prog w = .ok (.enter 167 args) w := by kernel_rfl
theorem pinLook_enter (args : Array Value) (w : World) : (callFunc 132 args).run Try.prog w = .ok (.enter 132 args) w := by kernel_rfl
theorem pinFill_enter (args : Array Value) (w : World) : (callFunc 135 args).run Try.prog w = .ok (.enter 135 args) w := by kernel_rfl
theorem pinPub_enter (args : Array Value) (w : World) : (callFunc 138 args).run Try.prog w = .ok (.enter 138 args) w := by kernel_rfl
theorem pinEnter_enter (args : Array Value) (w : World) : (callFunc 133 args).run Try.prog w = .ok (.enter 133 args) w := by kernel_rfl
theorem pinTake_enter (args : Array Value) (w : World) : (callFunc 136 args).run Try.prog w = .ok (.enter 136 args) w := by kernel_rfl
theorem pinLeave_enter (args : Array Value) (w : World) : (callFunc 139 args).run Try.prog w = .ok (.enter 139 args) w := by kernel_rfl
theorem noKey_pinW (v : Value) : NoKey (.iface 223 v) := fun w => run_typeAssert_lacksB Try.underlying165 (by kernel_rfl) (by kernel_rfl) v 141 w
theorem pinKeyed (v : Value) (w : World) : (Instr.typeAssert (.iface 225 v) 141 165 true).run Try.prog w = .ok (.tuple #[.iface 225 v, .bool true]) w := by kernel_rfl
theorem pinNotFilled (kv : Int) : NotFilled 75 (.agg #[.int .i64 kv]) := fun w => run_typeAssert_lacksB Try.underlying132 (by kernel_rfl) (by kernel_rfl) (.agg #[.int .i64 kv]) 56 w
/-- from the step that is stored to Step -/
theorem step_outer {M : Mach} {K : MachRel M} {r : Out M} {opv : Value} {bm bw : Nat} {F FO : Nat → Prop} {w W w4 w' : World} {en : Ending} (hs : Sep bm bw F FO w) (hm : bm < w.heap.size ∧ bw < w.heap.size) (hW : ButS (fun _ => False) w W) (hz : W.heap.size = w.heap.size + 2) (h : StepRel K r opv bm bw F FO W en w4) (hL : w.heap.size + 2 ≤ w4.heap.size) (hB : ButS (fun b => b = w.heap.size + 1) w4 w') : StepRel K r opv bm bw F FO w en w' := by
  obtain ⟨F', FO', h1, h2, h3, h4, h5⟩ := h.ex
  have hx := hB.size
  have e1 : ∀ k, F' k → w'.heap[k]? = w4.heap[k]? := fun k hk => hB.block k (h1 k hk).1 (fun e => by
    subst e
    exact (h1 _ hk).2.elim (fun h => by have := (hs.1 _ h).1; omega) (fun h => by omega))
  have e2 : ∀ k, FO' k → w'.heap[k]? = w4.heap[k]? := fun k hk => hB.block k (h2 k hk).1 (fun e => by
    subst e
    exact (h2 _ hk).2.1.elim (fun h => by have := (hs.2 _ h).1; omega) (fun h => by omega))
  refine ⟨h.mem.of_blocks (hB.block bm h.mem.lt1 (by omega)) (hB.block bw h.mem.lt2 (by omega)), ⟨(hB.os.trans h.but.os).trans hW.os, (hB.tape.trans h.but.tape).trans hW.tape, (hB.output.trans h.but.output).trans hW.output, Nat.le_trans hW.size (Nat.le_trans h.but.size hB.size), fun k hk hn => ?_⟩, F', FO', fun b hb => ⟨Nat.lt_of_lt_of_le (h1 b hb).1 hx, (h1 b hb).2.imp id (fun h => by omega)⟩, fun b hb => ⟨Nat.lt_of_lt_of_le (h2 b hb).1 hx, (h2 b hb).2.1.imp id (fun h => by omega), (h2 b hb).2.2⟩, K.obj_keep h3 e2 (fun _ h => h), h4.keep e1 (fun _ h => h), ?_⟩
  · rw [hB.block k (by omega) (by omega), h.but.block k (by omega) hn, hW.block k hk id]
  · cases ha : r.ans with
    | none => rw [ha] at h5; exact h5
    | some a =>
      rw [ha] at h5
      obtain ⟨lv, he, hl⟩ := h5
      refine ⟨lv, he, hl.keep (fun b hb hp => ⟨hB.block b hb.lt (fun e => ?_), hp.1.imp id (fun h => by omega), hp.2⟩)⟩
      subst e
      exact hp.1.elim (fun h => by have := (hs.1 _ h).1; omega) (fun h => by omega)
theorem Sep.below {bm bw : Nat} {F FO : Nat → Prop} {w W : World} (h : Sep bm bw F FO w) (hW : Below w.heap.size w W) : Sep bm bw F FO W := ⟨fun b hb => ⟨Nat.lt_of_lt_of_le (h.1 b hb).1 hW.size, (h.1 b hb).2⟩, fun b hb => ⟨Nat.lt_of_lt_of_le (h.2 b hb).1 hW.size, (h.2 b hb).2⟩⟩
/-- what the stored step leaves in the world of the call's own parameters, for StpIn -/
theorem stpIn_of {M : Mach} {K : MachRel M} {r : Out M} {bm bw : Nat} {F FO : Nat → Prop} {w : World} {f g t v : Nat} {ao : Option Addr} {ln cp : Nat} {d : Bool} {opv : Value} (hs : Sep bm bw F FO w) (hm : bm < w.heap.size ∧ bw < w.heap.size)
    (H : ∀ W : World, Below w.heap.size w W → Calls Try.prog f #[.pointer (some ⟨g, 0, none⟩), turnAgg bm (t : Int)] W (fun en w' => en = .returned (StpV v ao ln cp d) ∧ StepRel K r opv bm bw F FO W en w')) :
    StpIn f g bm t v ao ln cp d (fun w4 => ∃ W, ButS (fun _ => False) w W ∧ W.heap.size = w.heap.size + 2 ∧ StepRel K r opv bm bw F FO W (.returned (StpV v ao ln cp d)) w4) w := fun W hW hz =>
  (H W (hW.below (fun _ h => h.elim) (Nat.le_refl _))).mono fun en w' ⟨he, hR⟩ => by
    have hb := hR.but
    have far : ∀ k, w.heap.size ≤ k → ¬ (k = bm ∨ k = bw ∨ F k ∨ FO k) := fun k hk h => by
      rcases h with h | h | h | h
      · omega
      · omega
      · have := (hs.1 k h).1; omega
      · have := (hs.2 k h).1; omega
    exact ⟨he, hb.size, hb.block _ (by omega) (far _ (Nat.le_refl _)), hb.block _ (by omega) (far _ (by omega)), W, hW, hz, by rw [← he]; exact hR⟩
theorem wStepC {M : Mach} {K : MachRel M} {r : Out M} {bm bw : Nat} {F FO : Nat → Prop} {w : World} {f g t v : Nat} {ao : Option Addr} {ln cp : Nat} {d : Bool} {vs : List Value} (hs : Sep bm bw F FO w) (hm : bm < w.heap.size ∧ bw < w.heap.size) (hg : RowBlk 229 w g vs) (hf : vs[4]? = some (fnV f g)) (hen : ∀ (args : Array Value) (w : World), (callFunc f args).run Try.prog w = .ok (.enter f args) w)
    (H : ∀ W : World, Below w.heap.size w W → Calls Try.prog f #[.pointer (some ⟨g, 0, none⟩), turnAgg bm (t : Int)] W (fun en w' => en = .returned (StpV v ao ln cp d) ∧ StepRel K r (pinWV g) bm bw F FO W en w')) : StepC K r t (pinWV g) bm bw F FO w :=
  ⟨_, _, _, rfl, pinW_meth g, pinW_enter, fun W hW => by
    have hs' := hs.below hW
    have hm' : bm < W.heap.size ∧ bw < W.heap.size := by have := hW.size; omega
    refine (pin_wStep g bm t v f ao ln cp d _ vs W (hg.same (hW.block g hg.lt)) hf hen (stpIn_of (K := K) (r := r) (opv := pinWV g) hs' hm' (fun W2 hW2 => H W2 (hW.trans (hW2.mono hW.size))))).mono ?_
    rintro en w' ⟨he, w4, ⟨W2, h1, h2, h3⟩, hL, hB⟩
    rw [he]
    exact step_outer hs' hm' h1 h2 h3 hL hB⟩
theorem rStepC {M : Mach} {K : MachRel M} {r : Out M} {bm bw : Nat} {F FO : Nat → Prop} {w : World} {f g t v : Nat} {ao : Option Addr} {ln cp : Nat} {d : Bool} {vs : List Value} (hs : Sep bm bw F FO w) (hm : bm < w.heap.size ∧ bw < w.heap.size) (hg : RowBlk 231 w g vs) (hf : vs[5]? = some (fnV f g)) (hen : ∀ (args : Array Value) (w : World), (callFunc f args).run Try.prog w = .ok (.enter f args) w)
    (H : ∀ W : World, Below w.heap.size w W → Calls Try.prog f #[.pointer (some ⟨g, 0, none⟩), turnAgg bm (t : Int)] W (fun en w' => en = .returned (StpV v ao ln cp d) ∧ StepRel K r (pinRV g) bm bw F FO W en w')) : StepC K r t (pinRV g) bm bw F FO w :=
  ⟨_, _, _, rfl, pinR_meth g, pinR_enter, fun W hW => by
    have hs' := hs.below hW
    have hm' : bm < W.heap.size ∧ bw < W.heap.size := by have := hW.size; omega
    refine (pin_rStep g bm t v f ao ln cp d _ vs W (hg.same (hW.block g hg.lt)) hf hen (stpIn_of (K := K) (r := r) (opv := pinRV g) hs' hm' (fun W2 hW2 => H W2 (hW.trans (hW2.mono hW.size))))).mono ?_
    rintro en w' ⟨he, w4, ⟨W2, h1, h2, h3⟩, hL, hB⟩
    rw [he]
    exact step_outer hs' hm' h1 h2 h3 hL hB⟩
end
section
open Go.RowKit
set_option linter.unusedVariables false
theorem pin_hasKey {br t0 q g f : Nat} {lv : Value} {ao : Option Addr} {ln cp : Nat} {l : List Nat} {w : World} (h : RowBlk 231 w g (RdVs br t0 q lv (.slice ao ln cp) g f)) (hl : ∀ W : World, Below w.heap.size w W → ListAt W 3 mkI (fun _ => True) (.slice ao ln cp) l) : HasKey (pinRV g) l w :=
  ⟨⟨_, _, _, rfl, pinKeyed _, pinR_kmeth g, pinR_kenter, fun W hW => (pin_key br t0 q g f lv ao ln cp W (h.same (hW.block _ h.lt))).mono fun e w' ⟨he, hw⟩ => ⟨_, he, hw ▸ hl W hW, hw ▸ Below.refl _ _⟩⟩⟩
theorem pin_stepRel {n w br be bm bw : Nat} {F FO : Nat → Prop} {W0 W w' : World} {s : PinS} {en : Ending} {opv : Value} (hO : (pinK n w br be).Obj W0 s FO) (hs : Sep bm bw F FO W0) (r : Out (pinM n w)) (q' : PinQ) (F' : Nat → Prop) (hW : Below W0.heap.size W0 W) (h1 : ∀ b, F' b → b < w'.heap.size ∧ (F b ∨ W.heap.size ≤ b)) (h2 : r.s = s) (h3 : r.q = .inl q') (hm : MemIs 139 w' bm bw r.ws r.cn) (hb : ButS (fun b => b = bm ∨ b = bw ∨ F b) W w') (ho : PinOpR br w' opv F' q') (ha : AnsOut (fun b => (F b ∨ W.heap.size ≤ b) ∧ ¬ F' b ∧ ¬ FO b) en w' r.ans) : StepRel (pinK n w br be) r opv bm bw F FO W en w' := by
  have hz := hW.size
  have hz2 := hb.size
  refine ⟨hm, hb.mono (fun b _ h => h.elim .inl (fun h => h.elim (fun h => .inr (.inl h)) (fun h => .inr (.inr (.inl h))))), F', FO, h1, fun b h => ⟨Nat.lt_of_lt_of_le (hs.2 b h).1 (Nat.le_trans hz hz2), .inl h, fun h' => ?_⟩, ?_, by rw [h3]; exact ho, ha⟩
  · have h4 := (h1 b h').2
    exact h4.elim (fun h5 => (hs.1 b h5).2.2.2 h) (fun h5 => by have := (hs.2 b h).1; omega)
  · rw [h2]
    exact (pinK n w br be).obj_keep hO (fun k hk => by
      have h4 := hs.2 k hk
      rw [hb.block k (Nat.lt_of_lt_of_le h4.1 hz) (fun h => h.elim h4.2.1 (fun h => h.elim h4.2.2 (fun h => (hs.1 k h).2.2.2 hk))), hW.block k h4.1]) (fun _ h => h)
theorem pin_inv_ok (n w br be : Nat) (x : CallV) (hx0 : x.o = 0) (s : (pinM n w).S) (W : World) (FO : Nat → Prop) (hO : (pinK n w br be).Obj W s FO) (hlt : ∀ b, FO b → b < W.heap.size) : InvC (pinK n w br be) (pinObj br) x ((pinM n w).inv s x) FO W := by
  refine ⟨_, _, _, rfl, pinM_meth br, pinM_enter, fun W' hW' => ?_⟩
  have hO' : (pinK n w br be).Obj W' s FO := (pinK n w br be).obj_keep hO (fun k hk => hW'.block k (hlt k hk)) (fun _ h => h)
  have keep : ∀ (w' : World), Below W'.heap.size W' w' → (pinK n w br be).Obj w' s FO ∧ ∀ b, FO b → b < w'.heap.size ∧ (FO b ∨ W'.heap.size ≤ b) := fun w' hb => ⟨(pinK n w br be).obj_keep hO' (fun k hk => hb.block k (Nat.lt_of_lt_of_le (hlt k hk) hW'.size)) (fun _ h => h), fun b h => ⟨Nat.lt_of_lt_of_le (hlt b h) (Nat.le_trans hW'.size hb.size), .inl h⟩⟩
  rw [pin_inv_eq]
  have bad : ∀ (er : Nat), er ≠ 0 → er ≤ 1000 → Calls Try.prog 127 #[.pointer (some ⟨br, 0, none⟩), callAgg x] W' (fun en w' => en = .returned (.tuple #[.nilIface, .int .i64 (er : Int)]) ∧ Below W'.heap.size W' w') → Calls Try.prog 127 #[.pointer (some ⟨br, 0, none⟩), callAgg x] W' (InvRel (pinK n w br be) (s, .inr er) FO W') := fun er h0 h1 hc => hc.mono fun en w' ⟨he, hb⟩ =>
    ⟨ButS.of_below hb, .nilIface, er, fun _ => False, FO, he, (keep w' hb).1, ⟨by unfold opOf; rw [if_neg (by omega)], h1⟩, fun b h => h.elim, fun b h => ⟨((keep w' hb).2 b h).1, ((keep w' hb).2 b h).2, id⟩⟩
  have made : ∀ (en : Ending) (w' : World) (v : Value) (q : PinQ) (g : Nat), en = .returned (.tuple #[v, .int .i64 0]) → Below W'.heap.size W' w' → W'.heap.size ≤ g → g < w'.heap.size → PinOpR br w' v (fun b => b = g) q → InvRel (pinK n w br be) (s, .inl q) FO W' en w' := fun en w' v q g he hb hg hl ho =>
    ⟨ButS.of_below hb, v, 0, fun b => b = g, FO, he, (keep w' hb).1, by unfold opOf; rw [if_pos rfl]; exact ho, fun b h => by subst h; exact ⟨hg, hl⟩, fun b h => ⟨((keep w' hb).2 b h).1, ((keep w' hb).2 b h).2, fun e => by have h3 := hlt b h; have h4 := hW'.size; subst e; omega⟩⟩
  by_cases k0 : x.k = 0
  · rw [if_pos k0]
    by_cases t0 : x.t = 0
    · rw [if_pos t0]
      refine (pin_invWrite n w br be s x W' hO'.2.2 k0 t0).mono fun en w' ⟨g, he, hr, hg, hb⟩ => ?_
      exact made en w' _ _ g he hb hg hr.lt ⟨g, rfl, rfl, hr⟩
    · rw [if_neg t0]
      exact bad 11 (by omega) (by omega) (pin_role br x W' k0 t0)
  · rw [if_neg k0]
    by_cases k1 : x.k = 1
    · rw [if_pos k1]
      refine (pin_invRead br x W' k1).mono fun en w' ⟨g, he, hr, hg, hb⟩ => ?_
      exact made en w' _ _ g he hb hg hr.lt ⟨g, rfl, rfl, hr⟩
    · rw [if_neg k1]
      exact bad 9 (by omega) (by omega) (pin_bad br x W' k0 k1)
set_option maxHeartbeats 1000000 in
theorem pin_step_ok (n w br be : Nat) (hn : 1 ≤ n ∧ n ≤ 16) (hw : 1 ≤ w ∧ w ≤ 8) (cs : List CallV) (hca : ∀ x ∈ cs, x.a ≤ 18446744073709551615) (st : St (pinM n w)) (e : Nat) (v : Ev (pinM n w)) (q : PinQ) (h : PinF n w cs st) (hT : PinT st) (hv : st.evs[e]? = some v) (hr0 : v.resp = 0) (hq : v.q = .inl q) (hcn : st.cn.r + st.cn.w + st.cn.s + st.cn.a < st.ticks ∧ st.cn.f = 0) (ht : st.ticks ≤ 70000) (W : World) (opv : Value) (bm bw : Nat) (F FO : Nat → Prop) (hop : (pinK n w br be).Op W opv q F) (hO : (pinK n w br be).Obj W st.s FO) (hM : MemIs 139 W bm bw st.ws st.cn) (hs : Sep bm bw F FO W) : StepC (pinK n w br be) (stepQ st.s (.inl q) st.ws st.cn st.ticks) st.ticks opv bm bw F FO W := by
  have hE := h.ev e v hv hr0
  rw [hq] at hE
  have hlen := h.len
  have hm : bm < W.heap.size ∧ bw < W.heap.size := ⟨hM.lt1, hM.lt2⟩
  have hew : be ≠ bw := (hs.2 be hO.2.1).2.2
  have hlE := loE_lt st.ws
  have hcell := h.cell
  have hcur := h.cur
  have hl1 : st.ws.length ≤ 65536 := by
    have h1 : (n + 1) * (1 + w) ≤ 17 * 9 := Nat.mul_le_mul (by omega) (by omega)
    omega
  have hmul : (n + 1) * (1 + w) = (n + 1) + (n + 1) * w := by rw [Nat.mul_add, Nat.mul_one]
  have hMW : ∀ W', Below W.heap.size W W' → MemIs 139 W' bm bw st.ws st.cn := fun W' hW' => hM.of_blocks (hW'.block _ hM.lt1) (hW'.block _ hM.lt2)
  have hRW : ∀ W', Below W.heap.size W W' → RegIs n w br be st.s W' := fun W' hW' => hO.2.2.same (hW'.block _ hO.2.2.1.lt) (hW'.block _ hO.2.2.2.lt)
  have hgF : ∀ {W' w' : World} {g : Nat}, F g → ButS (fun b => b = bm ∨ b = bw ∨ b = g) W' w' → ButS (fun b => b = bm ∨ b = bw ∨ F b) W' w' := fun hFg hb => hb.mono (fun b _ h => h.elim .inl (fun h => h.elim (fun h => .inr (.inl h)) (fun h => .inr (.inr (h ▸ hFg)))))
  have hF' : ∀ {W' w' : World} {g : Nat}, Below W.heap.size W W' → ButS (fun b => b = bm ∨ b = bw ∨ b = g) W' w' → ∀ b, F b → b < w'.heap.size ∧ (F b ∨ W'.heap.size ≤ b) := fun hW' hb b hFb => ⟨Nat.lt_of_lt_of_le (hs.1 b hFb).1 (Nat.le_trans hW'.size hb.size), .inl hFb⟩
  match q, hop, hE with
  | .wdone, hop, hE => exact hE.elim
  | .rdone t0, hop, hE => exact hE.elim
  | .look a q, hop, hE =>
    obtain ⟨g, rfl, hFg, hr⟩ := hop
    obtain ⟨x, h1, h2, h3, h4, h5, h6, h7, q', h8, h9, h10, h11⟩ := hE
    have hqn : q ≤ n := by omega
    by_cases hx : st.ws.getD (1 + q) 0 = st.s.ent.getD q 0
    · rw [pin_look, if_pos hx]
      refine wStepC (v := 0) (ao := none) (ln := 0) (cp := 0) (d := false) hs hm hr rfl pinLook_enter (fun W' hW' => ?_)
      refine (pin_found n w br be g bm bw a q _ st.s st.ws st.cn st.ticks W' (hMW W' hW') (hRW W' hW') (hr.same (hW'.block _ hr.lt)) hqn hn.2 h.elen (by omega) hl1 (by omega) rfl hx.symm hew).mono fun en w' ⟨he, hm2, hb, hr2⟩ => ?_
      exact ⟨he, pin_stepRel hO hs _ _ F hW' (hF' hW' hb) rfl rfl hm2 (hgF hFg hb) ⟨g, rfl, hFg, hr2⟩ he⟩
    · rw [pin_look, if_neg hx]
      refine wStepC (v := 0) (ao := none) (ln := 0) (cp := 0) (d := false) hs hm hr rfl pinLook_enter (fun W' hW' => ?_)
      refine (pin_held n w br be g bm bw a q _ _ _ st.s st.ws st.cn st.ticks W' (hMW W' hW') (hRW W' hW') (hr.same (hW'.block _ hr.lt)) hqn hn.2 h.elen (by omega) hl1 (by omega) rfl rfl hx rfl hew).mono fun en w' ⟨he, hm2, hb, hr2⟩ => ?_
      exact ⟨he, pin_stepRel hO hs _ _ F hW' (hF' hW' hb) rfl rfl hm2 (hgF hFg hb) ⟨g, rfl, hFg, hr2⟩ he⟩
  | .fill a q j, hop, hE =>
    obtain ⟨g, rfl, hFg, hr⟩ := hop
    obtain ⟨x, h1, h2, h3, h4, h5, h6, h7, h8, h9, h10, h11⟩ := hE
    have hxa := hca x (List.mem_of_getElem? h1)
    have hwd := wd_lt (n := n) h7 h9
    by_cases hj : j + 1 = w
    · rw [pin_fill, if_pos hj]
      refine wStepC (v := 0) (ao := none) (ln := 0) (cp := 0) (d := false) hs hm hr rfl pinFill_enter (fun W' hW' => ?_)
      refine (pin_fillL n w br be g bm bw a q j _ st.s st.ws st.cn st.ticks W' (hMW W' hW') (hRW W' hW') (hr.same (hW'.block _ hr.lt)) h7 hn.2 hw.2 h9 hj (by omega) hl1 (by omega) (by omega) rfl hew).mono fun en w' ⟨he, hm2, hb, hr2⟩ => ?_
      exact ⟨he, pin_stepRel hO hs _ _ F hW' (hF' hW' hb) rfl rfl hm2 (hgF hFg hb) ⟨g, j + 1, rfl, hFg, hr2⟩ he⟩
    · rw [pin_fill, if_neg hj]
      refine wStepC (v := 0) (ao := none) (ln := 0) (cp := 0) (d := false) hs hm hr rfl pinFill_enter (fun W' hW' => ?_)
      refine (pin_fillM n w br be g bm bw a q j _ st.s st.ws st.cn st.ticks W' (hMW W' hW') (hRW W' hW') (hr.same (hW'.block _ hr.lt)) h7 hn.2 hw.2 h9 hj (by omega) hl1 (by omega) (by omega) rfl hew).mono fun en w' ⟨he, hm2, hb, hr2⟩ => ?_
      exact ⟨he, pin_stepRel hO hs _ _ F hW' (hF' hW' hb) rfl rfl hm2 (hgF hFg hb) ⟨g, rfl, hFg, hr2⟩ he⟩
  | .pub a q, hop, hE =>
    obtain ⟨g, j, rfl, hFg, hr⟩ := hop
    obtain ⟨x, h1, h2, h3, h4, h5, h6, h7, h8, h9, h10⟩ := hE
    have hlim := h.lim st.s.cur hcur
    rw [if_pos rfl] at hlim
    have hy : st.ws.getD 0 0 % 4294967296 = loE st.ws := rfl
    have htot := h.tot
    have hz : (⟨st.s.ent.set st.s.cur (st.s.ent.getD st.s.cur 0 + (loE st.ws - st.s.tot)), loE st.ws, q⟩ : PinS) = pinPub st.s q (st.ws.getD 0 0) := by
      unfold pinPub
      rw [hy, show (st.s.ent.getD st.s.cur 0 + (loE st.ws + 18446744073709551616 - st.s.tot)) % 18446744073709551616 = st.s.ent.getD st.s.cur 0 + (loE st.ws - st.s.tot) by omega]
    rw [pin_pub]
    refine wStepC (v := 0) (ao := none) (ln := 0) (cp := 0) (d := true) hs hm hr rfl pinPub_enter (fun W' hW' => ?_)
    refine (pin_publish n w br be g bm bw a q j _ _ _ _ _ st.s st.ws st.cn st.ticks W' (hMW W' hW') (hRW W' hW') (hr.same (hW'.block _ hr.lt)) h7 hn.2 h.elen hcur (by omega) hl1 (by omega) rfl (by omega) hy htot rfl (by omega) rfl rfl hew).mono fun en w' ⟨he, hm2, hb, hr2⟩ => ?_
    refine ⟨he, hm2, hb.mono (fun b _ h => h.elim .inl (fun h => h.elim (fun h => .inr (.inl h)) (fun h => .inr (.inr (.inr (h.elim (fun e => e ▸ hO.1) (fun e => e ▸ hO.2.1))))))), F, FO, fun b hFb => ⟨Nat.lt_of_lt_of_le (hs.1 b hFb).1 (Nat.le_trans hW'.size hb.size), .inl hFb⟩, fun b h' => ⟨Nat.lt_of_lt_of_le (hs.2 b h').1 (Nat.le_trans hW'.size hb.size), .inl h', fun h'' => (hs.1 b h'').2.2.2 h'⟩, ⟨hO.1, hO.2.1, ?_⟩, ⟨g, rfl⟩, _, he, ListAt.nil _ _ _ _⟩
    rw [hz] at hr2
    exact hr2
  | .enter, hop, hE =>
    obtain ⟨g, rfl, hFg, hr⟩ := hop
    rw [pin_enter]
    refine rStepC (v := 0) (ao := none) (ln := 0) (cp := 0) (d := false) hs hm hr rfl pinEnter_enter (fun W' hW' => ?_)
    refine (pin_enters n w br be g bm bw 0 (st.ws.getD 0 0 / 4294967296) st.s st.ws st.cn st.ticks W' (hMW W' hW') (hRW W' hW').1 (hr.same (hW'.block _ hr.lt)) (by omega) hl1 (by omega) rfl (by omega) (by omega)).mono fun en w' ⟨he, hm2, hb, hr2⟩ => ?_
    exact ⟨he, pin_stepRel hO hs _ _ F hW' (hF' hW' hb) rfl rfl hm2 (hgF hFg hb) ⟨g, none, 0, rfl, hFg, hr2, World.ownsRow_nil _ _ _ _, fun k hk => by cases hk⟩ he⟩
  | .take t0 q l, hop, hE =>
    obtain ⟨g, ao, cp, rfl, hFg, hr, how, hoF⟩ := hop
    obtain ⟨x, h1, h2, h3, h4, h5, h6, h7⟩ := hE
    have hwd := wd_lt (n := n) h4 h5
    have hob : ∀ k, (Value.slice ao l.length cp).ownBlock = some k → k ≠ be ∧ k ≠ bw := fun k hk => ⟨fun e => (hs.1 k (hoF k hk)).2.2.2 (e ▸ hO.2.1), (hs.1 k (hoF k hk)).2.2.1⟩
    have hle : (l ++ [st.ws.getD (wdA n w q l.length) 0]).length = l.length + 1 := by simp
    have how' : ∀ W', Below W.heap.size W W' → W'.ownsRow 0 37 1 (.slice ao l.length cp) l.length (l.map mkU) := fun W' hW' => owns_sameB how (fun k hk => hW'.block k (hs.1 k (hoF k hk)).1)
    by_cases hj : l.length + 1 = w
    · rw [pin_take, if_pos hj]
      refine rStepC (v := 0) (ao := none) (ln := 0) (cp := 0) (d := false) hs hm hr rfl pinTake_enter (fun W' hW' => ?_)
      refine (pin_takeL n w br be g bm bw t0 q _ st.s ao cp l st.ws st.cn st.ticks W' (hMW W' hW') (hRW W' hW') (hr.same (hW'.block _ hr.lt)) (how' W' hW') hob h4 hn.2 hw.2 h5 hj (by omega) hl1 (by omega) rfl hew).mono fun en w' ⟨he, hm2, hb, gl, cap, hr2, ho2, hg2, hl2⟩ => ?_
      refine ⟨he, pin_stepRel hO hs _ _ (fun b => F b ∨ b = gl) hW' (fun b hb' => ?_) rfl rfl hm2 (hb.mono (fun b _ h => h.elim .inl (fun h => h.elim (fun h => .inr (.inl h)) (fun h => .inr (.inr (h.elim (fun h => h ▸ hFg) (hoF b))))))) ⟨g, some ⟨gl, 0, none⟩, cap, rfl, .inl hFg, by rw [hle]; exact hr2, by rw [hle]; exact ho2, fun k hk => .inr (by cases hk; rfl)⟩ he⟩
      rcases hb' with hb' | rfl
      · exact ⟨Nat.lt_of_lt_of_le (hs.1 b hb').1 (Nat.le_trans hW'.size hb.size), .inl hb'⟩
      · exact ⟨hl2, hg2.imp (hoF _) id⟩
    · rw [pin_take, if_neg hj]
      refine rStepC (v := 0) (ao := none) (ln := 0) (cp := 0) (d := false) hs hm hr rfl pinTake_enter (fun W' hW' => ?_)
      refine (pin_takeM n w br be g bm bw t0 q _ st.s ao cp l st.ws st.cn st.ticks W' (hMW W' hW') (hRW W' hW') (hr.same (hW'.block _ hr.lt)) (how' W' hW') hob h4 hn.2 hw.2 h5 hj (by omega) hl1 (by omega) rfl hew).mono fun en w' ⟨he, hm2, hb, gl, cap, hr2, ho2, hg2, hl2⟩ => ?_
      refine ⟨he, pin_stepRel hO hs _ _ (fun b => F b ∨ b = gl) hW' (fun b hb' => ?_) rfl rfl hm2 (hb.mono (fun b _ h => h.elim .inl (fun h => h.elim (fun h => .inr (.inl h)) (fun h => .inr (.inr (h.elim (fun h => h ▸ hFg) (hoF b))))))) ⟨g, some ⟨gl, 0, none⟩, cap, rfl, .inl hFg, by rw [hle]; exact hr2, by rw [hle]; exact ho2, fun k hk => .inr (by cases hk; rfl)⟩ he⟩
      rcases hb' with hb' | rfl
      · exact ⟨Nat.lt_of_lt_of_le (hs.1 b hb').1 (Nat.le_trans hW'.size hb.size), .inl hb'⟩
      · exact ⟨hl2, hg2.imp (hoF _) id⟩
  | .leave t0 q l, hop, hE =>
    obtain ⟨g, ao, cp, rfl, hFg, hr, how, hoF⟩ := hop
    obtain ⟨x, h1, h2, h3, h4, h5, h6, h7⟩ := hE
    have ht0 : t0 ≤ 4611686018427387903 := by
      have h8 := ((hT e v hv).2 t0 (by rw [hq]; rfl)).2
      omega
    rw [pin_leave]
    refine rStepC (v := 0) (ao := ao) (ln := l.length) (cp := cp) (d := true) hs hm hr rfl pinLeave_enter (fun W' hW' => ?_)
    refine (pin_leaves n w br be g bm bw t0 q st.s st.ws st.cn st.ticks ao l.length cp W' (hMW W' hW') (hRW W' hW') (hr.same (hW'.block _ hr.lt)) (by omega) (by omega) hl1 (by omega) ht0 (fun e => (hs.1 g hFg).2.2.2 (e ▸ hO.2.1))).mono fun en w' ⟨he, hm2, hb, bk, hbk, hk2, hr2⟩ => ?_
    have hgo : ∀ k, (Value.slice ao l.length cp).ownBlock = some k → k ≠ g := fun k hk e => row_owns_ne hr how (by decide) (e ▸ hk)
    refine ⟨he, pin_stepRel hO hs _ (.rdone t0) (fun b => b = g ∨ b = bk) hW' (fun b hb' => ?_) rfl rfl hm2 (hgF hFg hb) ⟨g, bk, q, _, rfl, .inl rfl, .inr rfl, hr2, hk2⟩ ⟨_, he, listAt_owns (owns_sameB how (fun k hk => ?_)) rfl (show l.length ≤ 4294967296 by omega) (fun k hk => ⟨.inl (hoF k hk), fun e => e.elim (hgo k hk) (fun e => by have := (hs.1 k (hoF k hk)).1; have := hW'.size; omega), (hs.1 k (hoF k hk)).2.2.2⟩) ⟨_, _, rfl⟩⟩⟩
    · rcases hb' with rfl | rfl
      · exact ⟨hr2.lt, .inl hFg⟩
      · exact ⟨hk2.lt, .inr hbk⟩
    · have h8 := hs.1 k (hoF k hk)
      rw [hb.block k (Nat.lt_of_lt_of_le h8.1 hW'.size) (fun e => e.elim h8.2.1 (fun e => e.elim h8.2.2.1 (hgo k hk))), hW'.block k h8.1]
def PinB (n w : Nat) (cs : List CallV) (st : St (pinM n w)) : Prop := PinI n w cs st ∧ PinT st
theorem pin_key_ok (n w br be : Nat) (W : World) (s : PinS) (q : PinQ) (opv : Value) (F FO : Nat → Prop) (hop : (pinK n w br be).Op W opv q F) : KeyOk opv (pinKey q) W := by
  match q, hop with
  | .look a q, hop => obtain ⟨g, rfl, _⟩ := hop; exact .inl ⟨noKey_pinW _, rfl⟩
  | .fill a q j, hop => obtain ⟨g, rfl, _⟩ := hop; exact .inl ⟨noKey_pinW _, rfl⟩
  | .pub a q, hop => obtain ⟨g, j, rfl, _⟩ := hop; exact .inl ⟨noKey_pinW _, rfl⟩
  | .wdone, hop => obtain ⟨g, rfl⟩ := hop; exact .inl ⟨noKey_pinW _, rfl⟩
  | .enter, hop => obtain ⟨g, rfl, _, hr⟩ := hop; exact .inr (pin_hasKey hr (fun _ _ => ListAt.nil _ _ _ _))
  | .take t0 q l, hop => obtain ⟨g, ao, cp, rfl, _, hr, _⟩ := hop; exact .inr (pin_hasKey hr (fun _ _ => ListAt.nil _ _ _ _))
  | .leave t0 q l, hop => obtain ⟨g, ao, cp, rfl, _, hr, _⟩ := hop; exact .inr (pin_hasKey hr (fun _ _ => ListAt.nil _ _ _ _))
  | .rdone t0, hop =>
    obtain ⟨g, bk, q, lv, rfl, _, _, hr, hk⟩ := hop
    exact .inr (pin_hasKey hr (fun W2 hW2 => ⟨some ⟨bk, 0, none⟩, bk, 0, 1, rfl, fun _ => ⟨rfl, trivial, BlkT.of_row (hk.same (hW2.block _ hk.lt))⟩, (fun h => by cases h), (by show 1 ≤ 4294967296; decide), fun i x hx => by
      have h1 : RowBlk 3 W2 bk [.int .i64 ((2 * t0 : Nat) : Int)] := hk.same (hW2.block _ hk.lt)
      have h2 : ([2 * t0] : List Nat)[i]? = some x := hx
      match i, h2 with
      | 0, h2 => cases h2; exact h1.cell rfl⟩))
theorem pin_ok (n w br be : Nat) (hn : 1 ≤ n ∧ n ≤ 16) (hw : 1 ≤ w ∧ w ≤ 8) (cs : List CallV) (hth : ∀ x ∈ cs, 0 ≤ x.t ∧ x.t < n) (hca : ∀ x ∈ cs, x.a ≤ 18446744073709551615) : MachOk (pinK n w br be) cs (PinB n w cs) where
  olen := rfl
  inv := fun st i x _ hx h0 h1 W FO hO hlt => by
    have hm : ((pinM n w).m : Int) = 1 := rfl
    have hx0 : x.o = 0 := by omega
    have e : objOf (pinK n w br be).objs x.o = pinObj br := by rw [hx0]; rfl
    rw [e]
    exact pin_inv_ok n w br be x hx0 st.s W FO hO hlt
  step := fun st p e v q hI hw' hc hv hq hcn ht W opv bm bw F FO hop hO hM hs => by
    have hr0 : v.resp = 0 := by
      obtain ⟨v', hv', hr, _⟩ := hw'.cur p e hc
      rw [hv] at hv'; cases hv'; exact hr
    exact pin_step_ok n w br be hn hw cs hca st e v q (hI.1 (by omega)) hI.2 hv hr0 hq hcn ht W opv bm bw F FO hop hO hM hs
  key := fun W s q opv F FO hop _ => pin_key_ok n w br be W s q opv F FO hop
  turn := fun st p i x hI _ hno hx => ⟨pinI_turn hn.1 hth hI.1 hno hx, pinT_turn hI.2 i x p⟩
  stepI := fun st p i e v hI hw' ht _ hc hv => by
    obtain ⟨v', hv', hr, _⟩ := hw'.cur p e hc
    rw [hv] at hv'; cases hv'
    exact ⟨pinI_step hn hw.1 hI.1 ht hc hv hr, pinT_step hI.2 hv⟩
  idle := fun st hI => ⟨pinI_idle hI.1, pinT_idle hI.2⟩
/-- why a pin register is not made -/
def pinErr (kv : Int) : Nat := if 1 ≤ kv ∧ kv ≤ 8 then 0 else 10
def pinSz (n kv : Int) : Nat := if 1 ≤ kv ∧ kv ≤ 8 then 1 + (n.toNat + 1) * (1 + kv.toNat) else 0
theorem pin_sz_le {n k : Nat} (hn : n ≤ 16) (hk : k ≤ 8) : (n + 1) * (1 + k) ≤ 153 := Nat.le_trans (Nat.mul_le_mul (show n + 1 ≤ 17 by omega) (show 1 + k ≤ 9 by omega)) (by decide)
theorem pinSizeC (n kv : Int) (hn : n = (n.toNat : Int)) (h16 : n.toNat ≤ 16) : SizeC 75 (.agg #[.int .i64 kv]) n (pinSz n kv) (pinErr kv) := ⟨109, fun w' => by kernel_rfl, fun args w' => by kernel_rfl, fun W => by
  unfold pinSz pinErr
  by_cases h : 1 ≤ kv ∧ kv ≤ 8
  · rw [if_pos h, if_pos h]
    have := pinSize_ok n.toNat kv.toNat _ h16 (by omega) rfl (pin_sz_le h16 (by omega)) W
    rw [← hn, show ((kv.toNat : Nat) : Int) = kv by omega] at this
    exact this
  · rw [if_neg h, if_neg h]
    exact pinSize_bad n kv (by omega) W⟩
theorem pinPlaceC (n k : Nat) (hn : 1 ≤ n ∧ n ≤ 16) (hk : 1 ≤ k ∧ k ≤ 8) (cs : List CallV) (hth : ∀ x ∈ cs, 0 ≤ x.t ∧ x.t < n) (hca : ∀ x ∈ cs, x.a ≤ 18446744073709551615) : PlaceC (M := pinM n k) cs (PinB n k cs) (⟨List.replicate (n + 1) 0, 0, 0⟩ : PinS) 75 (.agg #[.int .i64 (k : Int)]) (n : Int) := ⟨108, fun w' => by kernel_rfl, fun args w' => by kernel_rfl, fun W => (pinPlace n k hn.2 W).mono fun e w' ⟨br, be, he, h1, h2, h3, h4, hR, hb⟩ =>
  ⟨pinObj br, he, ⟨pinK n k br be, fun b => b = br ∨ b = be, ⟨_, _, rfl⟩, rfl, pin_ok n k br be hn hk cs hth hca, ⟨.inl rfl, .inr rfl, hR⟩, fun b h => by
    rcases h with rfl | rfl
    · exact ⟨h1, h3⟩
    · exact ⟨h2, h4⟩⟩, hb⟩⟩
theorem check_threadsP {n : Int} {cs : List CallV} {np : Nat} (h : checkL n (thr cs) np = 0) : (1 ≤ n.toNat ∧ n.toNat ≤ 16) ∧ n = (n.toNat : Int) ∧ ∀ x ∈ cs, 0 ≤ x.t ∧ x.t < (n.toNat : Int) := by
  have h2 := check_zero h
  have h3 := wrongL_threads h2.1
  refine ⟨by omega, by omega, fun x hx => ?_⟩
  have := h3.2 x.t (List.mem_map.2 ⟨x, hx, rfl⟩)
  omega
theorem calls_aP {w : World} {b o : Nat} {cs : List CallV} (h : CallsAt w b o cs) : ∀ x ∈ cs, x.a ≤ 18446744073709551615 := fun x hx => by
  obtain ⟨i, hi⟩ := List.mem_iff_getElem?.1 hx
  have := h i x hi
  omega
theorem pin_play (n kv : Int) (ao : Option Addr) (b o cap : Nat) (cs : List CallV) (ao3 : Option Addr) (b3 o3 cap3 : Nat) (picks : List Int) (w : World) (ha : 0 < cs.length → ao = some ⟨b, o, none⟩) (hb : 0 < cs.length → b < w.heap.size) (hc : CallsAt w b o cs) (hcap : ao = none → cap = 0)
    (ha3 : 0 < picks.length → ao3 = some ⟨b3, o3, none⟩) (hb3 : 0 < picks.length → b3 < w.heap.size) (hc3 : ICells w b3 o3 picks) (hnp : picks.length ≤ 9223372036854775807) :
    Calls Try.prog 19 #[.int .i64 n, .int .i64 kv, .slice ao cs.length cap, .slice ao3 picks.length cap3] w (PlayG (pinM n.toNat kv.toNat) n (pinErr kv) cs (List.replicate (pinSz n kv) 0) (⟨List.replicate (n.toNat + 1) 0, 0, 0⟩ : PinS) picks w) :=
  pinPlay_any n kv (PinB n.toNat kv.toNat cs) (pinSz n kv) (pinErr kv) ao b o cap cs ao3 b3 o3 cap3 picks w ha hb hc hcap ha3 hb3 hc3 hnp (fun h => by obtain ⟨h1, h2, _⟩ := check_threadsP h; exact pinSizeC n kv h2 h1.2) (fun h her => by
    obtain ⟨h1, h2, h3⟩ := check_threadsP h
    have hk : 1 ≤ kv ∧ kv ≤ 8 := by
      unfold pinErr at her
      split at her
      · next h => exact h
      · cases her
    have hsz : pinSz n kv = 1 + (n.toNat + 1) * (1 + kv.toNat) := by unfold pinSz; rw [if_pos hk]
    have hp := pinPlaceC n.toNat kv.toNat h1 (by omega) cs h3 (calls_aP hc)
    rw [← h2, show ((kv.toNat : Nat) : Int) = kv by omega] at hp
    rw [hsz]
    have h5 := pin_sz_le (n := n.toNat) (k := kv.toNat) h1.2 (by omega)
    exact ⟨pinNotFilled kv, hp, by omega, by omega, pinI_first, pinT_first _ _⟩)
end
end Go.Proofs.Ytpoebpnmbogmnaa
