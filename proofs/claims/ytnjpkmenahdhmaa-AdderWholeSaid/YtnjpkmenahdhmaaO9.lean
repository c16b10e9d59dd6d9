/- The adder as a machine; walks of adder. -/
import Derived.Test.YtnjpkmenahdhmaaOA
namespace Go.Proofs.Ytnjpkmenahdhmaa
open Go.RowKit
set_option linter.unusedVariables false
set_option maxRecDepth 20000 in
set_option maxHeartbeats 1000000 in
theorem adRead_step (bm bw i x : Nat) (tick : Int) (l : List Nat) (c : Cn) (w : World) (hM : MemIs 158 w bm bw l c) (hi : l[i]? = some x) (hn : l.length ≤ 65536) (hc : c.r < 9223372036854775807) :
    Calls Try.prog 152 #[.agg #[.int .i64 (i : Int)], turnAgg bm tick] w (StepEnd 0 x bm bw l { c with r := c.r + 1 } w) := by
  unfold turnAgg
  have HM := Lib.hid hM
  have HI := Lib.hid hi
  have hmm := m_Read ⟨bm, 0, none⟩
  have hbm := hM.lt1
  have hbw := hM.lt2
  clear hM hi
  go_enter Try.func152, Try.ntmps152
  go_wp2_with fail
  generalize hw3 : ((w.alloc (.cells #[.int .i64 (i : Int)] 236)).alloc (.cells #[.iface 114 (.pointer (some ⟨bm, 0, none⟩)), .int .i64 tick] 130)).alloc (.cells #[.int .i64 0, .int .u64 0, .slice none 0 0] 48) = w3
  have HM3 : Hid (MemIs 158 w3 bm bw l c) := Lib.hid (by rw [← hw3]; exact ((HM.out.alloc _).alloc _).alloc _)
  have HB3 : Hid (But bm bw w w3) := Lib.hid (by rw [← hw3]; exact (((But.refl _ _ _).alloc _).alloc _).alloc _)
  have hs3 : w3.heap.size = w.heap.size + 1 + 1 + 1 := by rw [← hw3]; simp
  have hb3 : RowBlk 48 w3 (w.heap.size + 1 + 1) [.int .i64 0, .int .u64 0, .slice none 0 0] := by
    rw [← hw3]
    have := RowBlk.new ((w.alloc (.cells #[.int .i64 (i : Int)] 236)).alloc (.cells #[.iface 114 (.pointer (some ⟨bm, 0, none⟩)), .int .i64 tick] 130)) [.int .i64 0, .int .u64 0, .slice none 0 0] 48
    simpa using this
  clear hw3
  refine (read_ok bm bw i x l c w3 HM3.out HI.out hn hc).mono ?_
  rintro e w4 ⟨rfl, hM4, hB4⟩
  have hk4 : RowBlk 48 w4 (w.heap.size + 1 + 1) [.int .i64 0, .int .u64 0, .slice none 0 0] := hb3.same (hB4.block _ (by omega) (by omega) (by omega))
  have HX := Lib.hid (answer_store (.int .i64 0) (.int .u64 x) (.slice none 0 0) hk4 hM4 (HB3.out.trans hB4) (by omega) (by omega) (by omega))
  have k0 := hk4.cell (i := 0) rfl
  have k1 := hk4.cell (i := 1) rfl
  have k2 := hk4.cell (i := 2) rfl
  have f0 : w4.frozen? ⟨w.heap.size + 1 + 1, 0, none⟩ = false := hk4.free
  have f1 : w4.frozen? ⟨w.heap.size + 1 + 1, 1, none⟩ = false := hk4.free
  have f2 : w4.frozen? ⟨w.heap.size + 1 + 1, 2, none⟩ = false := hk4.free
  clear hM4 hB4 hb3 hk4
  go_wp2
  generalize ((w4.setCell ⟨w.heap.size + 1 + 1, 0, none⟩ (.int .i64 0)).setCell ⟨w.heap.size + 1 + 1, 1, none⟩ (.int .u64 x)).setCell ⟨w.heap.size + 1 + 1, 2, none⟩ (.slice none 0 0) = w5 at HX ⊢
  have q0 := HX.out.1.cell (i := 0) rfl
  have q1 := HX.out.1.cell (i := 1) rfl
  have q2 := HX.out.1.cell (i := 2) rfl
  exact bodyPost_ret (v := .tuple #[.agg #[.int .i64 0, .int .u64 x, .slice none 0 0], .bool true]) (by simp [results, Try.results152, go_sem, q0, q1, q2]) rfl ⟨rfl, HX.out.2.1, HX.out.2.2⟩

set_option maxRecDepth 20000 in
set_option maxHeartbeats 1000000 in
theorem adAdd_step (bm bw i x d : Nat) (tick : Int) (l : List Nat) (c : Cn) (w : World) (hM : MemIs 158 w bm bw l c) (hi : l[i]? = some x) (hn : l.length ≤ 65536) (hc : c.a < 9223372036854775807) :
    Calls Try.prog 151 #[.agg #[.int .i64 (i : Int), .int .u64 (d : Int)], turnAgg bm tick] w (StepEnd 0 x bm bw (l.set i ((x + d) % 18446744073709551616)) { c with a := c.a + 1 } w) := by
  unfold turnAgg
  have HM := Lib.hid hM
  have HI := Lib.hid hi
  have hmm := m_Add ⟨bm, 0, none⟩
  have hbm := hM.lt1
  have hbw := hM.lt2
  clear hM hi
  go_enter Try.func151, Try.ntmps151
  go_wp2_with fail
  generalize hw3 : ((w.alloc (.cells #[.int .i64 (i : Int), .int .u64 (d : Int)] 235)).alloc (.cells #[.iface 114 (.pointer (some ⟨bm, 0, none⟩)), .int .i64 tick] 130)).alloc (.cells #[.int .i64 0, .int .u64 0, .slice none 0 0] 48) = w3
  have HM3 : Hid (MemIs 158 w3 bm bw l c) := Lib.hid (by rw [← hw3]; exact ((HM.out.alloc _).alloc _).alloc _)
  have HB3 : Hid (But bm bw w w3) := Lib.hid (by rw [← hw3]; exact (((But.refl _ _ _).alloc _).alloc _).alloc _)
  have hs3 : w3.heap.size = w.heap.size + 1 + 1 + 1 := by rw [← hw3]; simp
  have hb3 : RowBlk 48 w3 (w.heap.size + 1 + 1) [.int .i64 0, .int .u64 0, .slice none 0 0] := by
    rw [← hw3]
    have := RowBlk.new ((w.alloc (.cells #[.int .i64 (i : Int), .int .u64 (d : Int)] 235)).alloc (.cells #[.iface 114 (.pointer (some ⟨bm, 0, none⟩)), .int .i64 tick] 130)) [.int .i64 0, .int .u64 0, .slice none 0 0] 48
    simpa using this
  clear hw3
  refine (add_ok bm bw i x d l c w3 HM3.out HI.out hn hc).mono ?_
  rintro e w4 ⟨rfl, hM4, hB4⟩
  have hk4 : RowBlk 48 w4 (w.heap.size + 1 + 1) [.int .i64 0, .int .u64 0, .slice none 0 0] := hb3.same (hB4.block _ (by omega) (by omega) (by omega))
  have HX := Lib.hid (answer_store (.int .i64 0) (.int .u64 x) (.slice none 0 0) hk4 hM4 (HB3.out.trans hB4) (by omega) (by omega) (by omega))
  have k0 := hk4.cell (i := 0) rfl
  have k1 := hk4.cell (i := 1) rfl
  have k2 := hk4.cell (i := 2) rfl
  have f0 : w4.frozen? ⟨w.heap.size + 1 + 1, 0, none⟩ = false := hk4.free
  have f1 : w4.frozen? ⟨w.heap.size + 1 + 1, 1, none⟩ = false := hk4.free
  have f2 : w4.frozen? ⟨w.heap.size + 1 + 1, 2, none⟩ = false := hk4.free
  clear hM4 hB4 hb3 hk4
  go_wp2
  generalize ((w4.setCell ⟨w.heap.size + 1 + 1, 0, none⟩ (.int .i64 0)).setCell ⟨w.heap.size + 1 + 1, 1, none⟩ (.int .u64 x)).setCell ⟨w.heap.size + 1 + 1, 2, none⟩ (.slice none 0 0) = w5 at HX ⊢
  have q0 := HX.out.1.cell (i := 0) rfl
  have q1 := HX.out.1.cell (i := 1) rfl
  have q2 := HX.out.1.cell (i := 2) rfl
  exact bodyPost_ret (v := .tuple #[.agg #[.int .i64 0, .int .u64 x, .slice none 0 0], .bool true]) (by simp [results, Try.results151, go_sem, q0, q1, q2]) rfl ⟨rfl, HX.out.2.1, HX.out.2.2⟩

structure AddQ where
  rd : Bool
  d : Nat
def addAcc (q : AddQ) : Acc := if q.rd = true then .rd 0 else .ad 0 q.d
def addM : Mach where
  S := Unit
  Q := AddQ
  m := 1
  inv := fun s x => (s, if x.k = 0 then .inl ⟨false, x.a⟩ else if x.k = 1 then .inl ⟨true, 0⟩ else if x.k = 2 then .inl ⟨false, 1⟩ else .inr 9)
  acc := fun _ q => addAcc q
  next := fun s q r _ => (s, q, some ⟨0, r, []⟩)
  key := fun _ _ => []
theorem add_inv_eq (s : addM.S) (x : CallV) : addM.inv s x = (s, ((if x.k = 0 then Sum.inl (⟨false, x.a⟩ : AddQ) else if x.k = 1 then Sum.inl ⟨true, 0⟩ else if x.k = 2 then Sum.inl ⟨false, 1⟩ else Sum.inr 9) : AddQ ⊕ Nat)) := rfl
def addOp (q : AddQ) : Value := if q.rd = true then .iface 236 (.agg #[.int .i64 0]) else .iface 235 (.agg #[.int .i64 0, .int .u64 (q.d : Int)])
def addObj : Value := .iface 211 (.agg #[.int .i64 0])
def addK : MachRel addM where
  objs := [addObj]
  Obj := fun _ _ _ => True
  Op := fun _ v q _ => v = addOp q
  obj_keep := fun _ _ _ => trivial
  op_keep := fun h _ _ => h
  op_iface := fun h => by
    subst h
    unfold addOp
    split
    · exact ⟨_, _, rfl⟩
    · exact ⟨_, _, rfl⟩
theorem addM_meth (a : Int) (w : World) : (method 370 211 (.agg #[.int .i64 a]) "Invoke").run Try.prog w = .ok (132, .agg #[.int .i64 a]) w := by kernel_rfl
theorem addM_enter (args : Array Value) (w : World) : (callFunc 132 args).run Try.prog w = .ok (.enter 132 args) w := by kernel_rfl
theorem addRd_meth (a : Int) (w : World) : (method 370 236 (.agg #[.int .i64 a]) "Step").run Try.prog w = .ok (152, .agg #[.int .i64 a]) w := by kernel_rfl
theorem addRd_enter (args : Array Value) (w : World) : (callFunc 152 args).run Try.prog w = .ok (.enter 152 args) w := by kernel_rfl
theorem addAd_meth (a b : Int) (w : World) : (method 370 235 (.agg #[.int .i64 a, .int .u64 b]) "Step").run Try.prog w = .ok (151, .agg #[.int .i64 a, .int .u64 b]) w := by kernel_rfl
theorem addAd_enter (args : Array Value) (w : World) : (callFunc 151 args).run Try.prog w = .ok (.enter 151 args) w := by kernel_rfl
theorem noKey_adRead (v : Value) : NoKey (.iface 236 v) := fun w => run_typeAssert_lacksB Try.underlying180 (by kernel_rfl) (by kernel_rfl) v 160 w
theorem noKey_adAdd (v : Value) : NoKey (.iface 235 v) := fun w => run_typeAssert_lacksB Try.underlying180 (by kernel_rfl) (by kernel_rfl) v 160 w

def AddMade (v : Value) (er : Int) (W : World) (en : Ending) (w' : World) : Prop := en = .returned (.tuple #[v, .int .i64 er]) ∧ Below W.heap.size W w'
set_option maxRecDepth 100000 in
theorem addInv_bad (x : CallV) (W : World) (hk0 : ¬ x.k = 0) (hk1 : ¬ x.k = 1) (hk2 : ¬ x.k = 2) : Calls Try.prog 132 #[.agg #[.int .i64 0], callAgg x] W (AddMade .nilIface 9 W) := by
  unfold callAgg
  go_enter Try.func132, Try.ntmps132
  go_wp2
  go_ret2
  exact ⟨rfl, ((Below.refl _ _).alloc (Nat.le_refl _) _).alloc (by simp) _⟩
set_option maxRecDepth 100000 in
theorem addInv_add (x : CallV) (W : World) (hk : x.k = 0) : Calls Try.prog 132 #[.agg #[.int .i64 0], callAgg x] W (AddMade (addOp ⟨false, x.a⟩) 0 W) := by
  unfold callAgg
  rw [hk]
  go_enter Try.func132, Try.ntmps132
  go_wp2
  go_ret2
  exact ⟨rfl, ((Below.refl _ _).alloc (Nat.le_refl _) _).alloc (by simp) _⟩
set_option maxRecDepth 100000 in
theorem addInv_read (x : CallV) (W : World) (hk : x.k = 1) : Calls Try.prog 132 #[.agg #[.int .i64 0], callAgg x] W (AddMade (addOp ⟨true, 0⟩) 0 W) := by
  unfold callAgg
  rw [hk]
  go_enter Try.func132, Try.ntmps132
  go_wp2
  go_ret2
  exact ⟨rfl, ((Below.refl _ _).alloc (Nat.le_refl _) _).alloc (by simp) _⟩
set_option maxRecDepth 100000 in
theorem addInv_ticket (x : CallV) (W : World) (hk : x.k = 2) : Calls Try.prog 132 #[.agg #[.int .i64 0], callAgg x] W (AddMade (addOp ⟨false, 1⟩) 0 W) := by
  unfold callAgg
  rw [hk]
  go_enter Try.func132, Try.ntmps132
  go_wp2
  go_ret2
  exact ⟨rfl, ((Below.refl _ _).alloc (Nat.le_refl _) _).alloc (by simp) _⟩

theorem addStep_rel (s : Unit) (q : AddQ) (opv : Value) (l l' : List Nat) (c c' : Cn) (bm bw t v : Nat) (F FO : Nat → Prop) (w : World) (hs : Sep bm bw F FO w) (W : World) (hW : Below w.heap.size w W) (he : (addAcc q).run l c = (v, l', c')) (hop : opv = addOp q) {en : Ending} {w' : World} (h : StepEnd 0 v bm bw l' c' W en w') :
    StepRel addK (stepQ (M := addM) s (.inl q) l c t) opv bm bw F FO W en w' := by
  obtain ⟨hen, hm, hb⟩ := h
  have e1 : (stepQ (M := addM) s (.inl q) l c t).ws = l' := by show ((addAcc q).run l c).2.1 = _; rw [he]
  have e2 : (stepQ (M := addM) s (.inl q) l c t).cn = c' := by show ((addAcc q).run l c).2.2 = _; rw [he]
  have e3 : (stepQ (M := addM) s (.inl q) l c t).ans = some ⟨0, v, []⟩ := by show some (⟨0, ((addAcc q).run l c).1, []⟩ : Ans) = _; rw [he]
  refine ⟨by rw [e1, e2]; exact hm, ButS.of_but hb (.inl rfl) (.inr (.inl rfl)), fun _ => False, FO, fun b h => h.elim, fun b h => ⟨Nat.lt_of_lt_of_le (hs.2 b h).1 (Nat.le_trans hW.size hb.size), .inl h, id⟩, trivial, hop, ?_⟩
  rw [e3]
  exact ⟨_, hen, ListAt.nil _ _ _ _⟩
def AddI (st : St addM) : Prop := st.ws.length = 1
theorem add_ok' (cs : List CallV) : MachOk addK cs AddI where
  olen := rfl
  inv := fun st i x _ _ h0 h1 W FO _ hlt => by
    have hx0 : x.o = 0 := by have : (addM.m : Int) = 1 := rfl; omega
    have e : objOf addK.objs x.o = addObj := by rw [hx0]; rfl
    rw [e]
    refine ⟨_, _, _, rfl, addM_meth _, addM_enter, fun W' hW' => ?_⟩
    have mk2 : ∀ (q : AddQ), (addM.inv st.s x) = (st.s, .inl q) → Calls Try.prog 132 #[.agg #[.int .i64 0], callAgg x] W' (AddMade (addOp q) 0 W') →
        Calls Try.prog 132 #[.agg #[.int .i64 0], callAgg x] W' (InvRel addK (addM.inv st.s x) FO W') := fun q hin hc => hc.mono fun en w' ⟨hen, hb⟩ => by
      rw [hin]
      exact ⟨ButS.of_below hb, addOp q, 0, fun _ => False, FO, hen, trivial, (by unfold opOf; rw [if_pos rfl]; rfl), fun b h => h.elim, fun b h => ⟨Nat.lt_of_lt_of_le (hlt b h) (Nat.le_trans hW'.size hb.size), .inl h, id⟩⟩
    by_cases k0 : x.k = 0
    · exact mk2 _ (by rw [add_inv_eq, if_pos k0]; rfl) (addInv_add x W' k0)
    · by_cases k1 : x.k = 1
      · exact mk2 _ (by rw [add_inv_eq, if_neg k0, if_pos k1]; rfl) (addInv_read x W' k1)
      · by_cases k2 : x.k = 2
        · exact mk2 _ (by rw [add_inv_eq, if_neg k0, if_neg k1, if_pos k2]; rfl) (addInv_ticket x W' k2)
        · refine (addInv_bad x W' k0 k1 k2).mono fun en w' ⟨hen, hb⟩ => ?_
          have hin : addM.inv st.s x = (st.s, .inr 9) := by rw [add_inv_eq, if_neg k0, if_neg k1, if_neg k2]; rfl
          rw [hin]
          exact ⟨ButS.of_below hb, .nilIface, 9, fun _ => False, FO, hen, trivial, ⟨by unfold opOf; rw [if_neg (by omega)]; rfl, by omega⟩, fun b h => h.elim, fun b h => ⟨Nat.lt_of_lt_of_le (hlt b h) (Nat.le_trans hW'.size hb.size), .inl h, id⟩⟩
  step := fun st p e v q hI _ hc hv hq hcn ht W opv bm bw F FO hop _ hM hs => by
    have hop' : opv = addOp q := hop
    have hl : st.ws.length = 1 := hI
    have hx : st.ws[0]? = some (st.ws.getD 0 0) := getD_get (by omega)
    have hM' : ∀ W' : World, Below W.heap.size W W' → MemIs 158 W' bm bw st.ws st.cn := fun W' hW' => hM.of_blocks (hW'.block _ hM.lt1) (hW'.block _ hM.lt2)
    by_cases k0 : q.rd = true
    · have e : opv = .iface 236 (.agg #[.int .i64 0]) := by rw [hop']; unfold addOp; rw [if_pos k0]
      rw [e]
      exact ⟨_, _, _, rfl, addRd_meth _, addRd_enter, fun W' hW' => (adRead_step bm bw 0 _ st.ticks st.ws st.cn W' (hM' W' hW') hx (by omega) (by omega)).mono fun en w' h => addStep_rel st.s q _ _ _ _ _ bm bw st.ticks _ F FO W hs W' hW' (by unfold addAcc; rw [if_pos k0]; rfl) (by rw [← e]; exact hop') h⟩
    · have e : opv = .iface 235 (.agg #[.int .i64 0, .int .u64 (q.d : Int)]) := by rw [hop']; unfold addOp; rw [if_neg k0]
      rw [e]
      exact ⟨_, _, _, rfl, addAd_meth _ _, addAd_enter, fun W' hW' => (adAdd_step bm bw 0 _ q.d st.ticks st.ws st.cn W' (hM' W' hW') hx (by omega) (by omega)).mono fun en w' h => addStep_rel st.s q _ _ _ _ _ bm bw st.ticks _ F FO W hs W' hW' (by unfold addAcc; rw [if_neg k0]; rfl) (by rw [← e]; exact hop') h⟩
  key := fun W s q opv F FO hop _ => by
    have hop' : opv = addOp q := hop
    subst hop'
    refine .inl ⟨?_, rfl⟩
    unfold addOp
    split
    · exact noKey_adRead _
    · exact noKey_adAdd _
  turn := fun st p i x hI _ _ _ => by
    show (st.turn i x p).ws.length = 1
    unfold St.turn
    split <;> exact hI
  stepI := fun st p i e v hI _ _ _ _ hv => by
    show (st.step i p e v).ws.length = 1
    have : (st.step i p e v).ws = (stepQ st.s v.q st.ws st.cn st.ticks).ws := by unfold St.step; split <;> rfl
    rw [this, stepQ_len]; exact hI
  idle := fun st hI => hI
set_option maxHeartbeats 400000 in
theorem addSize (n : Int) (W : World) : Calls Try.prog 121 #[.agg #[], .int .i64 n] W fun e w' => e = .returned (.tuple #[.int .i64 1, .int .i64 0]) ∧ Below W.heap.size W w' := by
  go_enter Try.func121, Try.ntmps121
  go_wp2
  go_ret2
  exact ⟨rfl, (by first | exact Below.refl _ _ | exact (Below.refl _ _).alloc (Nat.le_refl _) _)⟩
set_option maxHeartbeats 400000 in
theorem addPlace (n : Int) (W : World) : Calls Try.prog 120 #[.agg #[], .int .i64 n, .int .i64 0] W fun e w' => e = .returned addObj ∧ Below W.heap.size W w' := by
  go_enter Try.func120, Try.ntmps120
  go_wp2
  go_ret
  exact ⟨rfl, (by first | exact Below.refl _ _ | exact (Below.refl _ _).alloc (Nat.le_refl _) _)⟩
theorem addSizeC (n : Int) : SizeC 105 (.agg #[]) n 1 0 := ⟨121, fun w' => by kernel_rfl, fun args w' => by kernel_rfl, fun W => addSize n W⟩
theorem addPlaceC (cs : List CallV) (n : Int) : PlaceC (M := addM) cs AddI () 105 (.agg #[]) n := ⟨120, fun w' => by kernel_rfl, fun args w' => by kernel_rfl, fun W => (addPlace n W).mono fun e w' ⟨he, hb⟩ =>
  ⟨addObj, he, ⟨addK, fun _ => False, ⟨_, _, rfl⟩, rfl, add_ok' cs, trivial, fun b h => h.elim⟩, hb⟩⟩
theorem addNotFilled : NotFilled 105 (.agg #[]) := fun w => run_typeAssert_lacksB Try.underlying151 (by kernel_rfl) (by kernel_rfl) (.agg #[]) 71 w
theorem addPlay_any_new (w : World) : Calls Try.prog 43 #[] w fun e w' => e = .returned (.iface 105 (.agg #[])) ∧ w = w' := by
  go_enter Try.func43, Try.ntmps43
  go_wp2
  go_ret
  exact ⟨rfl, rfl⟩
set_option maxRecDepth 100000 in
set_option maxHeartbeats 4000000 in
theorem addPlay_any (I : St addM → Prop) (n : Int) (size er : Nat) (ao : Option Addr) (b o cap : Nat) (cs : List CallV) (ao3 : Option Addr) (b3 o3 cap3 : Nat) (picks : List Int) (w : World) (ha : 0 < cs.length → ao = some ⟨b, o, none⟩) (hb : 0 < cs.length → b < w.heap.size) (hc : CallsAt w b o cs) (hcap : ao = none → cap = 0)
    (ha3 : 0 < picks.length → ao3 = some ⟨b3, o3, none⟩) (hb3 : 0 < picks.length → b3 < w.heap.size) (hc3 : ICells w b3 o3 picks) (hnp : picks.length ≤ 9223372036854775807)
    (hS : checkL n (thr cs) picks.length = 0 → SizeC 105 (.agg #[]) n size er) (hP : checkL n (thr cs) picks.length = 0 → er = 0 → NotFilled 105 (.agg #[]) ∧ PlaceC cs I () 105 (.agg #[]) n ∧ 1 ≤ size ∧ size ≤ 65536 ∧ I (stM cs (List.replicate size 0) ())) :
    Calls Try.prog 27 #[.int .i64 n, .slice ao cs.length cap, .slice ao3 picks.length cap3] w (PlayG addM n er cs (List.replicate size 0) () picks w) := by
  have HA := Lib.hid ha
  have HB := Lib.hid hb
  have HC := Lib.hid hc
  have HA3 := Lib.hid ha3
  have HB3 := Lib.hid hb3
  have HC3 := Lib.hid hc3
  have HCP := Lib.hid hcap
  have HS := Lib.hid hS
  have HP := Lib.hid hP
  clear ha hb hc ha3 hb3 hc3 hcap hS hP
  go_enter Try.func27, Try.ntmps27
  go_wp2_with fail
  refine (addPlay_any_new _).mono ?_
  rintro e w1 ⟨rfl, rfl⟩
  go_wp2_with fail
  generalize hw2 : (w.alloc (.cells #[.slice none 0 0, .slice none 0 0, .int .i64 0, .int .i64 0, .int .i64 0, .int .i64 0, .int .i64 0, .int .i64 0, .int .i64 0] 32)).alloc (.cells #[.iface 105 (.agg #[])] 71) = w2
  have HBa : Hid (Below w.heap.size w w2) := Lib.hid (by rw [← hw2]; exact ((Below.refl w.heap.size w).alloc (Nat.le_refl _) _).alloc (by simp) _)
  have hsz2 : w2.heap.size = w.heap.size + 2 := by rw [← hw2]; simp
  have hz2 : RowBlk 32 w2 w.heap.size zeroVs := by rw [← hw2]; exact (RowBlk.new w zeroVs 32).alloc _
  have hob2 : w2.cell? ⟨w.heap.size + 1, 0, none⟩ = some (.iface 105 (.agg #[])) := by rw [← hw2, World.cell?_alloc_at _ _ _ _ (by simp)]; rfl
  have HZ2 := Lib.hid hz2
  clear hz2 hw2
  refine (play_any I () 105 (.agg #[]) n size er ao b o cap cs ao3 b3 o3 cap3 picks (w.heap.size + 1) 1 w2 HA.out (fun h => by have := HB.out h; omega) (HC.out.stays HBa.out HB.out) HCP.out HA3.out (fun h => by have := HB3.out h; omega) (HC3.out.stays HBa.out HB3.out) hnp hob2 HS.out HP.out).mono ?_
  rintro e w3 ⟨a1, n1, c1, a2, n2, c2, i0, i1, i2, i3, i4, i5, i6, v, rfl, rfl, hv1, hv2, hb3⟩
  have hz := HZ2.out.same (hb3.block _ (by omega))
  have HB3' : Hid (Below w.heap.size w w3) := Lib.hid (HBa.out.trans (hb3.mono (by omega)))
  have HV1 := Lib.hid hv1
  have HV2 := Lib.hid hv2
  have r0 := hz.cell (i := 0) rfl
  have r1 := hz.cell (i := 1) rfl
  have r2 := hz.cell (i := 2) rfl
  have r3 := hz.cell (i := 3) rfl
  have r4 := hz.cell (i := 4) rfl
  have r5 := hz.cell (i := 5) rfl
  have r6 := hz.cell (i := 6) rfl
  have r7 := hz.cell (i := 7) rfl
  have r8 := hz.cell (i := 8) rfl
  have fr : ∀ k, w3.frozen? ⟨w.heap.size, k, none⟩ = false := fun k => hz.free
  have HZ3 := Lib.hid hz
  clear hb3 hz hob2 hv1 hv2
  go_wp2_with fail
  have H7 : Hid (RowBlk 32 (((((((((w3.setCell ⟨w.heap.size, 0, none⟩ (.slice a1 n1 c1)).setCell ⟨w.heap.size, 1, none⟩ (.slice a2 n2 c2)).setCell ⟨w.heap.size, 2, none⟩ (.int .i64 i0)).setCell ⟨w.heap.size, 3, none⟩ (.int .i64 i1)).setCell ⟨w.heap.size, 4, none⟩ (.int .i64 i2)).setCell ⟨w.heap.size, 5, none⟩ (.int .i64 i3)).setCell ⟨w.heap.size, 6, none⟩ (.int .i64 i4)).setCell ⟨w.heap.size, 7, none⟩ (.int .i64 i5)).setCell ⟨w.heap.size, 8, none⟩ (.int .i64 i6)) w.heap.size [.slice a1 n1 c1, .slice a2 n2 c2, .int .i64 i0, .int .i64 i1, .int .i64 i2, .int .i64 i3, .int .i64 i4, .int .i64 i5, .int .i64 i6] ∧
      (playErr n cs picks.length er = 0 → RepG w.heap.size (((((((((w3.setCell ⟨w.heap.size, 0, none⟩ (.slice a1 n1 c1)).setCell ⟨w.heap.size, 1, none⟩ (.slice a2 n2 c2)).setCell ⟨w.heap.size, 2, none⟩ (.int .i64 i0)).setCell ⟨w.heap.size, 3, none⟩ (.int .i64 i1)).setCell ⟨w.heap.size, 4, none⟩ (.int .i64 i2)).setCell ⟨w.heap.size, 5, none⟩ (.int .i64 i3)).setCell ⟨w.heap.size, 6, none⟩ (.int .i64 i4)).setCell ⟨w.heap.size, 7, none⟩ (.int .i64 i5)).setCell ⟨w.heap.size, 8, none⟩ (.int .i64 i6)) (.agg #[.slice a1 n1 c1, .slice a2 n2 c2, .int .i64 i0, .int .i64 i1, .int .i64 i2, .int .i64 i3, .int .i64 i4, .int .i64 i5, .int .i64 i6]) (repOf (endM (M := addM) cs (List.replicate size 0) () picks))) ∧ Below w.heap.size w (((((((((w3.setCell ⟨w.heap.size, 0, none⟩ (.slice a1 n1 c1)).setCell ⟨w.heap.size, 1, none⟩ (.slice a2 n2 c2)).setCell ⟨w.heap.size, 2, none⟩ (.int .i64 i0)).setCell ⟨w.heap.size, 3, none⟩ (.int .i64 i1)).setCell ⟨w.heap.size, 4, none⟩ (.int .i64 i2)).setCell ⟨w.heap.size, 5, none⟩ (.int .i64 i3)).setCell ⟨w.heap.size, 6, none⟩ (.int .i64 i4)).setCell ⟨w.heap.size, 7, none⟩ (.int .i64 i5)).setCell ⟨w.heap.size, 8, none⟩ (.int .i64 i6))) := Lib.hid
    ⟨(((((((((HZ3.out.put 0 _).put 1 _).put 2 _).put 3 _).put 4 _).put 5 _).put 6 _).put 7 _).put 8 _),
     fun h => ((HV2.out h).mono (by omega)).other HZ3.out (fun k _ hk => by rw [heap_far hk, heap_far hk, heap_far hk, heap_far hk, heap_far hk, heap_far hk, heap_far hk, heap_far hk, heap_far hk]),
     (((((((((HB3'.out.setCell (Nat.le_refl _) _).setCell (Nat.le_refl _) _).setCell (Nat.le_refl _) _).setCell (Nat.le_refl _) _).setCell (Nat.le_refl _) _).setCell (Nat.le_refl _) _).setCell (Nat.le_refl _) _).setCell (Nat.le_refl _) _).setCell (Nat.le_refl _) _)⟩
  generalize ((((((((w3.setCell ⟨w.heap.size, 0, none⟩ (.slice a1 n1 c1)).setCell ⟨w.heap.size, 1, none⟩ (.slice a2 n2 c2)).setCell ⟨w.heap.size, 2, none⟩ (.int .i64 i0)).setCell ⟨w.heap.size, 3, none⟩ (.int .i64 i1)).setCell ⟨w.heap.size, 4, none⟩ (.int .i64 i2)).setCell ⟨w.heap.size, 5, none⟩ (.int .i64 i3)).setCell ⟨w.heap.size, 6, none⟩ (.int .i64 i4)).setCell ⟨w.heap.size, 7, none⟩ (.int .i64 i5)).setCell ⟨w.heap.size, 8, none⟩ (.int .i64 i6) = W7 at H7 ⊢
  have q0 := H7.out.1.cell (i := 0) rfl
  have q1 := H7.out.1.cell (i := 1) rfl
  have q2 := H7.out.1.cell (i := 2) rfl
  have q3 := H7.out.1.cell (i := 3) rfl
  have q4 := H7.out.1.cell (i := 4) rfl
  have q5 := H7.out.1.cell (i := 5) rfl
  have q6 := H7.out.1.cell (i := 6) rfl
  have q7 := H7.out.1.cell (i := 7) rfl
  have q8 := H7.out.1.cell (i := 8) rfl
  exact bodyPost_ret (v := .tuple #[.agg #[.slice a1 n1 c1, .slice a2 n2 c2, .int .i64 i0, .int .i64 i1, .int .i64 i2, .int .i64 i3, .int .i64 i4, .int .i64 i5, .int .i64 i6], .int .i64 (playErr n cs picks.length er : Nat)]) (by simp [results, Try.results27, go_sem, q0, q1, q2, q3, q4, q5, q6, q7, q8]) rfl
    ⟨_, _, _, _, _, _, _, _, _, _, _, _, _, _, rfl, rfl, HV1.out, H7.out.2.1, H7.out.2.2⟩
theorem addI_first (cs : List CallV) : AddI (stM (M := addM) cs (List.replicate 1 0) ()) := rfl
theorem add_play (n : Int) (ao : Option Addr) (b o cap : Nat) (cs : List CallV) (ao3 : Option Addr) (b3 o3 cap3 : Nat) (picks : List Int) (w : World) (ha : 0 < cs.length → ao = some ⟨b, o, none⟩) (hb : 0 < cs.length → b < w.heap.size) (hc : CallsAt w b o cs) (hcap : ao = none → cap = 0)
    (ha3 : 0 < picks.length → ao3 = some ⟨b3, o3, none⟩) (hb3 : 0 < picks.length → b3 < w.heap.size) (hc3 : ICells w b3 o3 picks) (hnp : picks.length ≤ 9223372036854775807) :
    Calls Try.prog 27 #[.int .i64 n, .slice ao cs.length cap, .slice ao3 picks.length cap3] w (PlayG addM n 0 cs [0] () picks w) :=
  addPlay_any AddI n 1 0 ao b o cap cs ao3 b3 o3 cap3 picks w ha hb hc hcap ha3 hb3 hc3 hnp (fun _ => addSizeC n) (fun _ _ => ⟨addNotFilled, addPlaceC cs n, by omega, by omega, addI_first cs⟩)
end Go.Proofs.Ytnjpkmenahdhmaa
