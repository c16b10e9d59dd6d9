/- Walk of loom: Pick, for any machine. -/
import Derived.Test.YtglpalomhhhmhaaZ7
namespace Go.Proofs.Ytglpalomhhhmhaa
open Go.RowKit
theorem wpList_delete_map {P : Program} {w : World} {ops : Array Oper} {rest : List Oper} {o : Oper} {a : Act} {Q : Exit → Act → World → Prop} (hg : o.guard = none) (m x : Operand) (t k e : TypeId)
    (hop : o.op = Op.call { callee := Callee.builtin Builtin.delete, args := #[m, x], argTypes := #[t, k] }) (hk : P.underlying k = some (.int .i64)) (ht : P.underlying t = some (.map k e)) (b n : Nat) (z : Value) (f : Int → Value)
    (hm : a.eval m = .map (some b)) (hM : MapIs P k w b n z f) (p : Int) (hx : a.eval x = .int .i64 p) (hp : 0 ≤ p ∧ p < 16)
    (hK : ∀ w', MapIs P k w' b n z (updF f p z) → w.mapTurned w' b → wpList P ops Q rest (a.put o.dst (.tuple #[])) w') : wpList P ops Q (o :: rest) a w := by
  refine wpList_plain hg fun K' hK' => ?_
  obtain ⟨w', hrun, r1, r2⟩ := hM.drop hk ht hp o.type
  unfold Oper.wp
  simp [execOp, hop, resolve, invoke, builtin, hm, hx, hrun, Result.andThen]
  exact hK' _ _ (hK w' r1 r2)
section
variable {M : Mach}
/-- what a machine's package owes -/
structure MachOk (K : MachRel M) (cs : List CallV) (I : St M → Prop) : Prop where
  olen : K.objs.length = M.m
  inv : ∀ (st : St M) (i : Nat) (x : CallV), I st → cs[i]? = some x → 0 ≤ x.o → x.o < M.m → ∀ (W : World) (FO : Nat → Prop), K.Obj W st.s FO → (∀ b, FO b → b < W.heap.size) → InvC K (objOf K.objs x.o) x (M.inv st.s x) FO W
  step : ∀ (st : St M) (p : Int) (e : Nat) (v : Ev M) (q : M.Q), I st → Wf cs st → st.cur p = some e → st.evs[e]? = some v → v.q = .inl q → (st.cn.r + st.cn.w + st.cn.s + st.cn.a < st.ticks ∧ st.cn.f = 0) → st.ticks ≤ 70000 → ∀ (W : World) (opv : Value) (bm bw : Nat) (F FO : Nat → Prop), K.Op W opv q F → K.Obj W st.s FO → MemIs 108 W bm bw st.ws st.cn → Sep bm bw F FO W →
    StepC K (stepQ st.s (.inl q) st.ws st.cn st.ticks) st.ticks opv bm bw F FO W
  key : ∀ (W : World) (s : M.S) (q : M.Q) (opv : Value) (F FO : Nat → Prop), K.Op W opv q F → K.Obj W s FO → KeyOk opv (M.key s q) W
  turn : ∀ (st : St M) (p : Int) (i : Nat) (x : CallV), I st → Wf cs st → nowOf (thr cs) st.fin p = some i → cs[i]? = some x → I (st.turn i x p)
  stepI : ∀ (st : St M) (p : Int) (i e : Nat) (v : Ev M), I st → Wf cs st → 0 < st.ticks → nowOf (thr cs) st.fin p = some i → st.cur p = some e → st.evs[e]? = some v → I (st.step i p e v)
  idle : ∀ st : St M, I st → I { st with idle := st.idle + 1 }
variable {K : MachRel M} {cs : List CallV} {I : St M → Prop}
theorem MachOk.pick (h : MachOk K cs I) {st : St M} (hI : I st) (hw : Wf cs st) (p : Int) : I (pickM cs st p) := by
  cases hn : nowOf (thr cs) st.fin p with
  | none => rw [pickM_idle hn]; exact h.idle st hI
  | some i =>
    have hil := (now_open hn).1
    rw [thr_len] at hil
    obtain ⟨x, hx⟩ : ∃ x, cs[i]? = some x := ⟨cs[i], List.getElem?_eq_getElem hil⟩
    obtain ⟨e, v, h1, h2, _, _, h5⟩ := pickM_cases hw hn hx
    rw [h5]
    exact h.stepI _ p i e v (h.turn st p i x hI hw hn hx) (hw.turn x hn) (by rw [turn_ticks]; omega) (by rw [turn_fin]; exact hn) h1 h2
theorem keyOk_any (h : MachOk K cs I) (W : World) (s : M.S) (q : M.Q ⊕ Nat) (opv : Value) (F FO : Nat → Prop) (hO : K.Obj W s FO) (hQ : OpQ K W opv q F) : KeyOk opv (keyQ s q) W := by
  cases q with
  | inl q => exact h.key W s q opv F FO hQ hO
  | inr e =>
    obtain ⟨rfl, _⟩ := hQ
    exact .inl ⟨noKey_refusal _, rfl⟩
theorem refusal_c (s : M.S) (e : Nat) (l : List Nat) (c : Cn) (t : Nat) (opv : Value) (bm bw : Nat) (F FO : Nat → Prop) (w : World) (hQ : OpQ K w opv (.inr e) F) (hO : K.Obj w s FO) (hM : MemIs 108 w bm bw l c) (hs : Sep bm bw F FO w) : StepC K (stepQ s (.inr e) l c t) t opv bm bw F FO w := by
  obtain ⟨rfl, he⟩ := hQ
  refine ⟨_, _, _, rfl, meth_refusal _, enter_refusal, fun W hW => (refusal_step e bm bw t l c W (hM.of_blocks (hW.block _ hM.lt1) (hW.block _ hM.lt2))).mono fun en w' ⟨hen, hm, hb⟩ => ?_⟩
  refine ⟨hm, ButS.of_but hb (.inl rfl) (.inr (.inl rfl)), fun _ => False, FO, fun b h => h.elim, fun b h => ⟨Nat.lt_of_lt_of_le (hs.2 b h).1 (Nat.le_trans hW.size hb.size), .inl h, id⟩, K.obj_keep hO (fun k hk => ?_) (fun _ h => h), ⟨rfl, he⟩, ?_⟩
  · have h1 := hs.2 k hk
    exact (hb.block k (Nat.lt_of_lt_of_le h1.1 hW.size) h1.2.1 h1.2.2).trans (hW.block k h1.1)
  · exact ⟨_, hen, ListAt.nil _ _ _ _⟩
theorem inv_any (h : MachOk K cs I) (st : St M) (i : Nat) (x : CallV) (hI : I st) (hx : cs[i]? = some x) (W : World) (FO : Nat → Prop) (hO : K.Obj W st.s FO) (hlt : ∀ b, FO b → b < W.heap.size) : InvC K (objOf K.objs x.o) x (invQ st.s x) FO W := by
  unfold invQ
  by_cases hx0 : x.o < 0 ∨ (M.m : Int) ≤ x.o
  · rw [if_pos hx0]
    have e : objOf K.objs x.o = .iface 124 (.agg #[]) := by
      unfold objOf
      by_cases h0 : x.o < 0
      · rw [if_pos h0]
      · rw [if_neg h0, List.getD_eq_getElem?_getD, List.getElem?_eq_none (by have := h.olen; omega)]; rfl
    rw [e]
    exact inv_nowhere K x st.s FO W hO hlt
  · rw [if_neg hx0]
    exact h.inv st i x hI hx (by omega) (by omega) W FO hO hlt

theorem RestG.drew {a : LA} {col : Nat → Nat} {w : World} {st : St M} {ps : List Nat} (hR : RestG K cs a col w st ps) : RestG K cs a col w.drew st ps :=
  ⟨fun e v hv => by
    obtain ⟨g, h1, h2, h3, h4⟩ := hR.invs e v hv
    exact ⟨g, h1, h2, h3, h4.keep rfl (fun b hb => ⟨rfl, hb⟩) (fun b t _ _ _ hc => ⟨rfl, hc⟩)⟩, hR.mem, hR.calls, hR.objs, K.obj_keep hR.obj (fun _ _ => rfl) (fun _ h => h)⟩

/-- the step of a thread's invocation -/
theorem invstep_any (hK : MachOk K cs I) {a : LA} {j : Nat} {col : Nat → Nat} {w : World} {st : St M} {ps : List Nat} {p : Int} {e g : Nat} {v : Ev M} {vb : Value} {N0 : Nat} (h : LoomG K cs a j col w st) (hI : I st) (hw : Wf cs st) (hc : st.cur p = some e)
    (hL : RowBlk 78 w a.L (loomVs (.slice a.aoC cs.length a.capC) a.lb a.bm (.slice (some ⟨a.go, 0, none⟩) K.objs.length a.capo) vb a.mc st.ticks st.idle))
    (ho : w.ownsRow (a.L + 1) 81 1 vb st.evs.length (ps.map ptr)) (hpl : ps.length = st.evs.length) (hnd : ∀ i k x : Nat, ps[i]? = some x → ps[k]? = some x → i = k) (hvb : ∀ k, vb.ownBlock = some k → col k = 0) (hR : RestG K cs a col w st ps) (hN : N0 ≤ st.evs.length) (hM : MapIs Try.prog 3 w a.mc N0 (.pointer none) (curV ps st.cur))
    (hv : st.evs[e]? = some v) (hg : ps[e]? = some g) (hr0 : v.resp = 0) (hst : v.steps < st.ticks) (ht : st.ticks ≤ 70000) (hcn : st.cn.r + st.cn.w + st.cn.s + st.cn.a < st.ticks ∧ st.cn.f = 0) :
    Calls Try.prog 29 #[.pointer (some ⟨g, 0, none⟩), turnAgg a.bm (st.ticks : Int)] w fun en w' => en = .returned (.bool (stepQ st.s v.q st.ws st.cn st.ticks).ans.isSome) ∧ (∃ col', LoomG K cs a j col' w' (st.mid e v)) ∧ ButS (fun k => k = g ∨ k = a.bm ∨ k = a.bw ∨ col k = e + 2 ∨ col k = 1) w w' := by
  obtain ⟨g0, hg0, hgL, hgc, lv, kv, opv, hrow, hpend, _, _⟩ := hR.invs e v hv
  rw [hg] at hg0; cases hg0
  obtain ⟨hans, rfl, rfl, hkey, hop⟩ := hpend hr0
  have hl := h.lays
  have hsep : Sep a.bm a.bw (fun b => col b = e + 2) (fun b => col b = 1) w := ⟨fun b hb => ⟨(hl.cT b (by omega)).2.1, fun e => by rw [e] at hb; have := hl.c0; omega, fun e => by rw [e] at hb; have := hl.c0; omega, by omega⟩, fun b hb => ⟨(hl.cT b (by omega)).2.1, fun e => by rw [e] at hb; have := hl.c0; omega, fun e => by rw [e] at hb; have := hl.c0; omega⟩⟩
  have hSC : StepC K (stepQ st.s v.q st.ws st.cn st.ticks) st.ticks opv a.bm a.bw (fun b => col b = e + 2) (fun b => col b = 1) w := by
    cases hq : v.q with
    | inl q => rw [hq] at hop; exact hK.step st p e v q hI hw hc hv hq hcn ht w opv a.bm a.bw _ _ hop hR.obj hR.mem hsep
    | inr er => rw [hq] at hop; exact refusal_c st.s er st.ws st.cn st.ticks opv a.bm a.bw _ _ w hop hR.obj hR.mem hsep
  have hrow' : RowBlk 117 w g (invVs v.i v.inv 0 v.steps 0 0 (.slice none 0 0) (.slice none 0 0) opv) := by
    have := hrow
    rw [hr0, hans] at this
    exact this
  have hfin := fun (en : Ending) (w' : World) (hs : InvStep K (stepQ st.s v.q st.ws st.cn st.ticks) opv g a.bm a.bw (fun b => col b = e + 2) (fun b => col b = 1) v.i v.inv v.steps st.ticks w en w') => LoomG.stepped h hL ho hpl hnd hvb hR hN hM hv hg hr0 hst (by omega) hkey hans hs
  cases ha : (stepQ st.s v.q st.ws st.cn st.ticks).ans with
  | none =>
    refine (step_more K (stepQ st.s v.q st.ws st.cn st.ticks) opv g a.bm a.bw _ _ v.i v.inv v.steps st.ticks st.ws st.cn w hSC hsep hR.mem hrow' ⟨by omega, by omega⟩ (by omega) ha).mono fun en w' hs => ?_
    have := hfin en w' hs
    rw [ha] at this
    exact this
  | some an =>
    refine (step_last K (stepQ st.s v.q st.ws st.cn st.ticks) opv g a.bm a.bw _ _ v.i v.inv v.steps st.ticks st.ws st.cn w hSC hsep hR.mem hrow' ⟨by omega, by omega⟩ (by omega) (by omega) ha (fun W F' FO' hO hQ => keyOk_any hK W _ _ opv F' FO' hO hQ)).mono fun en w' hs => ?_
    have := hfin en w' hs
    rw [ha] at this
    exact this

theorem below_of_drew {B : Nat} {w w' : World} (h : Below B w.drew w') : Below B w w' := ⟨h.os, h.tape, h.output, h.size, h.block⟩
def PickPost (K : MachRel M) (cs : List CallV) (a : LA) (j : Nat) (st : St M) (w : World) (e : Ending) (w' : World) : Prop :=
  (∃ v, e = .returned v) ∧ (∃ col', LoomG K cs a j col' w' st) ∧ Below a.B0 w w'

set_option maxRecDepth 100000 in
set_option maxHeartbeats 4000000 in
theorem pickG_idle (K : MachRel M) (a : LA) (j : Nat) (col : Nat → Nat) (w : World) (st : St M) (p : Int) (h : LoomG K cs a j col w st) (hp : -9223372036854775808 ≤ p ∧ p ≤ 9223372036854775807)
    (hj : j < 65536) (hn : nowOf (thr cs) st.fin p = none) :
    Calls Try.prog 19 #[.pointer (some ⟨a.L, 0, none⟩), .int .i64 p] w (PickPost K cs a (j + 1) (pickM cs st p) w) := by
  rw [pickM_idle hn]
  obtain ⟨vb, ps, hL, _⟩ := h.blk
  obtain ⟨f, N, hline, hN⟩ := h.line
  have H := Lib.hid h
  have l1 : w.cell? ⟨a.L, 1, none⟩ = some (.pointer (some ⟨a.lb, 0, none⟩)) := hL.cell rfl
  have l7 : w.cell? ⟨a.L, 7, none⟩ = some (.int .i64 (st.idle : Int)) := hL.cell rfl
  have lf : w.frozen? ⟨a.L, 7, none⟩ = false := hL.free
  have hid : st.idle ≤ 65536 := by have := h.tj; omega
  have HLN := Lib.hid hline
  have HNW := Lib.hid (now_nil.1 hn)
  clear h hL hline hn
  go_enter Try.func19, Try.ntmps19
  go_wp2_with fail
  refine (now_done p _ HLN.out hp HNW.out).mono ?_
  rintro e w1 ⟨rfl, rfl⟩
  go_wp2_with fail
  first
    | go_end0
    | (refine bodyPost_ret (results_none rfl _ _ _) rfl ?_)
    | go_ret
  have h := H.out
  exact ⟨⟨_, rfl⟩, ⟨col, h.idle hj (by simp [World.setCell]) rfl⟩, (Below.refl a.B0 w).setCell (show a.B0 ≤ (⟨a.L, 7, none⟩ : Addr).block from h.lays.b0.1) _⟩

set_option maxRecDepth 100000 in
set_option maxHeartbeats 4000000 in
theorem pickG_turn (hK : MachOk K cs I) (a : LA) (j : Nat) (col : Nat → Nat) (w : World) (st : St M) (p : Int) (h : LoomG K cs a j col w st) (hw : Wf cs st) (hI : I st) (hcn : st.cn.r + st.cn.w + st.cn.s + st.cn.a ≤ st.ticks ∧ st.cn.f = 0)
    (hj : j < 65536) {i : Nat} (hn : nowOf (thr cs) st.fin p = some i) :
    Calls Try.prog 19 #[.pointer (some ⟨a.L, 0, none⟩), .int .i64 p] w (PickPost K cs a (j + 1) (pickM cs st p) w) := by
  have hil := (now_open hn).1
  rw [thr_len] at hil
  obtain ⟨x, hx⟩ : ∃ x, cs[i]? = some x := ⟨cs[i], List.getElem?_eq_getElem hil⟩
  obtain ⟨e, v, he, hv, hr0, hvi, hpk⟩ := pickM_cases hw hn hx
  rw [hpk]
  have hI2 := hK.turn st p i x hI hw hn hx
  have hw2 := hw.turn x hn
  have ht2 : (st.turn i x p).ticks = st.ticks + 1 := turn_ticks
  have hst2 : ∀ u ∈ (st.turn i x p).evs, u.steps < (st.turn i x p).ticks := fun u hu => by
    rw [ht2]
    have : u ∈ st.evs ∨ u.steps = 0 := by
      unfold St.turn at hu
      split at hu
      · exact .inl hu
      · rcases List.mem_append.1 (show u ∈ st.evs ++ [_] from hu) with h | h
        · exact .inl h
        · rw [List.mem_singleton] at h; subst h; exact .inr rfl
    rcases this with h' | h'
    · have := h.stl u h'; omega
    · omega
  obtain ⟨vb, ps, hL, ho, hpl, hnd, hvb, hR, nc, hcur, hnc⟩ := h.blk
  obtain ⟨f, N, hline, hN⟩ := h.line
  have hpd := hline.dom p (by rw [now_cons hn]; simp)
  have hp : -9223372036854775808 ≤ p ∧ p ≤ 9223372036854775807 := by omega
  have hjj := h.tj
  have hst : st.ticks ≤ 65536 := by omega
  have l1 : w.cell? ⟨a.L, 1, none⟩ = some (.pointer (some ⟨a.lb, 0, none⟩)) := hL.cell rfl
  have l6 : w.cell? ⟨a.L, 6, none⟩ = some (.int .i64 (st.ticks : Int)) := hL.cell rfl
  have lf : w.frozen? ⟨a.L, 6, none⟩ = false := hL.free
  have H1 : Hid (LoomG K cs a (j + 1) col (w.setCell ⟨a.L, 6, none⟩ (.int .i64 ((st.ticks : Int) + 1))) st.tick) := Lib.hid (h.tick hj (by simp [World.setCell]) rfl)
  have HB1 : Hid (Below a.B0 w (w.setCell ⟨a.L, 6, none⟩ (.int .i64 ((st.ticks : Int) + 1)))) := Lib.hid ((Below.refl a.B0 w).setCell (show a.B0 ≤ (⟨a.L, 6, none⟩ : Addr).block from h.lays.b0.1) _)
  obtain ⟨vb1, ps1, hL1, ho1, hpl1, hnd1, hvb1, hR1, nc1, hcur1, hnc1⟩ := H1.out.blk
  have l5 : (w.setCell ⟨a.L, 6, none⟩ (.int .i64 ((st.ticks : Int) + 1))).cell? ⟨a.L, 5, none⟩ = some (.map (some a.mc)) := hL1.cell rfl
  have hlk := hcur1.look (t := 75) (e := 81) (a := p) Try.underlying3 Try.underlying75 (zeroPt _) (WalkArith.wf_i64 hp)
  have HPRE : Hid (True ∧ RestG K cs a col (w.setCell ⟨a.L, 6, none⟩ (.int .i64 ((st.ticks : Int) + 1))) st.tick ps1) := Lib.hid ⟨trivial, hR1⟩
  have HCN : Hid ((st.turn i x p).cn.r + (st.turn i x p).cn.w + (st.turn i x p).cn.s + (st.turn i x p).cn.a < (st.turn i x p).ticks ∧ (st.turn i x p).cn.f = 0) := Lib.hid (by
    have e : (st.turn i x p).cn = st.cn := by unfold St.turn; split <;> rfl
    rw [e, turn_ticks]; omega)
  have HLN := Lib.hid hline
  have HNW := Lib.hid (now_cons hn)
  have HN := Lib.hid hn
  have HX := Lib.hid hx
  have HOK := Lib.hid hK
  have HI := Lib.hid hI
  have HI2 := Lib.hid hI2
  have HW2 := Lib.hid hw2
  have HST2 := Lib.hid hst2
  have HE := Lib.hid he
  have HV := Lib.hid hv
  have HR0 := Lib.hid hr0
  have HT2 := Lib.hid ht2
  have HEV := Lib.hid h.evl
  have HWF := Lib.hid hw
  have HBLK1 : Hid (RowBlk 78 (w.setCell ⟨a.L, 6, none⟩ (.int .i64 ((st.ticks : Int) + 1))) a.L (loomVs (.slice a.aoC cs.length a.capC) a.lb a.bm (.slice (some ⟨a.go, 0, none⟩) K.objs.length a.capo) vb1 a.mc st.tick.ticks st.tick.idle) ∧ (w.setCell ⟨a.L, 6, none⟩ (.int .i64 ((st.ticks : Int) + 1))).ownsRow (a.L + 1) 81 1 vb1 st.tick.evs.length (ps1.map ptr) ∧ ps1.length = st.tick.evs.length ∧ (∀ i k x : Nat, ps1[i]? = some x → ps1[k]? = some x → i = k) ∧ (∀ k, vb1.ownBlock = some k → col k = 0) ∧
      MapIs Try.prog 3 (w.setCell ⟨a.L, 6, none⟩ (.int .i64 ((st.ticks : Int) + 1))) a.mc nc1 (.pointer none) (curV ps1 st.tick.cur) ∧ nc1 ≤ st.tick.evs.length) := Lib.hid ⟨hL1, ho1, hpl1, hnd1, hvb1, hcur1, hnc1⟩
  have hLlt := hL.lt
  cases hc : st.cur p with
  | none =>
    have hcv : curV ps1 st.tick.cur p = .pointer none := by unfold curV; have : st.tick.cur p = none := hc; rw [this]
    rw [hcv] at hlk
    have HTU : Hid (st.turn i x p = st.tick.begin i x p) := Lib.hid (by unfold St.turn; rw [hc])
    have HC := Lib.hid hc
    clear h hL ho hpl hnd hvb hR hcur hline hn hx hK hI hI2 hw2 hst2 he hv hr0 ht2 hL1 ho1 hpl1 hnd1 hvb1 hR1 hcur1 hnc1 hpk hc hcv hvi hw hnc
    go_enter Try.func19, Try.ntmps19
    go_wp2_with fail
    refine (now_at p _ HLN.out hp HNW.out).mono ?_
    rintro e1 w1 ⟨rfl, rfl⟩
    go_wp2_with fail
    generalize w.setCell ⟨a.L, 6, none⟩ (.int .i64 ((st.ticks : Int) + 1)) = W1 at H1 HB1 HPRE HBLK1 ⊢
    obtain ⟨hL1, ho1, hpl1, hnd1, hvb1, hcur1, hnc1⟩ := HBLK1.out
    have hinv := inv_any HOK.out st i x HI.out HX.out W1 (fun b => col b = 1) HPRE.out.2.obj (fun b hb => (H1.out.lays.cT b (by omega)).2.1)
    have hIV := invoke_gen K (invQ st.s x) (fun b => col b = 1) a.L a.lb a.bm a.mc a.go a.capo a.gc a.capC nc1 st.tick.evs.length i K.objs a.aoC cs x vb1 st.tick.ticks st.tick.idle p (curV ps1 st.tick.cur) (ps1.map ptr) W1 hL1 HPRE.out.2.objs HPRE.out.2.calls H1.out.lays.haC H1.out.lays.cl HX.out hinv hcur1 (by have := HEV.out; have e : st.tick.evs.length = st.evs.length := rfl; unfold maxLen; omega) hpd ho1 (by have := HEV.out; have e : st.tick.evs.length = st.evs.length := rfl; omega)
      (fun b hb => ⟨(H1.out.lays.cT b (by omega)).2.1, fun e => by rw [e] at hb; have := H1.out.lays.c0.1; omega, fun e => by rw [e] at hb; have := H1.out.lays.c0.2.2.2.2; omega, fun e => by have := hvb1 b e; omega⟩)
    refine hIV.mono ?_
    rintro e2 w2 hIP
    have hbg := LoomG.begun (st := st.tick) (x := x) (i := i) (p := p) H1.out hL1 ho1 hpl1 hnd1 hvb1 HPRE.out.2 hnc1 hcur1 (by have := HEV.out; show st.evs.length < st.ticks + 1; omega) (fun q f hq => by
      obtain ⟨u, hu, _⟩ := HWF.out.cur q f hq
      exact (List.getElem?_eq_some_iff.1 hu).1) hIP
    obtain ⟨rfl, ⟨col2, hG2⟩, hB2⟩ := hbg
    rw [← HTU.out] at hG2
    have HG2 := Lib.hid hG2
    have HBW := Lib.hid (HB1.out.trans hB2)
    clear hIP hIV hinv hG2 hB2 hL1 ho1 hpl1 hnd1 hvb1 hcur1 hnc1 HBLK1 HPRE H1 HB1 l1 l6 lf l5 hlk
    have hfin2 : (st.turn i x p).fin = st.fin := turn_fin
    have HFIN := Lib.hid hfin2
    clear HTU hfin2
    obtain ⟨s2, hs2⟩ : ∃ s2, st.turn i x p = s2 := ⟨_, rfl⟩
    rw [hs2] at HG2 HE HV HT2 HST2 HW2 HI2 HFIN HCN
    have HS2 := Lib.hid hs2
    clear hs2
    obtain ⟨vb2, ps2, hL2, ho2, hpl2, hnd2, hvb2, hR2, nc2, hcur2, hnc2⟩ := HG2.out.blk
    obtain ⟨g, hg, hgL, hgc, _⟩ := hR2.invs e v HV.out
    have hcv2 : curV ps2 s2.cur p = ptr g := by unfold curV; rw [HE.out]; simp only [hg]
    have hT65 : s2.ticks ≤ 65537 := by have := HT2.out; omega
    have u5 : w2.cell? ⟨a.L, 5, none⟩ = some (.map (some a.mc)) := hL2.cell rfl
    have u2 : w2.cell? ⟨a.L, 2, none⟩ = some (.pointer (some ⟨a.bm, 0, none⟩)) := hL2.cell rfl
    have u6 : w2.cell? ⟨a.L, 6, none⟩ = some (.int .i64 (s2.ticks : Int)) := hL2.cell rfl
    have ulk := hcur2.look (t := 75) (e := 81) (a := p) Try.underlying3 Try.underlying75 (zeroPt _) (WalkArith.wf_i64 hp)
    have ulk0 := hcur2.drew.look (t := 75) (e := 81) (a := p) Try.underlying3 Try.underlying75 (zeroPt _) (WalkArith.wf_i64 hp)
    rw [hcv2] at ulk ulk0
    unfold ptr at ulk ulk0
    have HSTEP := Lib.hid (invstep_any HOK.out HG2.out.drew HI2.out HW2.out HE.out hL2 ho2 hpl2 hnd2 hvb2 hR2.drew hnc2 hcur2 HV.out hg HR0.out (HST2.out v (List.mem_of_getElem? HV.out)) (by omega) HCN.out)
    have HL2 := Lib.hid hL2
    have HCUR2 := Lib.hid hcur2
    have HCV2 := Lib.hid hcv2
    have HLY := Lib.hid HG2.out.lays
    have HGC := Lib.hid hgc
    clear hL2 ho2 hpl2 hnd2 hvb2 hR2 hcur2 hnc2 hg hcv2 hgc
    go_wp2_with fail
    go_region_held3 (fun w' => w'.cell? ⟨a.L, 5, none⟩ = some (.map (some a.mc)) ∧ w'.cell? ⟨a.L, 2, none⟩ = some (.pointer (some ⟨a.bm, 0, none⟩)) ∧ w'.cell? ⟨a.L, 6, none⟩ = some (.int .i64 (s2.ticks : Int)) ∧ (Instr.lookup 75 (.map (some a.mc)) (.int .i64 p) false).run Try.prog w' = .ok (.pointer (some ⟨g, 0, none⟩)) w')
      (first | exact ⟨s5, s2', s6, slk⟩ | exact ⟨u5, u2, u6, ulk0⟩ | go_keep)
      (first
        | (go_at_call 29
           refine HSTEP.out.mono ?_
           rintro e3 w3 ⟨rfl, ⟨col3, hG3⟩, hB3⟩
           have hc0 := HLY.out.c0
           have hls := HLY.out.lsep
           have hL3 : RowBlk 78 w3 a.L (loomVs (.slice a.aoC cs.length a.capC) a.lb a.bm (.slice (some ⟨a.go, 0, none⟩) K.objs.length a.capo) vb2 a.mc s2.ticks s2.idle) := hB3.row HL2.out.drew (fun h => h.elim (by omega) (fun h => h.elim (by omega) (fun h => h.elim (by omega) (fun h => h.elim (by omega) (by omega)))))
           have hC3 : MapIs Try.prog 3 w3 a.mc nc2 (.pointer none) (curV ps2 s2.cur) := HCUR2.out.drew.sameB (hB3.block a.mc HCUR2.out.lt (fun h => h.elim (by omega) (fun h => h.elim (fun e => HLY.out.mne.1 e) (fun h => h.elim (fun e => HLY.out.mne.2.1 e) (fun h => h.elim (by omega) (by omega))))))
           have s5 : w3.cell? ⟨a.L, 5, none⟩ = some (.map (some a.mc)) := hL3.cell rfl
           have s2' : w3.cell? ⟨a.L, 2, none⟩ = some (.pointer (some ⟨a.bm, 0, none⟩)) := hL3.cell rfl
           have s6 : w3.cell? ⟨a.L, 6, none⟩ = some (.int .i64 (s2.ticks : Int)) := hL3.cell rfl
           have slk := hC3.look (t := 75) (e := 81) (a := p) Try.underlying3 Try.underlying75 (zeroPt _) (WalkArith.wf_i64 hp)
           rw [HCV2.out] at slk
           unfold ptr at slk
           have HG3 := Lib.hid hG3
           have HB3 : Hid (Below a.B0 w w3) := Lib.hid (HBW.out.trans (below_of_drew (hB3.below (fun k hk => by
             have hb0 := HLY.out.b0
             exact hk.elim (fun e => by omega) (fun h => h.elim (by omega) (fun h => h.elim (by omega) (fun h => (HLY.out.cT k (by omega)).2.2)))) (by have h1 := HLY.out.b0; have h2 := HL2.out.lt; show a.B0 ≤ w2.heap.size; omega))))
           clear hG3 hB3 hL3 hC3 hc0 hls))
    clear u5 u2 u6 ulk ulk0 s2' s6 slk s5
    cases hx : (stepQ s2.s v.q s2.ws s2.cn s2.ticks).ans with
    | none =>
      go_wp2_with fail
      first
        | go_end0
        | (refine bodyPost_ret (results_none rfl _ _ _) rfl ?_)
        | go_ret
      exact ⟨⟨_, rfl⟩, ⟨col3, by rw [HS2.out, step_none hx]; exact HG3.out⟩, HB3.out⟩
    | some an =>
      have HANS := Lib.hid hx
      clear hx
      obtain ⟨vb3, ps3, hL3, ho3, hpl3, hnd3, hvb3, hR3, nc3, hcur3, hnc3⟩ := HG3.out.blk
      have s5 : w3.cell? ⟨a.L, 5, none⟩ = some (.map (some a.mc)) := hL3.cell rfl
      have HBL3 := Lib.hid (And.intro hL3 (And.intro ho3 (And.intro hpl3 (And.intro hnd3 (And.intro hvb3 (And.intro hR3 hnc3))))))
      have HC3 := Lib.hid hcur3
      clear hL3 ho3 hpl3 hnd3 hvb3 hR3 hcur3 hnc3
      go_wp2_with (at_delete; refine wpList_delete_map rfl _ _ 75 3 81 rfl Try.underlying3 Try.underlying75 a.mc nc3 (.pointer none) _ rfl HC3.out p rfl hpd ?_)
      intro w4 hC4 hT4
      have hG4 := LoomG.cut HG3.out HBL3.out.1 HBL3.out.2.1 HBL3.out.2.2.1 HBL3.out.2.2.2.1 HBL3.out.2.2.2.2.1 HBL3.out.2.2.2.2.2.1 HBL3.out.2.2.2.2.2.2 hC4 hT4
      obtain ⟨vb4, ps4, hL4, _⟩ := hG4.blk
      have v1 : w4.cell? ⟨a.L, 1, none⟩ = some (.pointer (some ⟨a.lb, 0, none⟩)) := hL4.cell rfl
      obtain ⟨f4, N4, hli4, hN4⟩ := hG4.line
      have HG4 := Lib.hid hG4
      have HB4 : Hid (Below a.B0 w w4) := Lib.hid (HB3.out.trans (by
        have hg4 := hT4.grown
        have h1 := HG3.out.lays.b0
        have h2 := HG3.out.lays.t1
        exact ⟨hg4.os, hg4.tape, hg4.output, hg4.size, fun k hk => hg4.block k (by have := HBL3.out.1.lt; omega) (fun e => by cases e; omega)⟩))
      have HLI4 := Lib.hid hli4
      have hN4' : N4 ≤ 4000 := by
        have h1 := HG4.out.lays.cl
        have h2 : (s2.fin.count true) ≤ s2.fin.length := List.count_le_length
        have h3 := HW2.out.lfin
        have h4 : N4 ≤ cs.length + s2.fin.count true := hN4
        omega
      have HN4 := Lib.hid hN4
      clear hC4 hT4 hG4 hL4 hli4 hN4
      go_wp2_with fail
      refine (finish_at p _ HLI4.out HG4.out.lays.t1.2.2.2.2.2 (by unfold maxLen; omega) (now_cons (by show nowOf (thr cs) s2.fin p = some i; rw [HFIN.out]; exact HN.out))).mono ?_
      rintro e5 w5 ⟨rfl, ⟨f5, hl5⟩, hb5⟩
      have HG5 := Lib.hid (LoomG.finished HG4.out (by show nowOf (thr cs) s2.fin p = some i; rw [HFIN.out]; exact HN.out) HN4.out hl5 hb5)
      have HB5 : Hid (Below a.B0 w w5) := Lib.hid (HB4.out.trans (hb5.below (by have := HG4.out.lays.b0; omega) (by have := HG4.out.lays.b0; omega) (by have h1 := HG4.out.lays.b0; have h2 := HG4.out.lays.t1; omega)))
      clear hl5 hb5
      go_wp2_with fail
      first
        | go_end0
        | (refine bodyPost_ret (results_none rfl _ _ _) rfl ?_)
        | go_ret
      exact ⟨⟨_, rfl⟩, ⟨col3, by rw [HS2.out, step_some HANS.out]; exact HG5.out⟩, HB5.out⟩
  | some e0 =>
    have hee : e0 = e := by
      have h1 : (st.turn i x p).cur p = some e0 := by unfold St.turn; rw [hc]; exact hc
      rw [he] at h1; exact (Option.some.inj h1).symm
    subst hee
    have HTU : Hid (st.turn i x p = st.tick) := Lib.hid (by unfold St.turn; rw [hc])
    obtain ⟨g0, hg0⟩ : ∃ g, ps1[e0]? = some g := by
      have h1 : (st.turn i x p).evs[e0]? = some v := hv
      rw [HTU.out] at h1
      have := (List.getElem?_eq_some_iff.1 h1).1
      exact ⟨ps1[e0]'(by omega), List.getElem?_eq_getElem _⟩
    have hcv : curV ps1 st.tick.cur p = ptr g0 := by unfold curV; have : st.tick.cur p = some e0 := hc; rw [this]; simp only [hg0]
    rw [hcv] at hlk
    unfold ptr at hlk
    have HG2 : Hid (LoomG K cs a (j + 1) col (w.setCell ⟨a.L, 6, none⟩ (.int .i64 ((st.ticks : Int) + 1))) (st.turn i x p)) := Lib.hid (by rw [HTU.out]; exact H1.out)
    have HBW := HB1
    clear h hL ho hpl hnd hvb hR hcur hline hn hx hK hI hI2 hw2 hst2 he hv hr0 ht2 hL1 ho1 hpl1 hnd1 hvb1 hR1 hcur1 hnc1 hpk hcv hvi hw hnc hg0 HPRE HBLK1 hc
    go_enter Try.func19, Try.ntmps19
    go_wp2_with fail
    refine (now_at p _ HLN.out hp HNW.out).mono ?_
    rintro e1 w1 ⟨rfl, rfl⟩
    go_wp2_with fail
    clear l1 l6 lf l5 hlk H1 HB1
    generalize w.setCell ⟨a.L, 6, none⟩ (.int .i64 ((st.ticks : Int) + 1)) = w2 at HG2 HBW ⊢
    have hfin2 : (st.turn i x p).fin = st.fin := turn_fin
    have HFIN := Lib.hid hfin2
    clear HTU hfin2
    obtain ⟨s2, hs2⟩ : ∃ s2, st.turn i x p = s2 := ⟨_, rfl⟩
    rw [hs2] at HG2 HE HV HT2 HST2 HW2 HI2 HFIN HCN
    have HS2 := Lib.hid hs2
    clear hs2
    obtain ⟨vb2, ps2, hL2, ho2, hpl2, hnd2, hvb2, hR2, nc2, hcur2, hnc2⟩ := HG2.out.blk
    obtain ⟨g, hg, hgL, hgc, _⟩ := hR2.invs e0 v HV.out
    have hcv2 : curV ps2 s2.cur p = ptr g := by unfold curV; rw [HE.out]; simp only [hg]
    have hT65 : s2.ticks ≤ 65537 := by have := HT2.out; omega
    have u5 : w2.cell? ⟨a.L, 5, none⟩ = some (.map (some a.mc)) := hL2.cell rfl
    have u2 : w2.cell? ⟨a.L, 2, none⟩ = some (.pointer (some ⟨a.bm, 0, none⟩)) := hL2.cell rfl
    have u6 : w2.cell? ⟨a.L, 6, none⟩ = some (.int .i64 (s2.ticks : Int)) := hL2.cell rfl
    have ulk := hcur2.look (t := 75) (e := 81) (a := p) Try.underlying3 Try.underlying75 (zeroPt _) (WalkArith.wf_i64 hp)
    have ulk0 := hcur2.drew.look (t := 75) (e := 81) (a := p) Try.underlying3 Try.underlying75 (zeroPt _) (WalkArith.wf_i64 hp)
    rw [hcv2] at ulk ulk0
    unfold ptr at ulk ulk0
    have HSTEP := Lib.hid (invstep_any HOK.out HG2.out.drew HI2.out HW2.out HE.out hL2 ho2 hpl2 hnd2 hvb2 hR2.drew hnc2 hcur2 HV.out hg HR0.out (HST2.out v (List.mem_of_getElem? HV.out)) (by omega) HCN.out)
    have HL2 := Lib.hid hL2
    have HCUR2 := Lib.hid hcur2
    have HCV2 := Lib.hid hcv2
    have HLY := Lib.hid HG2.out.lays
    have HGC := Lib.hid hgc
    clear hL2 ho2 hpl2 hnd2 hvb2 hR2 hcur2 hnc2 hg hcv2 hgc
    go_wp2_with fail
    go_region_held3 (fun w' => w'.cell? ⟨a.L, 5, none⟩ = some (.map (some a.mc)) ∧ w'.cell? ⟨a.L, 2, none⟩ = some (.pointer (some ⟨a.bm, 0, none⟩)) ∧ w'.cell? ⟨a.L, 6, none⟩ = some (.int .i64 (s2.ticks : Int)) ∧ (Instr.lookup 75 (.map (some a.mc)) (.int .i64 p) false).run Try.prog w' = .ok (.pointer (some ⟨g, 0, none⟩)) w')
      (first | exact ⟨s5, s2', s6, slk⟩ | exact ⟨u5, u2, u6, ulk0⟩ | go_keep)
      (first
        | (go_at_call 29
           refine HSTEP.out.mono ?_
           rintro e3 w3 ⟨rfl, ⟨col3, hG3⟩, hB3⟩
           have hc0 := HLY.out.c0
           have hls := HLY.out.lsep
           have hL3 : RowBlk 78 w3 a.L (loomVs (.slice a.aoC cs.length a.capC) a.lb a.bm (.slice (some ⟨a.go, 0, none⟩) K.objs.length a.capo) vb2 a.mc s2.ticks s2.idle) := hB3.row HL2.out.drew (fun h => h.elim (by omega) (fun h => h.elim (by omega) (fun h => h.elim (by omega) (fun h => h.elim (by omega) (by omega)))))
           have hC3 : MapIs Try.prog 3 w3 a.mc nc2 (.pointer none) (curV ps2 s2.cur) := HCUR2.out.drew.sameB (hB3.block a.mc HCUR2.out.lt (fun h => h.elim (by omega) (fun h => h.elim (fun e => HLY.out.mne.1 e) (fun h => h.elim (fun e => HLY.out.mne.2.1 e) (fun h => h.elim (by omega) (by omega))))))
           have s5 : w3.cell? ⟨a.L, 5, none⟩ = some (.map (some a.mc)) := hL3.cell rfl
           have s2' : w3.cell? ⟨a.L, 2, none⟩ = some (.pointer (some ⟨a.bm, 0, none⟩)) := hL3.cell rfl
           have s6 : w3.cell? ⟨a.L, 6, none⟩ = some (.int .i64 (s2.ticks : Int)) := hL3.cell rfl
           have slk := hC3.look (t := 75) (e := 81) (a := p) Try.underlying3 Try.underlying75 (zeroPt _) (WalkArith.wf_i64 hp)
           rw [HCV2.out] at slk
           unfold ptr at slk
           have HG3 := Lib.hid hG3
           have HB3 : Hid (Below a.B0 w w3) := Lib.hid (HBW.out.trans (below_of_drew (hB3.below (fun k hk => by
             have hb0 := HLY.out.b0
             exact hk.elim (fun e => by omega) (fun h => h.elim (by omega) (fun h => h.elim (by omega) (fun h => (HLY.out.cT k (by omega)).2.2)))) (by have h1 := HLY.out.b0; have h2 := HL2.out.lt; show a.B0 ≤ w2.heap.size; omega))))
           clear hG3 hB3 hL3 hC3 hc0 hls))
    clear u5 u2 u6 ulk ulk0 s2' s6 slk s5
    cases hx : (stepQ s2.s v.q s2.ws s2.cn s2.ticks).ans with
    | none =>
      go_wp2_with fail
      first
        | go_end0
        | (refine bodyPost_ret (results_none rfl _ _ _) rfl ?_)
        | go_ret
      exact ⟨⟨_, rfl⟩, ⟨col3, by rw [HS2.out, step_none hx]; exact HG3.out⟩, HB3.out⟩
    | some an =>
      have HANS := Lib.hid hx
      clear hx
      obtain ⟨vb3, ps3, hL3, ho3, hpl3, hnd3, hvb3, hR3, nc3, hcur3, hnc3⟩ := HG3.out.blk
      have s5 : w3.cell? ⟨a.L, 5, none⟩ = some (.map (some a.mc)) := hL3.cell rfl
      have HBL3 := Lib.hid (And.intro hL3 (And.intro ho3 (And.intro hpl3 (And.intro hnd3 (And.intro hvb3 (And.intro hR3 hnc3))))))
      have HC3 := Lib.hid hcur3
      clear hL3 ho3 hpl3 hnd3 hvb3 hR3 hcur3 hnc3
      go_wp2_with (at_delete; refine wpList_delete_map rfl _ _ 75 3 81 rfl Try.underlying3 Try.underlying75 a.mc nc3 (.pointer none) _ rfl HC3.out p rfl hpd ?_)
      intro w4 hC4 hT4
      have hG4 := LoomG.cut HG3.out HBL3.out.1 HBL3.out.2.1 HBL3.out.2.2.1 HBL3.out.2.2.2.1 HBL3.out.2.2.2.2.1 HBL3.out.2.2.2.2.2.1 HBL3.out.2.2.2.2.2.2 hC4 hT4
      obtain ⟨vb4, ps4, hL4, _⟩ := hG4.blk
      have v1 : w4.cell? ⟨a.L, 1, none⟩ = some (.pointer (some ⟨a.lb, 0, none⟩)) := hL4.cell rfl
      obtain ⟨f4, N4, hli4, hN4⟩ := hG4.line
      have HG4 := Lib.hid hG4
      have HB4 : Hid (Below a.B0 w w4) := Lib.hid (HB3.out.trans (by
        have hg4 := hT4.grown
        have h1 := HG3.out.lays.b0
        have h2 := HG3.out.lays.t1
        exact ⟨hg4.os, hg4.tape, hg4.output, hg4.size, fun k hk => hg4.block k (by have := HBL3.out.1.lt; omega) (fun e => by cases e; omega)⟩))
      have HLI4 := Lib.hid hli4
      have hN4' : N4 ≤ 4000 := by
        have h1 := HG4.out.lays.cl
        have h2 : (s2.fin.count true) ≤ s2.fin.length := List.count_le_length
        have h3 := HW2.out.lfin
        have h4 : N4 ≤ cs.length + s2.fin.count true := hN4
        omega
      have HN4 := Lib.hid hN4
      clear hC4 hT4 hG4 hL4 hli4 hN4
      go_wp2_with fail
      refine (finish_at p _ HLI4.out HG4.out.lays.t1.2.2.2.2.2 (by unfold maxLen; omega) (now_cons (by show nowOf (thr cs) s2.fin p = some i; rw [HFIN.out]; exact HN.out))).mono ?_
      rintro e5 w5 ⟨rfl, ⟨f5, hl5⟩, hb5⟩
      have HG5 := Lib.hid (LoomG.finished HG4.out (by show nowOf (thr cs) s2.fin p = some i; rw [HFIN.out]; exact HN.out) HN4.out hl5 hb5)
      have HB5 : Hid (Below a.B0 w w5) := Lib.hid (HB4.out.trans (hb5.below (by have := HG4.out.lays.b0; omega) (by have := HG4.out.lays.b0; omega) (by have h1 := HG4.out.lays.b0; have h2 := HG4.out.lays.t1; omega)))
      clear hl5 hb5
      go_wp2_with fail
      first
        | go_end0
        | (refine bodyPost_ret (results_none rfl _ _ _) rfl ?_)
        | go_ret
      exact ⟨⟨_, rfl⟩, ⟨col3, by rw [HS2.out, step_some HANS.out]; exact HG5.out⟩, HB5.out⟩
end
end Go.Proofs.Ytglpalomhhhmhaa
