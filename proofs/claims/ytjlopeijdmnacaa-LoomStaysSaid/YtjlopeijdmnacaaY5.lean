/- A play of cells, plainly; how it lies in memory; walk of loom: Pick. -/
import Derived.Test.YtjlopeijdmnacaaY4
namespace Go.Proofs.Ytjlopeijdmnacaa
open Go.RowKit

structure EvG where
  i : Nat
  t : Nat
  e : Nat
  v : Nat
structure PlaySt where
  fin : List Bool
  ws : List Nat
  cn : Cn
  ticks : Nat
  idle : Nat
  evs : List EvG

/-- a pick -/
def pickStep (cs : List CallV) (size : Nat) (st : PlaySt) (p : Int) : PlaySt :=
  match nowOf (thr cs) st.fin p with
  | none => { st with idle := st.idle + 1 }
  | some i => match cs[i]? with
    | none => st
    | some x => { fin := st.fin.set i true, ws := (cellRes size x st.ws st.cn).2.2.1, cn := (cellRes size x st.ws st.cn).2.2.2, ticks := st.ticks + 1, idle := st.idle, evs := st.evs ++ [⟨i, st.ticks + 1, (cellRes size x st.ws st.cn).1, (cellRes size x st.ws st.cn).2.1⟩] }
theorem pickStep_idle {cs : List CallV} {size : Nat} {st : PlaySt} {p : Int} (h : nowOf (thr cs) st.fin p = none) : pickStep cs size st p = { st with idle := st.idle + 1 } := by
  unfold pickStep; rw [h]
theorem pickStep_turn {cs : List CallV} {size : Nat} {st : PlaySt} {p : Int} {i : Nat} {x : CallV} (h : nowOf (thr cs) st.fin p = some i) (hx : cs[i]? = some x) :
    pickStep cs size st p = { fin := st.fin.set i true, ws := (cellRes size x st.ws st.cn).2.2.1, cn := (cellRes size x st.ws st.cn).2.2.2, ticks := st.ticks + 1, idle := st.idle, evs := st.evs ++ [⟨i, st.ticks + 1, (cellRes size x st.ws st.cn).1, (cellRes size x st.ws st.cn).2.1⟩] } := by
  unfold pickStep; rw [h]; simp only [hx]

theorem cellRes_len (size : Nat) (x : CallV) (l : List Nat) (c : Cn) : (cellRes size x l c).2.2.1.length = l.length := by
  unfold cellRes; repeat' split
  all_goals simp
theorem cellRes_cn (size : Nat) (x : CallV) (l : List Nat) (c : Cn) : (cellRes size x l c).2.2.2.r + (cellRes size x l c).2.2.2.w + (cellRes size x l c).2.2.2.s + (cellRes size x l c).2.2.2.a ≤ c.r + c.w + c.s + c.a + 1 ∧ (cellRes size x l c).2.2.2.f = c.f := by
  unfold cellRes; repeat' split
  all_goals simp
  all_goals omega

/-- an invocation that has responded -/
def InvAt (w : World) (L g : Nat) (x : EvG) : Prop :=
  ∃ kb op, RowBlk 151 w g (invVs x.i x.t x.t 1 x.e x.v (.slice none 0 0) (.slice (some ⟨kb, 0, none⟩) 1 1) op) ∧ L < kb ∧ RowBlk 3 w kb [.int .i64 (2 * (x.t : Int))]
def BegunIs (w : World) (L : Nat) (vb : Value) (evs : List EvG) : Prop :=
  ∃ ps : List Nat, w.ownsRow (L + 1) 119 1 vb evs.length (ps.map ptr) ∧ ps.length = evs.length ∧ ∀ (i : Nat) (x : EvG), evs[i]? = some x → ∃ g, ps[i]? = some g ∧ L < g ∧ InvAt w L g x

theorem row_owns_ne {t e : TypeId} {w : World} {g B sz m : Nat} {v : Value} {vs xs : List Value} (h : RowBlk t w g vs) (ho : w.ownsRow B e sz v m xs) (ht : t ≠ e) : v.ownBlock ≠ some g := by
  intro e1
  obtain ⟨_, ⟨rfl, _⟩ | ⟨g', cap, cur, rfl, _, hh, _⟩⟩ := ho
  · cases e1
  · cases e1
    unfold RowBlk at h
    rw [h] at hh
    simp at hh
    exact ht hh.2
theorem InvAt.stays {S : Nat → Prop} {w w' : World} {L g : Nat} {x : EvG} (h : InvAt w L g x) (hb : ButS S w w') (hg : L < g) (hS : ∀ k vs t, L < k → (t = 151 ∨ t = 3) → RowBlk t w k vs → ¬ S k) : InvAt w' L g x := by
  obtain ⟨kb, op, h1, h2, h3⟩ := h
  exact ⟨kb, op, hb.row h1 (hS g _ _ hg (.inl rfl) h1), h2, hb.row h3 (hS kb _ _ h2 (.inr rfl) h3)⟩

/-- a play, as it lies -/
structure LoomIs (cs : List CallV) (size j B0 : Nat) (L top lb mb bm bw mc gc go capo capC : Nat) (aoC : Option Addr) (w : World) (st : PlaySt) : Prop where
  blk : ∃ vb, RowBlk 118 w L (loomVs (.slice aoC cs.length capC) lb bm (.slice (some ⟨go, 0, none⟩) 1 capo) vb mc st.ticks st.idle) ∧ BegunIs w L vb st.evs
  line : ∃ f N, LineIs w top lb mb N f (ownL (thr cs) st.fin) ∧ N ≤ cs.length + j
  cur : ∃ N, MapIs Try.prog 3 w mc N (.pointer none) (fun _ => .pointer none) ∧ N ≤ j
  mem : MemIs 142 w bm bw st.ws st.cn
  calls : CallsAt w gc 0 cs
  haC : 0 < cs.length → aoC = some ⟨gc, 0, none⟩
  obj : w.cell? ⟨go, 0, none⟩ = some (cellsObj size 0)
  lfin : st.fin.length = cs.length
  lws : st.ws.length = size
  cnle : st.cn.r + st.cn.w + st.cn.s + st.cn.a ≤ st.ticks ∧ st.cn.f = 0
  tj : st.ticks + st.idle = j
  evl : st.evs.length = st.ticks
  t1 : top ≤ L ∧ top ≤ bm ∧ top ≤ bw ∧ top ≤ mc ∧ mb < top ∧ top ≤ w.heap.size
  gsep : 0 < cs.length → gc < L ∧ gc ≠ bm ∧ gc ≠ bw ∧ gc ≠ mc ∧ gc ≠ mb ∧ top ≤ gc
  osep : go < L ∧ go ≠ bm ∧ go ≠ bw ∧ go ≠ mc ∧ go ≠ mb ∧ top ≤ go
  lsep : bm < L ∧ bw < L ∧ mc < L
  b0 : B0 ≤ L ∧ B0 ≤ bm ∧ B0 ≤ bw ∧ B0 ≤ mc ∧ B0 ≤ mb
  szs : size ≤ 64
  cl : cs.length ≤ 1000
  jl : j ≤ 65536

/-- what a pick may turn -/
def PickS (L mb bm bw mc : Nat) (vb : Value) (k : Nat) : Prop := k = L ∨ k = mb ∨ k = bm ∨ k = bw ∨ k = mc ∨ vb.ownBlock = some k

section
variable {cs : List CallV} {size j B0 L top lb mb bm bw mc gc go capo capC : Nat} {aoC : Option Addr} {w w' : World} {st st' : PlaySt} {vb : Value}

theorem LoomIs.keepC (h : LoomIs cs size j B0 L top lb mb bm bw mc gc go capo capC aoC w st) {n : Nat} {xs : List Value} (ho : w.ownsRow (L + 1) 119 1 vb n xs) (hb : ButS (PickS L mb bm bw mc vb) w w') : CallsAt w' gc 0 cs := by
  intro i x hx
  have hl : 0 < cs.length := by have := (List.getElem?_eq_some_iff.1 hx).1; omega
  have hg := h.gsep hl
  have hc := h.calls i x hx
  have hlt : gc < w.heap.size := World.block_lt_of_cell? w ⟨gc, _, none⟩ hc.1
  have e : w'.heap[gc]? = w.heap[gc]? := hb.block gc hlt (by
    rintro (e | e | e | e | e | e)
    · omega
    · exact hg.2.2.2.2.1 e
    · exact hg.2.1 e
    · exact hg.2.2.1 e
    · exact hg.2.2.2.1 e
    · have := (ho.lt gc e).1; omega)
  have e2 : ∀ o, w'.cell? ⟨gc, o, none⟩ = w.cell? ⟨gc, o, none⟩ := fun o => by unfold World.cell?; rw [e]
  rw [e2, e2, e2, e2, e2, e2]
  exact hc
theorem LoomIs.keepO (h : LoomIs cs size j B0 L top lb mb bm bw mc gc go capo capC aoC w st) {n : Nat} {xs : List Value} (ho : w.ownsRow (L + 1) 119 1 vb n xs) (hb : ButS (PickS L mb bm bw mc vb) w w') : w'.cell? ⟨go, 0, none⟩ = some (cellsObj size 0) := by
  have hg := h.osep
  have hlt : go < w.heap.size := World.block_lt_of_cell? w ⟨go, _, none⟩ h.obj
  have e : w'.heap[go]? = w.heap[go]? := hb.block go hlt (by
    rintro (e | e | e | e | e | e)
    · omega
    · exact hg.2.2.2.2.1 e
    · exact hg.2.1 e
    · exact hg.2.2.1 e
    · exact hg.2.2.2.1 e
    · have := (ho.lt go e).1; omega)
  rw [← h.obj]
  unfold World.cell?
  rw [e]
theorem LoomIs.keepI (h : LoomIs cs size j B0 L top lb mb bm bw mc gc go capo capC aoC w st) {n : Nat} {xs : List Value} (ho : w.ownsRow (L + 1) 119 1 vb n xs) (hb : ButS (PickS L mb bm bw mc vb) w w') {g : Nat} {x : EvG} (hi : InvAt w L g x) (hg : L < g) : InvAt w' L g x := by
  refine hi.stays hb hg (fun k vs t hk ht hr => ?_)
  have h1 := h.lsep
  have h2 := h.t1
  rintro (e | e | e | e | e | e)
  · omega
  · omega
  · omega
  · omega
  · omega
  · exact row_owns_ne hr ho (by rcases ht with rfl | rfl <;> decide) e
end

set_option maxRecDepth 100000 in
set_option maxHeartbeats 4000000 in
theorem pick_idle (cs : List CallV) (size j B0 L top lb mb bm bw mc gc go capo capC : Nat) (aoC : Option Addr) (w : World) (st : PlaySt) (p : Int) (h : LoomIs cs size j B0 L top lb mb bm bw mc gc go capo capC aoC w st) (hp : -9223372036854775808 ≤ p ∧ p ≤ 9223372036854775807)
    (hj : j < 65536) (hn : nowOf (thr cs) st.fin p = none) :
    Calls Try.prog 42 #[.pointer (some ⟨L, 0, none⟩), .int .i64 p] w fun e w' => e = .returned (.tuple #[]) ∧ LoomIs cs size (j + 1) B0 L top lb mb bm bw mc gc go capo capC aoC w' (pickStep cs size st p) ∧ Below B0 w w' := by
  rw [pickStep_idle hn]
  obtain ⟨vb, hL, hBg⟩ := h.blk
  obtain ⟨f, N, hline, hN⟩ := h.line
  have H := Lib.hid h
  have HL := Lib.hid hL
  have HBG := Lib.hid hBg
  have l1 : w.cell? ⟨L, 1, none⟩ = some (.pointer (some ⟨lb, 0, none⟩)) := hL.cell rfl
  have l7 : w.cell? ⟨L, 7, none⟩ = some (.int .i64 (st.idle : Int)) := hL.cell rfl
  have lf : w.frozen? ⟨L, 7, none⟩ = false := hL.free
  have hid : st.idle ≤ 65536 := by have := h.tj; omega
  have HLN := Lib.hid hline
  have HNW := Lib.hid (now_nil.1 hn)
  clear h hL hBg hline hn
  go_enter Try.func42, Try.ntmps42
  go_wp2_with fail
  refine (now_done p _ HLN.out hp HNW.out).mono ?_
  rintro e w1 ⟨rfl, rfl⟩
  go_wp2_with fail
  first
    | go_end0
    | (refine bodyPost_ret (results_none rfl _ _ _) rfl ?_)
  obtain ⟨ps, ho, hpl, hin⟩ := HBG.out
  have hfr : ButS (PickS L mb bm bw mc vb) w (w.setCell ⟨L, 7, none⟩ (.int .i64 ((st.idle : Int) + 1))) := (ButS.refl _ _).setCell (.inl (.inl rfl)) _
  have h := H.out
  refine ⟨rfl, ⟨⟨vb, HL.out.put 7 _, ps, owns_set ho (Nat.lt_succ_self L) _, hpl, fun i x hx => ?_⟩, ⟨f, N, ?_, by omega⟩, ?_, ?_, h.keepC ho hfr, h.haC, h.keepO ho hfr, h.lfin, h.lws, h.cnle, ?_, h.evl, ?_, h.gsep, h.osep, h.lsep, h.b0, h.szs, h.cl, by omega⟩, ?_⟩
  · obtain ⟨g, hg, hgl, hI⟩ := hin i x hx
    exact ⟨g, hg, hgl, h.keepI ho hfr hI hgl⟩
  · exact HLN.out.stays (B := top) ((Below.refl top w).setCell (show top ≤ (⟨L, 7, none⟩ : Addr).block from h.t1.1) _) (Nat.le_refl _)
  · obtain ⟨n, hm, hn⟩ := h.cur
    exact ⟨n, hm.setCell (fun e => hm.ne_row HL.out e.symm) _, by omega⟩
  · exact h.mem.setNew _ _ (by have := h.lsep; omega) (by have := h.lsep; omega)
  · have := h.tj; show st.ticks + (st.idle + 1) = j + 1; omega
  · have := h.t1; refine ⟨this.1, this.2.1, this.2.2.1, this.2.2.2.1, this.2.2.2.2.1, ?_⟩; simp [World.setCell]; exact this.2.2.2.2.2
  · exact (Below.refl B0 w).setCell (show B0 ≤ (⟨L, 7, none⟩ : Addr).block from h.b0.1) _
end Go.Proofs.Ytjlopeijdmnacaa
