/- solo: next, for an object that there is. -/
import Derived.Test.YtjjleghalajidaaGreatGE2
import Derived.Deep.CutRange
import Derived.Deep.RegionHeld3
namespace Go.Proofs.YtjjleghalajidaaGreat
open Go.ChangeShapes Go.WideShapes Go.ChangeAt Go.RowKit Go.Maps
set_option linter.unusedVariables false
set_option linter.unusedSimpArgs false
set_option maxRecDepth 100000

/-- in the middle of a call: the state, the call's box, the result's cell, the spec's box, the answer's box, the model then, the answer's list -/
structure NxAt (w V : World) (n : Int) (l : List Tb.SpecL) (q : SoM) (mg mcap : Nat) (us : List Value) (s : SoS) (k : Nat) (th ob kd a b c : Int) (x : Tb.SpecL) (b5 b8 B : Nat) (v7 lv : Value) (r : MdR) : Prop where
  so : SoAt V n l q (.slice (some ⟨mg, 0, none⟩) l.length mcap) l.length us s k
  box : V.heap[w.heap.size]? = some (callO th ob kd a b c)
  res : V.heap[w.heap.size + 1]? = some (ansC 0 0 (.slice none 0 0))
  spc : V.cell? ⟨b5, 0, none⟩ = some (.int .i64 x.k) ∧ V.cell? ⟨b5, 1, none⟩ = some (.int .i64 x.p) ∧ V.cell? ⟨b5, 2, none⟩ = some (.int .i64 x.q)
  ans : V.cell? ⟨b8, 0, none⟩ = some (.int .i64 (r.err : Int)) ∧ V.cell? ⟨b8, 1, none⟩ = some (.int .u64 (r.val : Int)) ∧ V.cell? ⟨b8, 2, none⟩ = some lv
  st : ArgB V B v7 r.st ∧ Room v7
  ls : ArgB V B lv r.ls
  lo : w.heap.size + 1 < b5 ∧ b5 < B ∧ B ≤ b8 ∧ w.heap.size + 1 < B
  fr : FrN q (.slice (some ⟨mg, 0, none⟩) l.length mcap) w V
  old : ∀ u ∈ us, ∀ b, blkOf u = some b → b < w.heap.size
  mgl : q.g < mg ∧ mg < w.heap.size
section
variable {w V : World} {n : Int} {l : List Tb.SpecL} {q : SoM} {mg mcap : Nat} {us : List Value} {s : SoS} {k : Nat} {th ob kd a b c : Int} {x : Tb.SpecL} {b5 b8 B : Nat} {v7 lv : Value} {r : MdR}
theorem NxAt.below {V' : World} (h : NxAt w V n l q mg mcap us s k th ob kd a b c x b5 b8 B v7 lv r) (hb : Below V.heap.size V V') : NxAt w V' n l q mg mcap us s k th ob kd a b c x b5 b8 B v7 lv r :=
  ⟨h.so.below hb, (hb.block _ (blk_lt h.box)).trans h.box, (hb.block _ (blk_lt h.res)).trans h.res,
    ⟨(hb.cell (World.block_lt_of_cell? V _ h.spc.1)).trans h.spc.1, (hb.cell (World.block_lt_of_cell? V _ h.spc.2.1)).trans h.spc.2.1, (hb.cell (World.block_lt_of_cell? V _ h.spc.2.2)).trans h.spc.2.2⟩,
    ⟨(hb.cell (World.block_lt_of_cell? V _ h.ans.1)).trans h.ans.1, (hb.cell (World.block_lt_of_cell? V _ h.ans.2.1)).trans h.ans.2.1, (hb.cell (World.block_lt_of_cell? V _ h.ans.2.2)).trans h.ans.2.2⟩,
    ⟨h.st.1.below hb, h.st.2⟩, h.ls.below hb, h.lo, h.fr.trans (FrN.of_below hb), h.old, h.mgl⟩
theorem NxAt.took {V' : World} {ms : List (List Nat)} {la : List Int} (h : NxAt w V n l q mg mcap us ⟨ms, la⟩ k th ob kd a b c x b5 b8 B v7 lv r) {i : Nat} (hi : i < la.length) (t : Int)
    (hM : MapIs Tryz.prog 3 V' q.mb (k + 1) (tkV (-1)) (updF (laF la) (i : Int) (tkV t))) (hT : V.mapTurned V' q.mb) : NxAt w V' n l q mg mcap us ⟨ms, la.set i t⟩ (k + 1) th ob kd a b c x b5 b8 B v7 lv r := by
  have hg := hT.grown
  have hno := h.so.map.no_cell
  have hmc := h.so.mC
  have hlo := h.lo
  have hml := h.mgl
  have hb : ∀ b', b' < V.heap.size → b' ≠ q.mb → V'.heap[b']? = V.heap[b']? := fun b' h1 h2 => hg.block b' h1 (fun e => h2 (by cases e; rfl))
  have hc : ∀ (b' o : Nat) (v : Value), V.cell? ⟨b', o, none⟩ = some v → V'.cell? ⟨b', o, none⟩ = some v := fun b' o v hv => by
    have hlt := World.block_lt_of_cell? V _ hv
    have hne : b' ≠ q.mb := fun e => by rw [hno ⟨b', o, none⟩ e] at hv; cases hv
    exact (World.cell?_of_block (a := ⟨b', o, none⟩) (hb b' hlt hne)).trans hv
  exact ⟨h.so.took hi t hM hT, (hb _ (blk_lt h.box) (by omega)).trans h.box, (hb _ (blk_lt h.res) (by omega)).trans h.res,
    ⟨hc _ _ _ h.spc.1, hc _ _ _ h.spc.2.1, hc _ _ _ h.spc.2.2⟩, ⟨hc _ _ _ h.ans.1, hc _ _ _ h.ans.2.1, hc _ _ _ h.ans.2.2⟩,
    ⟨h.st.1.keepE (fun b' hb' => hb _ (h.st.1.blk hb').2 (by have := (h.st.1.blk hb').1; omega)), h.st.2⟩, h.ls.keepE (fun b' hb' => hb _ (h.ls.blk hb').2 (by have := (h.ls.blk hb').1; omega)), h.lo, h.fr.map hT, h.old, h.mgl⟩
/-- the end: the model is stored, the answer handed back -/
theorem NxAt.done {i : Nat} (h : NxAt w V n l q mg mcap us s k th ob kd a b c x b5 b8 B v7 lv r) (e0 e1 e2 : Value) :
    ∃ us', SoAt ((((V.setCell ⟨mg, i, none⟩ v7).setCell ⟨w.heap.size + 1, 0, none⟩ e0).setCell ⟨w.heap.size + 1, 1, none⟩ e1).setCell ⟨w.heap.size + 1, 2, none⟩ e2) n l q (.slice (some ⟨mg, 0, none⟩) l.length mcap) l.length us' ⟨s.ms.set i r.st, s.la⟩ k ∧
      ArgB ((((V.setCell ⟨mg, i, none⟩ v7).setCell ⟨w.heap.size + 1, 0, none⟩ e0).setCell ⟨w.heap.size + 1, 1, none⟩ e1).setCell ⟨w.heap.size + 1, 2, none⟩ e2) w.heap.size lv r.ls ∧
      (∀ u ∈ us', u ∈ us ∨ ∀ b, blkOf u = some b → w.heap.size ≤ b) ∧ FrN q (.slice (some ⟨mg, 0, none⟩) l.length mcap) w ((((V.setCell ⟨mg, i, none⟩ v7).setCell ⟨w.heap.size + 1, 0, none⟩ e0).setCell ⟨w.heap.size + 1, 1, none⟩ e1).setCell ⟨w.heap.size + 1, 2, none⟩ e2) := by
  have hlo := h.lo
  have hml := h.mgl
  have hS := h.so.stored i (h.st.1.mono (show q.g + 1 ≤ B by omega)) h.st.2 (fun b' hb' => by have := (h.st.1.blk hb').1; omega)
  have hg : q.g < w.heap.size + 1 := by omega
  have hm : (Value.slice (some ⟨mg, 0, none⟩) l.length mcap).ownBlock ≠ some (w.heap.size + 1) := fun e => by simp only [Value.ownBlock, Option.some.injEq] at e; omega
  have hu : ∀ u ∈ us.set i v7, ∀ b', blkOf u = some b' → b' ≠ w.heap.size + 1 := fun u hu b' hb => by
    rcases List.mem_or_eq_of_mem_set hu with hu | rfl
    · have := h.old u hu b' hb; omega
    · have := (h.st.1.blk hb).1; omega
  refine ⟨us.set i v7, ((hS.far hg hm hu 0 e0).far hg hm hu 1 e1).far hg hm hu 2 e2, ?_, fun u hu => ?_, ?_⟩
  · exact ((h.ls.other (show mg < B by omega) i v7).put3 (show w.heap.size + 1 < B by omega) e0 e1 e2).mono (by omega)
  · rcases List.mem_or_eq_of_mem_set hu with hu | rfl
    · exact .inl hu
    · exact .inr (fun b' hb' => by have := (h.st.1.blk hb').1; omega)
  · exact (((h.fr.set (.inl rfl) i v7).set (.inr (Nat.le_succ _)) 0 e0).set (.inr (Nat.le_succ _)) 1 e1).set (.inr (Nat.le_succ _)) 2 e2
theorem NxAt.full (h : NxAt w V n l q mg mcap us s k th ob kd a b c x b5 b8 B v7 lv r) (e0 e1 e2 : Value) :
    SoAt (((V.setCell ⟨w.heap.size + 1, 0, none⟩ e0).setCell ⟨w.heap.size + 1, 1, none⟩ e1).setCell ⟨w.heap.size + 1, 2, none⟩ e2) n l q (.slice (some ⟨mg, 0, none⟩) l.length mcap) l.length us s k ∧
      FrN q (.slice (some ⟨mg, 0, none⟩) l.length mcap) w (((V.setCell ⟨w.heap.size + 1, 0, none⟩ e0).setCell ⟨w.heap.size + 1, 1, none⟩ e1).setCell ⟨w.heap.size + 1, 2, none⟩ e2) := by
  have hml := h.mgl
  have hg : q.g < w.heap.size + 1 := by omega
  have hm : (Value.slice (some ⟨mg, 0, none⟩) l.length mcap).ownBlock ≠ some (w.heap.size + 1) := fun e => by simp only [Value.ownBlock, Option.some.injEq] at e; omega
  have hu : ∀ u ∈ us, ∀ b', blkOf u = some b' → b' ≠ w.heap.size + 1 := fun u hu b' hb => by have := h.old u hu b' hb; omega
  exact ⟨((h.so.far hg hm hu 0 e0).far hg hm hu 1 e1).far hg hm hu 2 e2, ((h.fr.set (.inr (Nat.le_succ _)) 0 e0).set (.inr (Nat.le_succ _)) 1 e1).set (.inr (Nat.le_succ _)) 2 e2⟩
structure NxC (w V : World) (q : SoM) (n : Int) (sv : Value) (mg mcap len : Nat) (th ob kd a b c : Int) (x : Tb.SpecL) (b5 b8 : Nat) (er vl : Int) (lv : Value) : Prop where
  g0 : V.cell? ⟨q.g, 0, none⟩ = some (.int .i64 n)
  g1 : V.cell? ⟨q.g, 1, none⟩ = some sv
  g2 : V.cell? ⟨q.g, 2, none⟩ = some (.slice (some ⟨mg, 0, none⟩) len mcap)
  g3 : V.cell? ⟨q.g, 3, none⟩ = some (.map (some q.mb))
  c0 : V.cell? ⟨w.heap.size, 0, none⟩ = some (.int .i64 th)
  c1 : V.cell? ⟨w.heap.size, 1, none⟩ = some (.int .i64 ob)
  c2 : V.cell? ⟨w.heap.size, 2, none⟩ = some (.int .i64 kd)
  c3 : V.cell? ⟨w.heap.size, 3, none⟩ = some (.int .u64 a)
  c4 : V.cell? ⟨w.heap.size, 4, none⟩ = some (.int .u64 b)
  c5 : V.cell? ⟨w.heap.size, 5, none⟩ = some (.int .u64 c)
  k0 : V.cell? ⟨w.heap.size + 1, 0, none⟩ = some (.int .i64 0)
  k1 : V.cell? ⟨w.heap.size + 1, 1, none⟩ = some (.int .u64 0)
  k2 : V.cell? ⟨w.heap.size + 1, 2, none⟩ = some (.slice none 0 0)
  z0 : V.frozen? ⟨w.heap.size + 1, 0, none⟩ = false
  z1 : V.frozen? ⟨w.heap.size + 1, 1, none⟩ = false
  z2 : V.frozen? ⟨w.heap.size + 1, 2, none⟩ = false
  s0 : V.cell? ⟨b5, 0, none⟩ = some (.int .i64 x.k)
  s1 : V.cell? ⟨b5, 1, none⟩ = some (.int .i64 x.p)
  s2 : V.cell? ⟨b5, 2, none⟩ = some (.int .i64 x.q)
  q0 : V.cell? ⟨b8, 0, none⟩ = some (.int .i64 er)
  q1 : V.cell? ⟨b8, 1, none⟩ = some (.int .u64 vl)
  q2 : V.cell? ⟨b8, 2, none⟩ = some lv
theorem NxAt.cells (h : NxAt w V n l q mg mcap us s k th ob kd a b c x b5 b8 B v7 lv r) : NxC w V q n (.slice q.sao l.length q.sc) mg mcap l.length th ob kd a b c x b5 b8 (r.err : Int) (r.val : Int) lv := by
  obtain ⟨g0, g1, g2, g3, _⟩ := h.so.cells
  exact ⟨g0, g1, g2, g3, Tb.cell_of_blkT h.box rfl, Tb.cell_of_blkT h.box rfl, Tb.cell_of_blkT h.box rfl, Tb.cell_of_blkT h.box rfl, Tb.cell_of_blkT h.box rfl, Tb.cell_of_blkT h.box rfl,
    Tb.cell_of_blkT h.res rfl, Tb.cell_of_blkT h.res rfl, Tb.cell_of_blkT h.res rfl, Tb.free_of_blkT h.res, Tb.free_of_blkT h.res, Tb.free_of_blkT h.res, h.spc.1, h.spc.2.1, h.spc.2.2, h.ans.1, h.ans.2.1, h.ans.2.2⟩
end

set_option maxHeartbeats 8000000 in
theorem next_on (n : Int) (l : List Tb.SpecL) (q : SoM) (mv : Value) (us : List Value) (s : SoS) (k : Nat) (th kd : Int) (i a b c : Nat) (w : World) (h : SoAt w n l q mv l.length us s k) (hm : s.ms.length = l.length) (hi : i < l.length) (hl8 : l.length ≤ 8) (x : Tb.SpecL) (hx : l[i]? = some x) (r : MdR)
    (hAP : ∀ (W : World) (v : Value), ArgW W v (s.ms.getD i []) → Room v → Calls Tryz.prog 56 #[.int .i64 n, Tb.specV x.k x.p x.q, v, callV th (i : Int) kd (a : Int) (b : Int) (c : Int)] W (ChP W.heap.size W r)) (hno : x.k ≠ 8 ∨ r.err ≠ 0) :
    Calls Tryz.prog 78 #[.pointer (some ⟨q.g, 0, none⟩), callV th (i : Int) kd (a : Int) (b : Int) (c : Int)] w (NxP n l q mv us k w (⟨s.ms.set i r.st, s.la⟩, ⟨[], r.err, r.val, r.ls⟩)) := by
  obtain ⟨mg, mcap, u, rfl, hmg1, hmg2, hu, m0, mz, hA, hRoom⟩ := h.model hm hi
  have hS0 := (h.alloc (callO th (i : Int) kd (a : Int) (b : Int) (c : Int))).alloc (ansC 0 0 (.slice none 0 0))
  have hB0 : Below w.heap.size w ((w.alloc (callO th (i : Int) kd (a : Int) (b : Int) (c : Int))).alloc (ansC 0 0 (.slice none 0 0))) := ((Below.refl _ _).alloc (Nat.le_refl _) _).alloc (by simp) _
  obtain ⟨sc0, sc1, sc2⟩ := hS0.sp i x hx
  have hsao := h.sa (by omega)
  obtain ⟨g0, g1, g2, g3, _⟩ := hS0.cells
  rw [hsao] at g1
  have HC := Lib.hid (fun (W : World) (e : W.cell? ⟨q.g, 1, none⟩ = some (.slice (some ⟨q.sb, q.so, none⟩) l.length q.sc)) => so_has n l q.g (some ⟨q.sb, q.so, none⟩) q.sc (i : Int) W e)
  have hd : decide (0 ≤ (i : Int) ∧ (i : Int) < (l.length : Int)) = true := decide_eq_true (by omega)
  simp only [hd] at HC
  have hcb : ((w.alloc (callO th (i : Int) kd (a : Int) (b : Int) (c : Int))).alloc (ansC 0 0 (.slice none 0 0))).heap[w.heap.size]? = some (callO th (i : Int) kd (a : Int) (b : Int) (c : Int)) := (Below.heap_alloc _ _ _ (by simp)).trans (heap_alloc_new _ _)
  have hrb : ((w.alloc (callO th (i : Int) kd (a : Int) (b : Int) (c : Int))).alloc (ansC 0 0 (.slice none 0 0))).heap[w.heap.size + 1]? = some (ansC 0 0 (.slice none 0 0)) := by
    have := heap_alloc_new (w.alloc (callO th (i : Int) kd (a : Int) (b : Int) (c : Int))) (ansC 0 0 (.slice none 0 0))
    rw [World.size_alloc] at this; exact this
  have hsz0 : ((w.alloc (callO th (i : Int) kd (a : Int) (b : Int) (c : Int))).alloc (ansC 0 0 (.slice none 0 0))).heap.size = w.heap.size + 2 := by simp
  have c1 := Tb.cell_of_blkT (k := 1) hcb rfl
  have m0' := (hB0.cell (p := ⟨mg, i, none⟩) hmg2).trans m0
  have HOLD : Hid (∀ u ∈ us, ∀ b, blkOf u = some b → b < w.heap.size) := Lib.hid (fun u hu b hb => (h.ws.lt hu hb).2)
  have HA0 := Lib.hid (hA.below hB0)
  obtain ⟨uao, ucap, rfl⟩ := hA.arg.isSlice
  have HRM := Lib.hid hRoom
  have HS := Lib.hid hS0
  have HB := Lib.hid hB0
  have HCB := Lib.hid hcb
  have HRB := Lib.hid hrb
  have HAP := Lib.hid hAP
  have hil : (i : Int) < (l.length : Int) := by omega
  have hsb : q.sb < ((w.alloc (callO th (i : Int) kd (a : Int) (b : Int) (c : Int))).alloc (ansC 0 0 (.slice none 0 0))).heap.size := by have := specs_lt h.sp (show 0 < l.length by omega); rw [hsz0]; omega
  have hgl : q.g < ((w.alloc (callO th (i : Int) kd (a : Int) (b : Int) (c : Int))).alloc (ansC 0 0 (.slice none 0 0))).heap.size := by have := h.lt; rw [hsz0]; omega
  have hml : mg < ((w.alloc (callO th (i : Int) kd (a : Int) (b : Int) (c : Int))).alloc (ansC 0 0 (.slice none 0 0))).heap.size := by rw [hsz0]; omega
  have hcl : w.heap.size < ((w.alloc (callO th (i : Int) kd (a : Int) (b : Int) (c : Int))).alloc (ansC 0 0 (.slice none 0 0))).heap.size := by rw [hsz0]; omega
  have HXX := Lib.hid hx
  have HU := Lib.hid hu
  have hm2 := Lib.hid hm
  generalize hmm : s.ms.getD i [] = m at *
  have HMM := Lib.hid hmm
  clear hmm hm
  have HSZ := Lib.hid hsz0
  clear hsz0
  clear h hS0 hB0 hcb hrb hA hRoom hd hAP hx hu m0
  generalize hw0 : (w.alloc (callO th (i : Int) kd (a : Int) (b : Int) (c : Int))).alloc (ansC 0 0 (.slice none 0 0)) = w0 at *
  unfold callO ansC at hw0
  unfold callV
  go_enter Tryz.func78, Tryz.ntmps78
  go_wp2_with (go_at_call 46; refine (HC.out _ g1).mono ?_; rintro e w5 ⟨rfl, m5, hw5⟩; (have HBm : Hid (Below w0.heap.size w0 w5) := Lib.hid (by rw [hw5]; exact below_drewN (Below.refl _ _) _)); clear hw5)
  have j1 := (HBm.out.cell (p := ⟨q.g, 1, none⟩) hgl).trans g1
  have j2 := (HBm.out.cell (p := ⟨q.g, 2, none⟩) hgl).trans g2
  have j3 := (HBm.out.cell (p := ⟨w.heap.size, 1, none⟩) hcl).trans c1
  have j4 := (HBm.out.cell (p := ⟨q.sb, _, none⟩) hsb).trans sc0
  have j5 := (HBm.out.cell (p := ⟨q.sb, _, none⟩) hsb).trans sc1
  have j6 := (HBm.out.cell (p := ⟨q.sb, _, none⟩) hsb).trans sc2
  have j7 := (HBm.out.cell (p := ⟨mg, i, none⟩) hml).trans m0'
  have hz5 := HBm.out.size
  clear g0 g1 g2 g3 c1 sc0 sc1 sc2 m0'
  go_upto_region 3 with fail
  go_cut [5, 6] from 9 to 30 (fun v5 v6 wx => ∃ (b5 : Nat), v5 = .pointer (some ⟨b5, 0, none⟩) ∧ v6 = .slice uao m.length ucap ∧ Hid (w0.heap.size ≤ b5) ∧ Hid (wx.cell? ⟨b5, 0, none⟩ = some (.int .i64 x.k) ∧ wx.cell? ⟨b5, 1, none⟩ = some (.int .i64 x.p) ∧ wx.cell? ⟨b5, 2, none⟩ = some (.int .i64 x.q)) ∧ Hid (Below w0.heap.size w0 wx))
  case first =>
    go_region_held3 (fun w' => w'.cell? ⟨q.g, 1, none⟩ = some (.slice (some ⟨q.sb, q.so, none⟩) l.length q.sc) ∧ w'.cell? ⟨q.g, 2, none⟩ = some (.slice (some ⟨mg, 0, none⟩) l.length mcap) ∧ w'.cell? ⟨w.heap.size, 1, none⟩ = some (.int .i64 (i : Int)) ∧ w'.cell? ⟨q.sb, q.so + i * 3, none⟩ = some (.int .i64 x.k) ∧ w'.cell? ⟨q.sb, q.so + i * 3 + 1, none⟩ = some (.int .i64 x.p) ∧ w'.cell? ⟨q.sb, q.so + i * 3 + 2, none⟩ = some (.int .i64 x.q) ∧ w'.cell? ⟨mg, i, none⟩ = some (.slice uao m.length ucap))
      (first | exact ⟨j1, j2, j3, j4, j5, j6, j7⟩ | go_keep)
      (fail)
    all_goals (go_wp2_with fail; go_meet)
    all_goals first
      | exact ⟨w5.heap.size, rfl, rfl, Lib.hid hz5, Lib.hid (new3_cells _ _ _ _ _), Lib.hid (HBm.out.drew.alloc hz5 _)⟩
      | exact ⟨w5.heap.size, rfl, rfl, Lib.hid hz5, Lib.hid (new3_cells _ _ _ _ _), Lib.hid ((HBm.out.alloc hz5 _).drew)⟩
      | exact ⟨w5.heap.size, rfl, rfl, Lib.hid hz5, Lib.hid (new3_cells _ _ _ _ _), Lib.hid (HBm.out.alloc hz5 _)⟩
  case rest =>
    obtain ⟨b5, rfl, rfl, HG5, HC5, HB5⟩ := hcut
    have hsz0 := HSZ.out
    have HS5 := Lib.hid (HS.out.below HB5.out)
    obtain ⟨p0, p1, p2, p3, _⟩ := HS5.out.cells
    have hcb5 := (HB5.out.block _ (blk_lt HCB.out)).trans HCB.out
    have d0 := Tb.cell_of_blkT (k := 0) hcb5 rfl
    have d1 := Tb.cell_of_blkT (k := 1) hcb5 rfl
    have d2 := Tb.cell_of_blkT (k := 2) hcb5 rfl
    have d3 := Tb.cell_of_blkT (k := 3) hcb5 rfl
    have d4 := Tb.cell_of_blkT (k := 4) hcb5 rfl
    have d5 := Tb.cell_of_blkT (k := 5) hcb5 rfl
    obtain ⟨t0, t1, t2⟩ := HC5.out
    have hlt5 := World.block_lt_of_cell? wc _ t0
    simp only at hlt5
    have hgl5 : q.g < wc.heap.size := HS5.out.lt
    have hbl5 : w.heap.size < wc.heap.size := blk_lt hcb5
    have ng : q.g ≠ wc.heap.size := by omega
    have ng2 : wc.heap.size ≠ q.g := by omega
    have nb : w.heap.size ≠ wc.heap.size := by omega
    have nb2 : wc.heap.size ≠ w.heap.size := by omega
    have n5 : b5 ≠ wc.heap.size := by omega
    have n52 : wc.heap.size ≠ b5 := by omega
    have HAW := Lib.hid (HA0.out.arg.below HB5.out)
    have HW0 := Lib.hid (HB.out.trans (HB5.out.mono (show w.heap.size ≤ w0.heap.size by omega)))
    have HRB5 := Lib.hid ((HB5.out.block _ (blk_lt HRB.out)).trans HRB.out)
    have HCB5 := Lib.hid hcb5
    have hw05 := HG5.out
    have hb5w : w.heap.size + 1 < b5 := by omega
    clear hsz0 hw05
    clear hcb5 j1 j2 j3 j4 j5 j6 j7 hz5
    generalize hW1 : wc = W1 at *
    clear hW1
    go_upto_region 4 with fail
    go_cut [7, 8] from 9 to 41 (fun v7 v8 wx => ∃ (b8 : Nat) (v7' lv' : Value), v7 = v7' ∧ v8 = .pointer (some ⟨b8, 0, none⟩) ∧ Hid (NxAt w wx n l q mg mcap us s k th (i : Int) kd (a : Int) (b : Int) (c : Int) x b5 b8 W1.heap.size v7' lv' r))
    case first =>
      go_region_held3 (fun w' => w'.cell? ⟨q.g, 0, none⟩ = some (.int .i64 n) ∧ w'.cell? ⟨b5, 0, none⟩ = some (.int .i64 x.k) ∧ w'.cell? ⟨b5, 1, none⟩ = some (.int .i64 x.p) ∧ w'.cell? ⟨b5, 2, none⟩ = some (.int .i64 x.q) ∧ w'.cell? ⟨w.heap.size, 0, none⟩ = some (.int .i64 th) ∧ w'.cell? ⟨w.heap.size, 1, none⟩ = some (.int .i64 (i : Int)) ∧ w'.cell? ⟨w.heap.size, 2, none⟩ = some (.int .i64 kd) ∧ w'.cell? ⟨w.heap.size, 3, none⟩ = some (.int .u64 (a : Int)) ∧ w'.cell? ⟨w.heap.size, 4, none⟩ = some (.int .u64 (b : Int)) ∧ w'.cell? ⟨w.heap.size, 5, none⟩ = some (.int .u64 (c : Int)))
        (first | exact ⟨p0, t0, t1, t2, d0, d1, d2, d3, d4, d5⟩ | go_keep)
        (first
          | (go_at_call 56
             refine (HAP.out _ _ (by first | exact HAW.out.drew | exact (HAW.out.drew.alloc _) | exact ((HAW.out.alloc _).drew)) HRM.out).mono ?_
             rintro e w3 ⟨v3, lv3, rfl, ⟨ho3, hr3⟩, ⟨hl3, hlr3⟩, hb3⟩
             have HBW : Hid (Below W1.heap.size W1 w3) := Lib.hid (by first | exact ((Below.refl _ _).drew.trans hb3) | exact (((Below.refl _ _).alloc (Nat.le_refl _) _).drew.trans (hb3.mono (by simp))) | exact (((Below.refl _ _).drew.alloc (Nat.le_refl _) _).trans (hb3.mono (by simp))))
             have y0 := (HBW.out.cell (p := ⟨q.g, 0, none⟩) hgl5).trans p0
             have y1 := (HBW.out.cell (p := ⟨b5, 0, none⟩) hlt5).trans t0
             have y2 := (HBW.out.cell (p := ⟨b5, 1, none⟩) hlt5).trans t1
             have y3 := (HBW.out.cell (p := ⟨b5, 2, none⟩) hlt5).trans t2
             have y4 := (HBW.out.cell (p := ⟨w.heap.size, 0, none⟩) hbl5).trans d0
             have y5 := (HBW.out.cell (p := ⟨w.heap.size, 1, none⟩) hbl5).trans d1
             have y6 := (HBW.out.cell (p := ⟨w.heap.size, 2, none⟩) hbl5).trans d2
             have y7 := (HBW.out.cell (p := ⟨w.heap.size, 3, none⟩) hbl5).trans d3
             have y8 := (HBW.out.cell (p := ⟨w.heap.size, 4, none⟩) hbl5).trans d4
             have y9 := (HBW.out.cell (p := ⟨w.heap.size, 5, none⟩) hbl5).trans d5
             clear p0 t0 t1 t2 d0 d1 d2 d3 d4 d5
             have p0 := y0
             have t0 := y1
             have t1 := y2
             have t2 := y3
             have d0 := y4
             have d1 := y5
             have d2 := y6
             have d3 := y7
             have d4 := y8
             have d5 := y9
             clear y0 y1 y2 y3 y4 y5 y6 y7 y8 y9
             obtain ⟨ao7, cap7, rfl⟩ := ho3.arg.isSlice
             obtain ⟨lao, lcap, rfl⟩ := hl3.arg.isSlice
             have zw := HBW.out.size
             have HR3 := Lib.hid hr3
             first
               | (have hz : w3.heap[W1.heap.size]? = some (ansC 0 0 (.slice none 0 0)) := (hb3.block _ (by simp)).trans (heap_alloc_new _ _)
                  have x0 : w3.cell? ⟨W1.heap.size, 0, none⟩ = some (.int .i64 0) := Tb.cell_of_blkT (k := 0) hz rfl
                  have x1 : w3.cell? ⟨W1.heap.size, 1, none⟩ = some (.int .u64 0) := Tb.cell_of_blkT (k := 1) hz rfl
                  have x2 : w3.cell? ⟨W1.heap.size, 2, none⟩ = some (.slice none 0 0) := Tb.cell_of_blkT (k := 2) hz rfl
                  have xz0 := Tb.free_of_blkT (k := 0) hz
                  have xz1 := Tb.free_of_blkT (k := 1) hz
                  have xz2 := Tb.free_of_blkT (k := 2) hz
                  have zl := blk_lt hz
                  have HO3 : Hid (ArgB w3 (W1.heap.size + 1) (.slice ao7 r.st.length cap7) r.st) := Lib.hid (ho3.mono (by simp))
                  have HL3 : Hid (ArgB w3 (W1.heap.size + 1) (.slice lao r.ls.length lcap) r.ls) := Lib.hid (hl3.mono (by simp))
                  clear hz)
               | (have HO3 : Hid (ArgB w3 W1.heap.size (.slice ao7 r.st.length cap7) r.st) := Lib.hid (ho3.mono (by simp))
                  have HL3 : Hid (ArgB w3 W1.heap.size (.slice lao r.ls.length lcap) r.ls) := Lib.hid (hl3.mono (by simp)))
             clear ho3 hl3 hb3 hr3 hlr3)
          | fail)
      all_goals (go_wp2_with fail; go_meet)
      all_goals first
        | (have hBB : Below W1.heap.size W1 (((w3.setCell ⟨W1.heap.size, 0, none⟩ (.int .i64 (r.err : Int))).setCell ⟨W1.heap.size, 1, none⟩ (.int .u64 (r.val : Int))).setCell ⟨W1.heap.size, 2, none⟩ (.slice lao r.ls.length lcap)) := put3_below HBW.out (Nat.le_refl _) _ _ _
           exact ⟨W1.heap.size, .slice ao7 r.st.length cap7, .slice lao r.ls.length lcap, rfl, rfl, Lib.hid ⟨HS5.out.below hBB, (hBB.block _ hbl5).trans HCB5.out, (hBB.block _ (blk_lt HRB5.out)).trans HRB5.out, ⟨(hBB.cell (p := ⟨b5, 0, none⟩) hlt5).trans HC5.out.1, (hBB.cell (p := ⟨b5, 1, none⟩) hlt5).trans HC5.out.2.1, (hBB.cell (p := ⟨b5, 2, none⟩) hlt5).trans HC5.out.2.2⟩, put3_cells x0 x1 x2 _ _ _, ⟨(HO3.out.put3 (by omega) _ _ _).mono (by omega), HR3.out⟩, (HL3.out.put3 (by omega) _ _ _).mono (by omega), ⟨hb5w, by omega, Nat.le_refl _, by omega⟩, FrN.of_below (HW0.out.trans (hBB.mono (by have := HW0.out.size; omega))), HOLD.out, ⟨hmg1, hmg2⟩⟩⟩)
        | (have hBB : Below W1.heap.size W1 (w3.alloc (.cells #[.int .i64 (r.err : Int), .int .u64 (r.val : Int), .slice lao r.ls.length lcap] 57)) := HBW.out.alloc zw _
           exact ⟨w3.heap.size, .slice ao7 r.st.length cap7, .slice lao r.ls.length lcap, rfl, rfl, Lib.hid ⟨HS5.out.below hBB, (hBB.block _ hbl5).trans HCB5.out, (hBB.block _ (blk_lt HRB5.out)).trans HRB5.out, ⟨(hBB.cell (p := ⟨b5, 0, none⟩) hlt5).trans HC5.out.1, (hBB.cell (p := ⟨b5, 1, none⟩) hlt5).trans HC5.out.2.1, (hBB.cell (p := ⟨b5, 2, none⟩) hlt5).trans HC5.out.2.2⟩, new3_cells _ _ _ _ _, ⟨HO3.out.below ((Below.refl _ _).alloc (Nat.le_refl _) _), HR3.out⟩, HL3.out.below ((Below.refl _ _).alloc (Nat.le_refl _) _), ⟨hb5w, by omega, zw, by omega⟩, FrN.of_below (HW0.out.trans (hBB.mono (by have := HW0.out.size; omega))), HOLD.out, ⟨hmg1, hmg2⟩⟩⟩)
    case rest =>
      obtain ⟨b8, v7, lv, rfl, rfl, HX⟩ := hcut
      clear p0 p1 p2 p3 d0 d1 d2 d3 d4 d5 t0 t1 t2
      obtain ⟨ao7, cap7, rfl⟩ := HX.out.st.1.arg.isSlice
      obtain ⟨lao, lcap, rfl⟩ := HX.out.ls.arg.isSlice
      have hlo := HX.out.lo
      have n8 : q.g ≠ mg := by omega
      have n9 : mg ≠ q.g := by omega
      have n10 : w.heap.size ≠ mg := by omega
      have n11 : mg ≠ w.heap.size := by omega
      obtain ⟨g0, g1, g2, g3, c0, c1, c2, c3, c4, c5, k0, k1, k2, z0, z1, z2, s0, s1, s2, q0, q1, q2⟩ := HX.out.cells
      obtain ⟨mg', mcap', u', hv', _, _, hu', mm0, mmz, hA', _⟩ := HX.out.so.model hm2.out hi
      obtain ⟨rfl, rfl⟩ : mg = mg' ∧ mcap = mcap' := by cases hv'; exact ⟨rfl, rfl⟩
      obtain rfl : u' = _ := Option.some.inj (hu'.symm.trans HU.out)
      try rw [HMM.out] at mm0
      clear hv' hu' hA'
      have n1 : b8 ≠ mg := by omega
      have n2 : mg ≠ b8 := by omega
      have n3 : w.heap.size + 1 ≠ mg := by omega
      have n4 : mg ≠ w.heap.size + 1 := by omega
      have n6 : b8 ≠ w.heap.size + 1 := by omega
      have n7 : w.heap.size + 1 ≠ b8 := by omega
      by_cases h8 : x.k = 8
      · have he0 : r.err ≠ 0 := by rcases hno with h | h; exact absurd h8 h; exact h
        have dk : (x.k == 8) = true := by rw [h8]; rfl
        have dk2 : decide (x.k = 8) = true := decide_eq_true h8
        have de : ((r.err : Int) == 0) = false := by rw [beq_eq_false_iff_ne]; omega
        have de2 : decide ((r.err : Int) = 0) = false := decide_eq_false (by omega)
        have de3 : ¬ (r.err : Int) = 0 := by omega
        clear hno he0
        go_wp2_with fail
        go_region_held3 (fun w' => w'.cell? ⟨q.g, 2, none⟩ = some (.slice (some ⟨mg, 0, none⟩) l.length mcap) ∧ w'.cell? ⟨w.heap.size, 1, none⟩ = some (.int .i64 (i : Int)))
          (first | exact ⟨g2, c1⟩ | (refine ⟨?_, ?_⟩ <;> simp [World.cell?_setCell_ne, n8, n9, n10, n11, g2, c1]; done) | go_keep)
          (fail)
        all_goals (go_wp2_with fail)
        all_goals (obtain ⟨us', hs', hl', hu', hf'⟩ := (HX.out.below (below_drewN (Below.refl _ _) 1)).done (i := i) (.int .i64 (r.err : Int)) (.int .u64 (r.val : Int)) (.slice lao r.ls.length lcap))
        all_goals exact bodyPost_ret (v := .agg #[.int .i64 (r.err : Int), .int .u64 (r.val : Int), .slice lao r.ls.length lcap]) (by simp [results, Tryz.results78, go_sem, k0, k1, k2, n3, n4]) rfl ⟨us', k, _, rfl, hs', hl', hu', by omega, hf'⟩
      · have dk : (x.k == 8) = false := by rw [beq_eq_false_iff_ne]; exact h8
        have dk2 : decide (x.k = 8) = false := decide_eq_false h8
        clear hno
        go_wp2_with fail
        go_region_held3 (fun w' => w'.cell? ⟨q.g, 2, none⟩ = some (.slice (some ⟨mg, 0, none⟩) l.length mcap) ∧ w'.cell? ⟨w.heap.size, 1, none⟩ = some (.int .i64 (i : Int)))
          (first | exact ⟨g2, c1⟩ | (refine ⟨?_, ?_⟩ <;> simp [World.cell?_setCell_ne, n8, n9, n10, n11, g2, c1]; done) | go_keep)
          (fail)
        all_goals (go_wp2_with fail)
        all_goals (obtain ⟨us', hs', hl', hu', hf'⟩ := (HX.out.below (below_drewN (Below.refl _ _) 1)).done (i := i) (.int .i64 (r.err : Int)) (.int .u64 (r.val : Int)) (.slice lao r.ls.length lcap))
        all_goals exact bodyPost_ret (v := .agg #[.int .i64 (r.err : Int), .int .u64 (r.val : Int), .slice lao r.ls.length lcap]) (by simp [results, Tryz.results78, go_sem, k0, k1, k2, n3, n4]) rfl ⟨us', k, _, rfl, hs', hl', hu', by omega, hf'⟩
end Go.Proofs.YtjjleghalajidaaGreat
