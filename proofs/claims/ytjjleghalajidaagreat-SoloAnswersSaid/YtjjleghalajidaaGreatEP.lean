/- The reference of solo: Do. -/
import Derived.Test.YtjjleghalajidaaGreatGE6
import Derived.Deep.CutRange
import Derived.Deep.RegionHeld3
namespace Go.Proofs.YtjjleghalajidaaGreat
open Go.ChangeShapes Go.WideShapes Go.ChangeAt Go.RowKit Go.Maps
set_option linter.unusedVariables false
set_option linter.unusedSimpArgs false
set_option maxRecDepth 100000

abbrev dnO (a s : Value) : Obj := .cells #[a, s] 52
/-- in the middle of a call -/
structure RxAt (V : World) (l : List Tb.SpecL) (d7 lb : Nat) (av : Value) (mg mcap : Nat) (us : List Value) (s : SoS) (az : List MdR) (lst : List (MdR × Value)) (th ob kd a b c : Int) (x : Tb.SpecL) (b11 b12 b15 B : Nat) (v14 lv : Value) (r : MdR) : Prop where
  rf : RfAt V l d7 lb av (.slice (some ⟨mg, 0, none⟩) l.length mcap) l.length us s az lst
  box : V.heap[b11]? = some (callO th ob kd a b c)
  spc : V.cell? ⟨b12, 0, none⟩ = some (.int .i64 x.k) ∧ V.cell? ⟨b12, 1, none⟩ = some (.int .i64 x.p) ∧ V.cell? ⟨b12, 2, none⟩ = some (.int .i64 x.q)
  ans : V.cell? ⟨b15, 0, none⟩ = some (.int .i64 (r.err : Int)) ∧ V.cell? ⟨b15, 1, none⟩ = some (.int .u64 (r.val : Int)) ∧ V.cell? ⟨b15, 2, none⟩ = some lv
  st : ArgB V B v14 r.st ∧ Room v14
  ls : ArgB V B lv r.ls
  lo : d7 < b11 ∧ lb < b11 ∧ mg < b11 ∧ b11 < b12 ∧ b12 < B ∧ B ≤ b15
  ab : ∀ b', av.ownBlock = some b' → b' < b11
section
variable {w V V' : World} {l : List Tb.SpecL} {d7 lb : Nat} {av : Value} {mg mcap : Nat} {us : List Value} {s : SoS} {az : List MdR} {lst : List (MdR × Value)} {th ob kd a b c : Int} {x : Tb.SpecL} {b11 b12 b15 B : Nat} {v14 lv : Value} {r : MdR}
theorem RxAt.below (h : RxAt V l d7 lb av mg mcap us s az lst th ob kd a b c x b11 b12 b15 B v14 lv r) (hb : Below V.heap.size V V') : RxAt V' l d7 lb av mg mcap us s az lst th ob kd a b c x b11 b12 b15 B v14 lv r :=
  ⟨h.rf.below hb, (hb.block _ (blk_lt h.box)).trans h.box,
    ⟨(hb.cell (World.block_lt_of_cell? V _ h.spc.1)).trans h.spc.1, (hb.cell (World.block_lt_of_cell? V _ h.spc.2.1)).trans h.spc.2.1, (hb.cell (World.block_lt_of_cell? V _ h.spc.2.2)).trans h.spc.2.2⟩,
    ⟨(hb.cell (World.block_lt_of_cell? V _ h.ans.1)).trans h.ans.1, (hb.cell (World.block_lt_of_cell? V _ h.ans.2.1)).trans h.ans.2.1, (hb.cell (World.block_lt_of_cell? V _ h.ans.2.2)).trans h.ans.2.2⟩,
    ⟨h.st.1.below hb, h.st.2⟩, h.ls.below hb, h.lo, h.ab⟩
/-- a store into an elder block of the call's own -/
theorem RxAt.hit {us' : List Value} {s' : SoS} (h : RxAt V l d7 lb av mg mcap us s az lst th ob kd a b c x b11 b12 b15 B v14 lv r) {g : Nat} (hg : g < b11) (j : Nat) (u : Value) (hr : RfAt (V.setCell ⟨g, j, none⟩ u) l d7 lb av (.slice (some ⟨mg, 0, none⟩) l.length mcap) l.length us' s' az lst) : RxAt (V.setCell ⟨g, j, none⟩ u) l d7 lb av mg mcap us' s' az lst th ob kd a b c x b11 b12 b15 B v14 lv r := by
  have hlo := h.lo
  have hk : ∀ b', b' ≠ g → (V.setCell ⟨g, j, none⟩ u).heap[b']? = V.heap[b']? := fun b' hb => Below.heap_setCell _ _ _ _ hb
  have hc : ∀ (b' o : Nat) (v : Value), b' ≠ g → V.cell? ⟨b', o, none⟩ = some v → (V.setCell ⟨g, j, none⟩ u).cell? ⟨b', o, none⟩ = some v := fun b' o v hne hv => (World.cell?_of_block (a := ⟨b', o, none⟩) (hk b' hne)).trans hv
  exact ⟨hr, (hk _ (by omega)).trans h.box, ⟨hc _ _ _ (by omega) h.spc.1, hc _ _ _ (by omega) h.spc.2.1, hc _ _ _ (by omega) h.spc.2.2⟩, ⟨hc _ _ _ (by omega) h.ans.1, hc _ _ _ (by omega) h.ans.2.1, hc _ _ _ (by omega) h.ans.2.2⟩,
    ⟨h.st.1.keepE (fun b' hb' => hk b' (by have := (h.st.1.blk hb').1; omega)), h.st.2⟩, h.ls.keepE (fun b' hb' => hk b' (by have := (h.ls.blk hb').1; omega)), h.lo, h.ab⟩
theorem RxAt.took {ms : List (List Nat)} {la : List Int} (h : RxAt V l d7 lb av mg mcap us ⟨ms, la⟩ az lst th ob kd a b c x b11 b12 b15 B v14 lv r) (i : Nat) (z : Int) : RxAt (V.setCell ⟨lb, i, none⟩ (.int .i64 z)) l d7 lb av mg mcap us ⟨ms, la.set i z⟩ az lst th ob kd a b c x b11 b12 b15 B v14 lv r :=
  h.hit h.lo.2.1 i _ (h.rf.setLast i z)
theorem RxAt.stored {ms : List (List Nat)} {la : List Int} (h : RxAt V l d7 lb av mg mcap us ⟨ms, la⟩ az lst th ob kd a b c x b11 b12 b15 B v14 lv r) (i : Nat) : RxAt (V.setCell ⟨mg, i, none⟩ v14) l d7 lb av mg mcap (us.set i v14) ⟨ms.set i r.st, la⟩ az lst th ob kd a b c x b11 b12 b15 B v14 lv r := by
  have hlo := h.lo
  exact h.hit h.lo.2.2.1 i _ (h.rf.setModel i (h.st.1.mono (by omega)) h.st.2 (fun b' hb' => by have := (h.st.1.blk hb').1; omega) (fun b' hb' e => by have := (h.st.1.blk hb').1; have := h.ab b' e; omega))
theorem RxAt.done {w6 : World} {g6 cap6 : Nat} (h : RxAt V l d7 lb av mg mcap us s az lst th ob kd a b c x b11 b12 b15 B v14 lv r)
    (hrow : w6.ownsRow (lb + 1) 57 3 (.slice (some ⟨g6, 0, none⟩) (az.length + 1) cap6) (az.length + 1) (ansVs lst ++ [.int .i64 (r.err : Int), .int .u64 (r.val : Int), lv])) (hg : (V.alloc (.cells #[.int .i64 (r.err : Int), .int .u64 (r.val : Int), lv] 57)).grownBy w6 av.ownBlock) (hl : av.ownBlock = some g6 ∨ g6 = V.heap.size + 1) :
    RfAt (w6.setCell ⟨d7, 0, none⟩ (.slice (some ⟨g6, 0, none⟩) (az.length + 1) cap6)) l d7 lb (.slice (some ⟨g6, 0, none⟩) (az.length + 1) cap6) (.slice (some ⟨mg, 0, none⟩) l.length mcap) l.length us s (az ++ [⟨[], r.err, r.val, r.ls⟩]) (lst ++ [(⟨[], r.err, r.val, r.ls⟩, lv)]) := by
  have hlo := h.lo
  exact h.rf.ans (a := ⟨[], r.err, r.val, r.ls⟩) (h.ls.mono (by omega)) hrow hg hl (fun b' hb' e => by have := (h.ls.blk hb').1; have := h.ab b' e; omega) (fun b' hb' e => by have := (h.ls.blk hb').1; simp only [Value.ownBlock, Option.some.injEq] at e; omega)
/-- one answer more, that has no list -/
theorem RfAt.plainAns {sv : Value} {w6 : World} {g6 cap6 : Nat} {rn : Nat} (h : RfAt V l d7 lb av sv rn us s az lst) (er : Nat)
    (hrow : w6.ownsRow (lb + 1) 57 3 (.slice (some ⟨g6, 0, none⟩) (az.length + 1) cap6) (az.length + 1) (ansVs lst ++ [.int .i64 (er : Int), .int .u64 0, .slice none 0 0])) (hg : (V.alloc (.cells #[.int .i64 (er : Int), .int .u64 0, .slice none 0 0] 57)).grownBy w6 av.ownBlock) (hl : av.ownBlock = some g6 ∨ g6 = V.heap.size + 1) :
    RfAt (w6.setCell ⟨d7, 0, none⟩ (.slice (some ⟨g6, 0, none⟩) (az.length + 1) cap6)) l d7 lb (.slice (some ⟨g6, 0, none⟩) (az.length + 1) cap6) sv rn us s (az ++ [⟨[], er, 0, []⟩]) (lst ++ [(⟨[], er, 0, []⟩, .slice none 0 0)]) :=
  h.ans (a := ⟨[], er, 0, []⟩) (ArgB.nil _ _) hrow hg hl (fun b' hb' e => by cases hb') (fun b' hb' e => by cases hb')
theorem RfAt.behind {sv : Value} {w6 : World} {rn : Nat} (h : RfAt V l d7 lb av sv rn us s az lst) (o : Obj) {row : Option Nat} (hg : (V.alloc o).grownBy w6 row) (hr : ∀ b', row = some b' → lb < b') : w6.cell? ⟨d7, 0, none⟩ = some av ∧ w6.cell? ⟨d7, 1, none⟩ = some sv ∧ w6.frozen? ⟨d7, 0, none⟩ = false ∧ w6.frozen? ⟨d7, 1, none⟩ = false := by
  have hd := h.lt.1
  have hdl := h.dl
  have e : w6.heap[d7]? = V.heap[d7]? := (hg.block _ (by simp; omega) (fun e => by have := hr d7 e.symm; omega)).trans (Below.heap_alloc _ _ _ hd)
  have hst := e.trans h.st
  exact ⟨Tb.cell_of_blkT hst rfl, Tb.cell_of_blkT hst rfl, Tb.free_of_blkT hst, Tb.free_of_blkT hst⟩
theorem RfAt.lowSet {sv : Value} {rn : Nat} (h : RfAt V l d7 lb av sv rn us s az lst) {g : Nat} (hg : g < d7) (j : Nat) (u : Value) : RfAt (V.setCell ⟨g, j, none⟩ u) l d7 lb av sv rn us s az lst := by
  obtain ⟨hab, hsb, hap⟩ := h.blks
  have hdl := h.dl
  have hk : ∀ b', b' ≠ g → (V.setCell ⟨g, j, none⟩ u).heap[b']? = V.heap[b']? := fun b' hb => Below.heap_setCell _ _ _ _ hb
  exact ⟨(hk _ (by omega)).trans h.st, ⟨h.an.eq, ownsRow_setCell_other h.an.row (fun e => by have := (hab _ e).1; simp at this; omega) _, h.an.ls.keepE (fun p hp b' hb => hk b' (by have := (h.an.ls p hp).blk hb; omega)), h.an.off⟩, ownsRow_setCell_other h.row (fun e => by have := (hsb _ e).1; simp at this; omega) _, h.ws.keepE (fun u' hu' b' hb => hk b' (by have := h.ws.lt hu' hb; omega)), ownsRow_setCell_other h.la (fun e => by simp only [Value.ownBlock, Option.some.injEq] at e; omega) _, h.o1, h.o2, h.o4, h.dl⟩
structure RxC (V : World) (d7 : Nat) (av : Value) (mg mcap len : Nat) (th ob kd a b c : Int) (x : Tb.SpecL) (b11 b12 b15 : Nat) (er vl : Int) (lv : Value) : Prop where
  g0 : V.cell? ⟨d7, 0, none⟩ = some av
  g1 : V.cell? ⟨d7, 1, none⟩ = some (.slice (some ⟨mg, 0, none⟩) len mcap)
  f0 : V.frozen? ⟨d7, 0, none⟩ = false
  c0 : V.cell? ⟨b11, 0, none⟩ = some (.int .i64 th)
  c1 : V.cell? ⟨b11, 1, none⟩ = some (.int .i64 ob)
  c2 : V.cell? ⟨b11, 2, none⟩ = some (.int .i64 kd)
  s0 : V.cell? ⟨b12, 0, none⟩ = some (.int .i64 x.k)
  s1 : V.cell? ⟨b12, 1, none⟩ = some (.int .i64 x.p)
  q0 : V.cell? ⟨b15, 0, none⟩ = some (.int .i64 er)
  q1 : V.cell? ⟨b15, 1, none⟩ = some (.int .u64 vl)
  q2 : V.cell? ⟨b15, 2, none⟩ = some lv
theorem RxAt.cells (h : RxAt V l d7 lb av mg mcap us s az lst th ob kd a b c x b11 b12 b15 B v14 lv r) : RxC V d7 av mg mcap l.length th ob kd a b c x b11 b12 b15 (r.err : Int) (r.val : Int) lv := by
  obtain ⟨g0, g1, f0, _⟩ := h.rf.cells
  exact ⟨g0, g1, f0, Tb.cell_of_blkT h.box rfl, Tb.cell_of_blkT h.box rfl, Tb.cell_of_blkT h.box rfl, h.spc.1, h.spc.2.1, h.ans.1, h.ans.2.1, h.ans.2.2⟩
end
theorem new2_cells (w : World) (x y : Value) (t : TypeId) : (w.alloc (.cells #[x, y] t)).cell? ⟨w.heap.size, 0, none⟩ = some x ∧ (w.alloc (.cells #[x, y] t)).cell? ⟨w.heap.size, 1, none⟩ = some y :=
  ⟨Tb.cell_of_blkT (heap_alloc_new _ _) rfl, Tb.cell_of_blkT (heap_alloc_new _ _) rfl⟩
def DoP (n : Int) (l : List Tb.SpecL) (cs : List CallM) (w : World) (e : Ending) (w' : World) : Prop :=
  ∃ av sv us lst d7 lb, e = .returned (.agg #[av, sv]) ∧ RfAt w' l d7 lb av sv l.length us (soAll n l cs).1 (soAll n l cs).2 lst ∧ Below w.heap.size w w'
set_option maxHeartbeats 16000000 in
theorem do_any (n : Int) (sao cao : Option Addr) (sb so sc cb co cc : Nat) (l : List Tb.SpecL) (cs : List CallM) (w : World) (h : SoArgs w sao cao sb so cb co l cs) (hok : soErr n l cs = 0) :
    Calls Tryz.prog 18 #[.int .i64 n, .slice sao l.length sc, .slice cao cs.length cc] w (DoP n l cs w) := by
  obtain ⟨iI, ia, ib, ic, id⟩ := info_parts infoS
  obtain ⟨iA, ja, jb, jc, jd⟩ := info_parts infoAns
  obtain ⟨h1, hcl, h3, h4⟩ := soErr_ok hok
  obtain ⟨_, hl8, hall, _⟩ := laErr_ok h4
  have hn16 := h1.2
  have HALL := Lib.hid hall
  have HTH := Lib.hid (thrOk_mem h3)
  have HCX := Lib.hid h.cx
  have HARG := Lib.hid h
  have HSA := Lib.hid h.sa
  have HCA := Lib.hid h.ca
  have HSL : Hid (0 < l.length → sb < w.heap.size) := Lib.hid (fun hl => specs_lt h.sp hl)
  have HCLT : Hid (0 < cs.length → cb < w.heap.size) := Lib.hid (fun hl => h.cp.lt hl)
  have hmk : ∀ w : World, (Instr.makeSlice 24 (.int .i64 (l.length : Int)) (.int .i64 (l.length : Int))).run Tryz.prog w = .ok (.slice (some ⟨w.heap.size, 0, none⟩) l.length l.length) (w.alloc (.cells (Array.replicate l.length (.int .i64 0)) 3)) := run_mkE l.length (by omega)
  obtain ⟨w1, hw1⟩ : ∃ w1, w1 = w.alloc (dnO (.slice none 0 0) (.slice none 0 0)) := ⟨_, rfl⟩
  have hs1 : w1.heap.size = w.heap.size + 1 := by rw [hw1, World.size_alloc]
  have HW1 := Lib.hid hw1
  have HS1 := Lib.hid hs1
  have HST : Hid (RfAt ((w1.alloc (dnO (.slice none 0 0) (.slice none 0 0))).alloc (.cells (Array.replicate l.length (.int .i64 0)) 3)) l (w.heap.size + 1) (w.heap.size + 1 + 1) (.slice none 0 0) (.slice none 0 0) 0 [] ⟨[], laJ l.length 0⟩ [] []) := Lib.hid (by
    refine ⟨?_, AnsW.none' _ _, World.ownsRow_nil _ _ _ _, WsAt.nil _ _, ?_, Off.nil _, Off.nil _, Off.nil _, by omega⟩
    · rw [← hs1]; exact (Below.heap_alloc _ _ _ (by simp)).trans (heap_alloc_new _ _)
    · have := World.ownsRow_lit (base := w.heap.size + 1 + 1) (e := 3) (size := 1) (w1.alloc (dnO (.slice none 0 0) (.slice none 0 0))) (Array.replicate l.length (.int .i64 0)) l.length (by simp; omega) (by unfold maxLen; omega) (by simp)
      rw [laJ_zero]
      unfold intVs
      rw [List.map_replicate]
      have e : (w1.alloc (dnO (.slice none 0 0) (.slice none 0 0))).heap.size = w.heap.size + 1 + 1 := by simp; omega
      rw [e] at this
      simpa using this)
  have HB1 : Hid (Below (w.heap.size + 1) w1 ((w1.alloc (dnO (.slice none 0 0) (.slice none 0 0))).alloc (.cells (Array.replicate l.length (.int .i64 0)) 3))) := Lib.hid (((Below.refl _ _).alloc (by omega) _).alloc (by simp; omega) _)
  have HWW : Hid (Below w.heap.size w w1) := Lib.hid (by rw [hw1]; exact (Below.refl _ _).alloc (Nat.le_refl _) _)
  rw [hw1] at HST HB1
  clear h hok h1 h3 h4 hall hs1 hw1
  go_enter Tryz.func18, Tryz.ntmps18
  go_wp2_with fail
  go_loopw [22] (fun kk wr => ∃ (j : Nat) (sv : Value) (us : List Value), j ≤ l.length ∧ kk = .int .i64 j ∧ Hid (RfAt wr l (w.heap.size + 1) (w.heap.size + 1 + 1) (.slice none 0 0) sv j us ⟨(soNew n l).ms.take j, laJ l.length j⟩ [] []) ∧ Hid (Below (w.heap.size + 1) w1 wr)) (fun kk _ => l.length - (intOf kk).toNat)
  case atStart => exact ⟨0, .slice none 0 0, [], Nat.zero_le _, rfl, HST, by rw [HW1.out]; exact HB1⟩
  case round =>
    obtain ⟨j, sv, us, hj, rfl, HS, HB⟩ := hrel
    by_cases hlt : j < l.length
    · obtain rfl := HSA.out (by omega)
      obtain ⟨x, hx⟩ : ∃ x, l[j]? = some x := ⟨l[j], List.getElem?_eq_getElem (by omega)⟩
      have hsl := HSL.out (by omega)
      have hBW : Below w.heap.size w wr := HWW.out.trans (HB.out.mono (by have := HS1.out; omega))
      obtain ⟨c0, c1, c2⟩ := HARG.out.sp.stays hBW (fun _ => hsl) j x hx
      have hx0 := HALL.out x (List.mem_of_getElem? hx)
      have HN := Lib.hid (fun W => rnewO_any n x.k x.p x.q hx0 W)
      have hTK : Hid ((soNew n l).ms.take (j + 1) = (soNew n l).ms.take j ++ [mdNew n x.k x.p]) := Lib.hid (take_snoc (by simp [soNew, hx]))
      have hLS : Hid ((laJ l.length j).set j (-1) = laJ l.length (j + 1)) := Lib.hid (laJ_set hlt)
      obtain ⟨nm, hnm⟩ : ∃ nm, mdNew n x.k x.p = nm := ⟨_, rfl⟩
      rw [hnm] at HN hTK
      obtain ⟨sao', sg, scap, rfl, _, _, _, _⟩ := owns_open HS.out.row
      obtain ⟨g0, g1, f0, f1⟩ := HS.out.cells
      have hdlt := HS.out.lt
      have hsz := hBW.size
      have hslr : sb < wr.heap.size := by omega
      have hd7 := hdlt.1
      have hgl : w.heap.size + 1 < wr.heap.size := hd7
      obtain ⟨z, hz⟩ := laJ_get (n := l.length) (j := j) (i := j) hlt hj
      have HZL := Lib.hid hz
      clear hx hx0 hnm hBW hdlt hd7 hz
      unfold Tb.specV at HN
      go_upto_region 6 with fail
      go_cut [22] from 23 to 35 (fun kk wx => kk = .int .i64 j ∧ ∃ (sv : Value) (us : List Value), Hid (RfAt wx l (w.heap.size + 1) (w.heap.size + 1 + 1) (.slice none 0 0) sv (j + 1) us ⟨(soNew n l).ms.take (j + 1), laJ l.length j⟩ [] []) ∧ Hid (Below (w.heap.size + 1) w1 wx))
      case first =>
        refine wp_region_tail (S := (fun w' => w'.cell? ⟨w.heap.size + 1, 1, none⟩ = some (.slice sao' j scap) ∧ w'.cell? ⟨sb, so + j * 3, none⟩ = some (.int .i64 x.k) ∧ w'.cell? ⟨sb, so + j * 3 + 1, none⟩ = some (.int .i64 x.p) ∧ w'.cell? ⟨sb, so + j * 3 + 2, none⟩ = some (.int .i64 x.q))) 11 (by kernel_rfl) (by kernel_rfl) ?_ (fun hHeld => ?_)
        · first | with_reducible exact ⟨g1, c0, c1, c2⟩ | go_keep
        simp only [List.take_succ_cons, List.take_zero]
        refine wpAnyH_take (i := 0) (oi := _) (v := ?v0) rfl (by kernel_rfl) (by kernel_rfl) (by kernel_rfl) (fun _ _ _ h => h) (Or.inl ⟨by kernel_rfl, ?vy0⟩) (by assumption) ?vr0
        case vy0 => (intro w hSw; (try dsimp only at hSw); go_simp <;> with_reducible rfl)
        try simp only [Act.put, List.getElem_toArray, List.getElem_cons_zero, List.getElem_cons_succ, List.setIfInBounds_toArray, List.set_cons_zero, List.set_cons_succ]
        refine wpAnyH_take (i := 1) (oi := _) (v := ?v1) rfl (by kernel_rfl) (by kernel_rfl) (by kernel_rfl) (fun _ _ _ h => h) (Or.inl ⟨by kernel_rfl, ?vy1⟩) (by assumption) ?vr1
        case vy1 => (intro w hSw; (try dsimp only at hSw); go_simp <;> with_reducible rfl)
        try simp only [Act.put, List.getElem_toArray, List.getElem_cons_zero, List.getElem_cons_succ, List.setIfInBounds_toArray, List.set_cons_zero, List.set_cons_succ]
        refine wpAnyH_take (i := 2) (oi := _) (v := ?v2) rfl (by kernel_rfl) (by kernel_rfl) (by kernel_rfl) (fun _ _ _ h => h) (Or.inl ⟨by kernel_rfl, ?vy2⟩) (by assumption) ?vr2
        case vy2 => (intro w hSw; (try dsimp only at hSw); go_simp <;> with_reducible rfl)
        try simp only [Act.put, List.getElem_toArray, List.getElem_cons_zero, List.getElem_cons_succ, List.setIfInBounds_toArray, List.set_cons_zero, List.set_cons_succ]
        refine wpAnyH_take (i := 3) (oi := _) (v := ?v3) rfl (by kernel_rfl) (by kernel_rfl) (by kernel_rfl) (fun _ _ _ h => h) (Or.inl ⟨by kernel_rfl, ?vy3⟩) (by assumption) ?vr3
        case vy3 => (intro w hSw; (try dsimp only at hSw); go_simp <;> with_reducible rfl)
        try simp only [Act.put, List.getElem_toArray, List.getElem_cons_zero, List.getElem_cons_succ, List.setIfInBounds_toArray, List.set_cons_zero, List.set_cons_succ]
        refine wpAnyH_take (i := 4) (oi := _) (v := ?v4) rfl (by kernel_rfl) (by kernel_rfl) (by kernel_rfl) (fun _ _ _ h => h) (Or.inl ⟨by kernel_rfl, ?vy4⟩) (by assumption) ?vr4
        case vy4 => (intro w hSw; (try dsimp only at hSw); go_simp <;> with_reducible rfl)
        try simp only [Act.put, List.getElem_toArray, List.getElem_cons_zero, List.getElem_cons_succ, List.setIfInBounds_toArray, List.set_cons_zero, List.set_cons_succ]
        refine wpAnyH_take (i := 5) (oi := _) (v := ?v5) rfl (by kernel_rfl) (by kernel_rfl) (by kernel_rfl) (fun _ _ _ h => h) (Or.inl ⟨by kernel_rfl, ?vy5⟩) (by assumption) ?vr5
        case vy5 => (intro w hSw; (try dsimp only at hSw); go_simp <;> with_reducible rfl)
        try simp only [Act.put, List.getElem_toArray, List.getElem_cons_zero, List.getElem_cons_succ, List.setIfInBounds_toArray, List.set_cons_zero, List.set_cons_succ]
        refine wpAnyH_take (i := 6) (oi := _) (v := ?v6) rfl (by kernel_rfl) (by kernel_rfl) (by kernel_rfl) (fun _ _ _ h => h) (Or.inl ⟨by kernel_rfl, ?vy6⟩) (by assumption) ?vr6
        case vy6 => (intro w hSw; (try dsimp only at hSw); go_simp <;> with_reducible rfl)
        try simp only [Act.put, List.getElem_toArray, List.getElem_cons_zero, List.getElem_cons_succ, List.setIfInBounds_toArray, List.set_cons_zero, List.set_cons_succ]
        refine wpAnyH_ready (rs := [7]) (by kernel_rfl) (by simp) ?_
        refine AllReadyH.cons (o := _) rfl (fun K hK => ?_) AllReadyH.nil
        go_simp
        go_at_call 34
        (with_reducible refine (HN.out _).mono ?_)
        rintro e w5 ⟨v5, rfl, how, hb5⟩
        have hb50 : Below wr.heap.size wr w5 := (Below.refl _ _).drew.trans hb5
        have HS5 := Lib.hid (HS.out.below hb50)
        have HOF5 := Lib.hid (off_new (HS.out.row) how.argB (Nat.le_refl _))
        have HA5 := Lib.hid (how.argB.mono (show w.heap.size + 1 + 1 + 1 ≤ _ by have := HS.out.lt; simp; omega))
        have HR5 := Lib.hid how.room
        have HB5 := Lib.hid (HB.out.trans (hb50.mono (by omega)))
        obtain ⟨va, vc, rfl⟩ := how.arg.isSlice
        obtain ⟨_, y1, _, _⟩ := HS5.out.cells
        have y2 := (hb50.cell (p := ⟨sb, _, none⟩) hslr).trans c0
        have y3 := (hb50.cell (p := ⟨sb, _, none⟩) hslr).trans c1
        have y4 := (hb50.cell (p := ⟨sb, _, none⟩) hslr).trans c2
        have HSB5 : Hid (sb < w5.heap.size) := Lib.hid (Nat.lt_of_lt_of_le hslr hb50.size)
        have hlt5 := HS5.out.lt.1
        clear how hb5 hb50 g1 c0 c1 c2
        have g1 := y1
        have c0 := y2
        have c1 := y3
        have c2 := y4
        clear y1 y2 y3 y4
        refine hK.out _ _ ?_ (fun hHeld7 => ?_)
        · first | with_reducible exact ⟨g1, c0, c1, c2⟩ | go_keep
        clear hK K hHeld
        try simp only [Act.put, List.getElem_toArray, List.getElem_cons_zero, List.getElem_cons_succ, List.setIfInBounds_toArray, List.set_cons_zero, List.set_cons_succ]
        refine wpAnyH_ready (rs := [8]) (by kernel_rfl) (by simp) ?_
        refine AllReadyH.cons (o := _) rfl (fun K hK => ?_) AllReadyH.nil
        go_simp
        have u1 := (World.cell?_alloc_past (w := w5) (.cells #[.slice va nm.length vc] 37) _ _ (World.block_lt_of_cell? w5 _ g1)).trans g1
        have u2 := (World.cell?_alloc_past (w := w5) (.cells #[.slice va nm.length vc] 37) _ _ (World.block_lt_of_cell? w5 _ c0)).trans c0
        have u3 := (World.cell?_alloc_past (w := w5) (.cells #[.slice va nm.length vc] 37) _ _ (World.block_lt_of_cell? w5 _ c1)).trans c1
        have u4 := (World.cell?_alloc_past (w := w5) (.cells #[.slice va nm.length vc] 37) _ _ (World.block_lt_of_cell? w5 _ c2)).trans c2
        refine hK.out _ _ ?_ (fun hHeld8 => ?_)
        · first | with_reducible exact ⟨g1, c0, c1, c2⟩ | exact ⟨u1, u2, u3, u4⟩ | go_keep
        clear hK K hHeld7
        try simp only [Act.put, List.getElem_toArray, List.getElem_cons_zero, List.getElem_cons_succ, List.setIfInBounds_toArray, List.set_cons_zero, List.set_cons_succ]
        refine wpAnyH_ready (rs := [9]) (by kernel_rfl) (by simp) ?_
        refine AllReadyH.cons (o := _) rfl (fun K hK => ?_) AllReadyH.nil
        refine step_append_lie rfl _ _ 50 rfl (w.heap.size + 1 + 1 + 1) 37 iI (.slice none 0 0) 1 24 Tryz.underlying50 ia ib ic id rfl (by decide) (by decide) _ j _ rfl HS5.out.row [.slice va nm.length vc] rfl rfl (fun u hu => by rw [List.mem_singleton.1 hu]; rfl) (by omega) (by have := HS5.out.lt; omega) ?_
        intro g6 cap6 w6 hr6 hg6 hl6
        have HP6 := Lib.hid (HS5.out.push HA5.out HR5.out hr6 hg6 hl6 HOF5.out (fun b _ e => by cases e))
        have hrow6 : ∀ b, (Value.slice sao' j scap).ownBlock = some b → w.heap.size + 1 + 1 < b := fun b hb => by have := (HS5.out.row.lt b hb).1; omega
        obtain ⟨_, k1, _, f16⟩ := HS5.out.behind _ hg6 hrow6
        have HB6 : Hid (Below (w.heap.size + 1) w1 w6) := Lib.hid ((HB5.out.alloc (by have := HS5.out.lt; omega) _).grown hg6 (by have := HS5.out.lt; simp; omega) (fun b hb => by have := hrow6 b hb; omega))
        have hsb6 : w6.heap[sb]? = w5.heap[sb]? := (hg6.block _ (by have := HSB5.out; simp; omega) (fun e => by have := hrow6 sb e.symm; have := HSL.out; omega)).trans (Below.heap_alloc _ _ _ HSB5.out)
        have z2 := (World.cell?_of_block (a := ⟨sb, so + j * 3, none⟩) hsb6).trans c0
        have z3 := (World.cell?_of_block (a := ⟨sb, so + j * 3 + 1, none⟩) hsb6).trans c1
        have z4 := (World.cell?_of_block (a := ⟨sb, so + j * 3 + 2, none⟩) hsb6).trans c2
        clear hr6 hg6 hl6 u1 u2 u3 u4 hrow6 hsb6 g1 c0 c1 c2
        have g1 := k1
        have c0 := z2
        have c1 := z3
        have c2 := z4
        clear z2 z3 z4 k1
        refine hK.out _ _ ?_ (fun hHeld9 => ?_)
        · first | with_reducible exact ⟨g1, c0, c1, c2⟩ | go_keep
        clear hK K hHeld8
        try simp only [Act.put, List.getElem_toArray, List.getElem_cons_zero, List.getElem_cons_succ, List.setIfInBounds_toArray, List.set_cons_zero, List.set_cons_succ]
        refine wpAnyH_take (i := 10) (oi := _) (v := ?t10) rfl (by kernel_rfl) (by kernel_rfl) (by kernel_rfl) (fun _ _ _ h => h) (Or.inl ⟨by kernel_rfl, ?ty10⟩) (by assumption) ?tr10
        case ty10 => (intro w hSw; (try dsimp only at hSw); go_simp <;> with_reducible rfl)
        try simp only [Act.put, List.getElem_toArray, List.getElem_cons_zero, List.getElem_cons_succ, List.setIfInBounds_toArray, List.set_cons_zero, List.set_cons_succ]
        refine wpAnyH_done (by kernel_rfl) ?_ _
        dsimp only [tailQ]
        simp only [List.drop_succ_cons, List.drop_zero, List.take_succ_cons, List.take_zero, List.getElem_cons_succ, List.getElem_cons_zero, List.set_cons_zero, List.set_cons_succ]
        go_wp2_with fail
        go_meet
        exact ⟨rfl, _, _, by rw [hTK.out]; exact HP6, Lib.hid (HB6.out.setCell (Nat.le_refl _) _)⟩
      case rest =>
        obtain ⟨rfl, sv2, us2, HS2, HB2⟩ := hcut
        obtain ⟨p0, p1⟩ := HS2.out.last HZL.out
        go_wp2_with fail
        go_roundw
        case rel => exact ⟨j + 1, sv2, us2, by omega, by go_num, by rw [← hLS.out]; exact Lib.hid (HS2.out.setLast j (-1)), Lib.hid (HB2.out.setCell (by show _ ≤ w.heap.size + 1 + 1; omega) _)⟩
        case measure => simp [intOf]; omega
    · have hjl : j = l.length := by omega
      subst hjl
      have hS0 : Hid (RfAt wr l (w.heap.size + 1) (w.heap.size + 1 + 1) (.slice none 0 0) sv l.length us (soNew n l) [] []) := Lib.hid (by
        have e : (soNew n l).ms.take l.length = (soNew n l).ms := List.take_of_length_le (by simp [soNew])
        have := HS.out
        rw [e, laJ_all n l] at this; exact this)
      clear HS
      go_wp2
      go_loopw [42] (fun kk wr => ∃ (j : Nat) (av sv : Value) (us : List Value) (s : SoS) (az : List MdR) (lst : List (MdR × Value)), j ≤ cs.length ∧ kk = .int .i64 j ∧ Hid (az.length = j) ∧ Hid (RfAt wr l (w.heap.size + 1) (w.heap.size + 1 + 1) av sv l.length us s az lst) ∧ Hid (SoOk n l s j) ∧ Hid (soRun n l s az (cs.drop j) = soRun n l (soNew n l) [] cs) ∧ Hid (Below (w.heap.size + 1) w1 wr)) (fun kk _ => cs.length - (intOf kk).toNat)
      case atStart => exact ⟨0, .slice none 0 0, sv, us, soNew n l, [], [], Nat.zero_le _, rfl, Lib.hid rfl, hS0, Lib.hid (soOk_new HALL.out), Lib.hid rfl, HB⟩
      case round =>
        obtain ⟨j, av, sv, us, s, az, lst, hj, rfl, HAZ, HS, HO, hp, HB⟩ := hrel
        have hBW : Below w.heap.size w wr := HWW.out.trans (HB.out.mono (by have := HS1.out; omega))
        obtain ⟨g0, g1, f0, f1⟩ := HS.out.cells
        obtain ⟨hd7, hlbl⟩ := HS.out.lt
        obtain ⟨hab, hsb, hap⟩ := HS.out.blks
        have HAB := Lib.hid hab
        clear hab hap
        by_cases hlt : j < cs.length
        · obtain rfl := HCA.out (by omega)
          obtain ⟨x, hx⟩ : ∃ x, cs[j]? = some x := ⟨cs[j], List.getElem?_eq_getElem (by omega)⟩
          have hcb := HCLT.out (by omega)
          obtain ⟨c0, c1, c2, c3, c4, c5⟩ := HARG.out.cp.stays hBW (fun _ => hcb) j x hx
          have hx1 := HCX.out x (List.mem_of_getElem? hx)
          have hx2 := HTH.out x (List.mem_of_getElem? hx)
          have hd := Lib.hid (drop_callsM hx)
          have HO2 : Hid (SoOk n l (soStep n l s x).1 (j + 1)) := Lib.hid (HO.out.step HALL.out hx1 hx2)
          have HP2 : ∀ s2 a2, soStep n l s x = (s2, a2) → Hid (soRun n l s2 (az ++ [a2]) (cs.drop (j + 1)) = soRun n l (soNew n l) [] cs) := fun s2 a2 hst => Lib.hid (by rw [← hp.out, hd.out, soRun_next hst])
          have HPP := Lib.hid HP2
          have HX1 := Lib.hid hx1
          have HX2 := Lib.hid hx2
          have HBWW := Lib.hid hBW
          obtain ⟨avo, avg, avc, rfl, _, _, _, _⟩ := owns_open HS.out.an.row
          have HS1b := Lib.hid (HS.out.alloc (.cells #[.int .i64 x.th, .int .i64 x.ob, .int .i64 x.kd, .int .u64 (x.a : Int), .int .u64 (x.b : Int), .int .u64 (x.c : Int)] 65))
          have hszW := hBW.size
          have HJ2 : ∀ (k : Nat) (a2 : MdR), (az ++ [a2]).length = az.length + 1 := fun _ a2 => by simp
          have HAZ2 : ∀ a2 : MdR, Hid ((az ++ [a2]).length = j + 1) := fun a2 => Lib.hid (by rw [List.length_append, HAZ.out]; rfl)
          clear hx hx1 hx2 hp hd HP2 hBW HJ2
          have HBX0 : Hid ((wr.alloc (.cells #[.int .i64 x.th, .int .i64 x.ob, .int .i64 x.kd, .int .u64 (x.a : Int), .int .u64 (x.b : Int), .int .u64 (x.c : Int)] 65)).heap[wr.heap.size]? = some (callO x.th x.ob x.kd (x.a : Int) (x.b : Int) (x.c : Int))) := Lib.hid (heap_alloc_new _ _)
          have HB00 : Hid (Below wr.heap.size wr (wr.alloc (.cells #[.int .i64 x.th, .int .i64 x.ob, .int .i64 x.kd, .int .u64 (x.a : Int), .int .u64 (x.b : Int), .int .u64 (x.c : Int)] 65))) := Lib.hid ((Below.refl _ _).alloc (Nat.le_refl _) _)
          have HZ00 : Hid ((wr.alloc (.cells #[.int .i64 x.th, .int .i64 x.ob, .int .i64 x.kd, .int .u64 (x.a : Int), .int .u64 (x.b : Int), .int .u64 (x.c : Int)] 65)).heap.size = wr.heap.size + 1) := Lib.hid (World.size_alloc _ _)
          go_upto_region 13 with fail
          generalize hw0 : wr.alloc (.cells #[.int .i64 x.th, .int .i64 x.ob, .int .i64 x.kd, .int .u64 (x.a : Int), .int .u64 (x.b : Int), .int .u64 (x.c : Int)] 65) = W0 at *
          clear hw0 g0 g1 f0 f1 c0 c1 c2 c3 c4 c5
          have HB0 : Hid (Below (w.heap.size + 1) w1 W0) := Lib.hid (HB.out.trans (HB00.out.mono (by omega)))
          obtain ⟨g0, g1, f0, f1⟩ := HS1b.out.cells
          have c0 := Tb.cell_of_blkT (k := 0) HBX0.out rfl
          have c1 := Tb.cell_of_blkT (k := 1) HBX0.out rfl
          have c2 := Tb.cell_of_blkT (k := 2) HBX0.out rfl
          have c3 := Tb.cell_of_blkT (k := 3) HBX0.out rfl
          have c4 := Tb.cell_of_blkT (k := 4) HBX0.out rfl
          have c5 := Tb.cell_of_blkT (k := 5) HBX0.out rfl
          by_cases hin : 0 ≤ x.ob ∧ x.ob < l.length
          case neg =>
            have hst : soStep n l s x = (s, ⟨[], 12, 0, []⟩) := by unfold soStep; rw [if_pos (show ¬ soIn l x from hin)]
            have HO3 : Hid (SoOk n l s (j + 1)) := Lib.hid (by have := HO2.out; rw [hst] at this; exact this)
            have HP3 := HPP.out _ _ hst
            have hbase : w.heap.size + 1 + 1 + 1 ≤ W0.heap.size := by have := HS1b.out.lt; omega
            clear hst HO2
            by_cases h0 : x.ob < 0
            · have d0 : decide (x.ob < 0) = true := decide_eq_true h0
              clear hin
              go_wp2_with (at_builtin; refine append_lie rfl _ _ 44 rfl (w.heap.size + 1 + 1 + 1) 57 iA (.agg #[.int .i64 0, .int .u64 0, .slice none 0 0]) 3 40 Tryz.underlying44 ja jb jc jd rfl (by decide) (by decide) _ az.length _ rfl (RfAt.an HS1b.out).row [.int .i64 12, .int .u64 0, .slice none 0 0] rfl rfl (fun u hu => by simp only [List.mem_cons, List.not_mem_nil, or_false] at hu; rcases hu with rfl | rfl | rfl <;> rfl) (by have := HAZ.out; omega) hbase ?_; intro g6 cap6 w6 hr6 hg6 hl6; (have HP6 := Lib.hid (RfAt.plainAns HS1b.out 12 hr6 hg6 hl6)); (obtain ⟨k0, _, f06, _⟩ := RfAt.behind HS1b.out _ hg6 (fun b hb => by have := (RfAt.blks HS1b.out).1 b hb; exact this.1)); (have HB6 : Hid (Below (w.heap.size + 1) w1 w6) := Lib.hid ((HB0.out.alloc (by have := (RfAt.lt HS1b.out).1; omega) _).grown hg6 (by have := (RfAt.lt HS1b.out).1; simp; omega) (fun b hb => by have := ((RfAt.blks HS1b.out).1 b hb).1; omega))); clear hr6 hg6 hl6 g0)
              go_roundw
              case rel => exact ⟨j + 1, _, _, us, s, _, _, by omega, by go_num, HAZ2 _, HP6, HO3, HP3, Lib.hid (HB6.out.setCell (Nat.le_refl _) _)⟩
              case measure => simp [intOf]; omega
            · have d0 : decide (x.ob < 0) = false := decide_eq_false h0
              have d1 : decide ((l.length : Int) ≤ x.ob) = true := decide_eq_true (by omega)
              clear hin
              go_wp2_with (at_builtin; refine append_lie rfl _ _ 44 rfl (w.heap.size + 1 + 1 + 1) 57 iA (.agg #[.int .i64 0, .int .u64 0, .slice none 0 0]) 3 40 Tryz.underlying44 ja jb jc jd rfl (by decide) (by decide) _ az.length _ rfl (RfAt.an HS1b.out).row [.int .i64 12, .int .u64 0, .slice none 0 0] rfl rfl (fun u hu => by simp only [List.mem_cons, List.not_mem_nil, or_false] at hu; rcases hu with rfl | rfl | rfl <;> rfl) (by have := HAZ.out; omega) hbase ?_; intro g6 cap6 w6 hr6 hg6 hl6; (have HP6 := Lib.hid (RfAt.plainAns HS1b.out 12 hr6 hg6 hl6)); (obtain ⟨k0, _, f06, _⟩ := RfAt.behind HS1b.out _ hg6 (fun b hb => by have := (RfAt.blks HS1b.out).1 b hb; exact this.1)); (have HB6 : Hid (Below (w.heap.size + 1) w1 w6) := Lib.hid ((HB0.out.alloc (by have := (RfAt.lt HS1b.out).1; omega) _).grown hg6 (by have := (RfAt.lt HS1b.out).1; simp; omega) (fun b hb => by have := ((RfAt.blks HS1b.out).1 b hb).1; omega))); clear hr6 hg6 hl6 g0)
              go_roundw
              case rel => exact ⟨j + 1, _, _, us, s, _, _, by omega, by go_num, HAZ2 _, HP6, HO3, HP3, Lib.hid (HB6.out.setCell (Nat.le_refl _) _)⟩
              case measure => simp [intOf]; omega
          case pos =>
            obtain ⟨i, hi⟩ : ∃ i : Nat, x.ob = i := ⟨x.ob.toNat, by omega⟩
            have hil : i < l.length := by omega
            have hob : x.ob.toNat = i := by omega
            obtain ⟨y, hy⟩ : ∃ y, l[i]? = some y := ⟨_, List.getElem?_eq_getElem hil⟩
            have hyd : l.getD i sp0 = y := getD_some' hy
            have hob2 := HO.out.ob i y hy
            have hok2 := HALL.out y (List.mem_of_getElem? hy)
            have hml := hob2.small hok2 (by omega)
            obtain ⟨r, hr⟩ : ∃ r, mdOp n y.k y.p y.q (s.ms.getD i []) x = r := ⟨_, rfl⟩
            have hsr : soR n l s x = r := by unfold soR; rw [hob, hyd, hr]
            have hstep0 : soStep n l s x = if soFull n l s x then (s, ⟨[], 6, 0, []⟩) else (⟨s.ms.set i r.st, if soTake n l s x then s.la.set i ((s.ms.getD i []).getD 0 0 : Nat) else s.la⟩, ⟨[], r.err, r.val, r.ls⟩) := by
              unfold soStep; rw [if_neg (not_not_intro (show soIn l x from hin)), hob, hsr]
            have hAP : ∀ (W : World) (v : Value), ArgW W v (s.ms.getD i []) → Calls Tryz.prog 36 #[.int .i64 n, Tb.specV y.k y.p y.q, v, callV x.th (i : Int) x.kd (x.a : Int) (x.b : Int) (x.c : Int)] W (ChP W.heap.size W r) := fun W v hA => by
              have := rapply_any n y.k y.p y.q (s.ms.getD i []) x v W hA hok2 hob2.is HX2.out HX1.out hob2.words (by omega)
              rw [hr] at this
              have e : x.v = callV x.th (i : Int) x.kd (x.a : Int) (x.b : Int) (x.c : Int) := by unfold CallM.v; rw [hi]
              rw [e] at this
              exact this
            obtain ⟨mg, mcap, u, rfl, hmg1, hmg2, hu, m0, mz, hA, hRoom⟩ := HS1b.out.model HO.out.lm hil
            obtain ⟨uao, ucap, rfl⟩ := hA.arg.isSlice
            have HU := Lib.hid hu
            have HAW := Lib.hid hA
            have HAP := Lib.hid hAP
            have HST0 := Lib.hid hstep0
            have HOB2 := Lib.hid hob2
            have HR0 := Lib.hid hr
            have HOBN := Lib.hid hob
            have HYD := Lib.hid hyd
            have HSR := Lib.hid hsr
            have HMG : mg < wr.heap.size := by have := hsb mg rfl; omega
            obtain ⟨sc0, sc1, sc2⟩ := HARG.out.sp.stays (HBWW.out.trans (HB00.out.mono hszW)) (fun hl => HSL.out hl) i y hy
            have hsao : sao = some ⟨sb, so, none⟩ := HSA.out (by omega)
            have hsbl : sb < w.heap.size := HSL.out (by omega)
            have d0 : decide (x.ob < 0) = false := decide_eq_false (by omega)
            have d1 : decide ((l.length : Int) ≤ x.ob) = false := decide_eq_false (by omega)
            have hii : x.ob = (i : Int) := hi
            rw [hi] at c1 HBX0 d0 d1
            have hil2 : (i : Int) < (l.length : Int) := by omega
            have HIL := Lib.hid hil
            have hz0 := HZ00.out
            have hs1' : sb < W0.heap.size := by omega
            have hs2' : wr.heap.size < W0.heap.size := by omega
            have hs3' : w.heap.size + 1 < W0.heap.size := by omega
            have hmlt : mg < W0.heap.size := hmg2
            subst hsao
            generalize hmm : s.ms.getD i [] = m at *
            have HMM := Lib.hid hmm
            clear hmm
            clear hi hob hy hyd hok2 hml hr hsr hstep0 hAP hu hA hRoom hin hob2 hii hz0 hil hsb
            go_upto_region 15 with fail
            go_cut [12, 13] from 43 to 75 (fun v12 v13 wx => ∃ (b12 : Nat), v12 = .pointer (some ⟨b12, 0, none⟩) ∧ v13 = .slice uao (m).length ucap ∧ Hid (W0.heap.size ≤ b12) ∧ Hid (wx.cell? ⟨b12, 0, none⟩ = some (.int .i64 y.k) ∧ wx.cell? ⟨b12, 1, none⟩ = some (.int .i64 y.p) ∧ wx.cell? ⟨b12, 2, none⟩ = some (.int .i64 y.q)) ∧ Hid (Below W0.heap.size W0 wx))
            case first =>
              go_region_held3 (fun w' => w'.cell? ⟨w.heap.size + 1, 1, none⟩ = some (.slice (some ⟨mg, 0, none⟩) l.length mcap) ∧ w'.cell? ⟨wr.heap.size, 1, none⟩ = some (.int .i64 (i : Int)) ∧ w'.cell? ⟨sb, so + i * 3, none⟩ = some (.int .i64 y.k) ∧ w'.cell? ⟨sb, so + i * 3 + 1, none⟩ = some (.int .i64 y.p) ∧ w'.cell? ⟨sb, so + i * 3 + 2, none⟩ = some (.int .i64 y.q) ∧ w'.cell? ⟨mg, i, none⟩ = some (.slice uao (m).length ucap))
                (first | exact ⟨g1, c1, sc0, sc1, sc2, m0⟩ | go_keep)
                (fail)
              all_goals (go_wp2_with fail; go_meet)
              all_goals first
                | exact ⟨W0.heap.size, rfl, rfl, Lib.hid (Nat.le_refl _), Lib.hid (new3_cells _ _ _ _ _), Lib.hid ((Below.refl _ _).drew.alloc (Nat.le_refl _) _)⟩
                | exact ⟨W0.heap.size, rfl, rfl, Lib.hid (Nat.le_refl _), Lib.hid (new3_cells _ _ _ _ _), Lib.hid (((Below.refl _ _).alloc (Nat.le_refl _) _).drew)⟩
                | exact ⟨W0.heap.size, rfl, rfl, Lib.hid (Nat.le_refl _), Lib.hid (new3_cells _ _ _ _ _), Lib.hid ((Below.refl _ _).alloc (Nat.le_refl _) _)⟩
            case rest =>
              obtain ⟨b12, rfl, rfl, HG12, HC12, HB12⟩ := hcut
              have HS2 := Lib.hid (HS1b.out.below HB12.out)
              have hcb2 := (HB12.out.block _ (blk_lt HBX0.out)).trans HBX0.out
              obtain ⟨t0, t1, t2⟩ := HC12.out
              have hlt12 := World.block_lt_of_cell? wc _ t0
              simp only at hlt12
              have e0 := Tb.cell_of_blkT (k := 0) hcb2 rfl
              have e1 := Tb.cell_of_blkT (k := 1) hcb2 rfl
              have e2 := Tb.cell_of_blkT (k := 2) hcb2 rfl
              have e3 := Tb.cell_of_blkT (k := 3) hcb2 rfl
              have e4 := Tb.cell_of_blkT (k := 4) hcb2 rfl
              have e5 := Tb.cell_of_blkT (k := 5) hcb2 rfl
              have HAW2 := Lib.hid (HAW.out.arg.below HB12.out)
              have HBC2 := Lib.hid hcb2
              have HB2 : Hid (Below (w.heap.size + 1) w1 wc) := Lib.hid (HB0.out.trans (HB12.out.mono (by omega)))
              have hb12w : wr.heap.size < b12 := by have := HG12.out; have := HZ00.out; omega
              have hwc0 : wr.heap.size < wc.heap.size := blk_lt hcb2
              clear hcb2 g0 g1 f0 f1 c0 c1 c2 c3 c4 c5 sc0 sc1 sc2 m0 mz
              generalize hW1 : wc = W1 at *
              clear hW1
              go_upto_region 17 with (go_at_call 36; refine (HAP.out _ _ HAW2.out).mono ?_; rintro e w3 ⟨v3, lv3, rfl, ⟨ho3, hr3⟩, ⟨hl3, hlr3⟩, hb3⟩; (obtain ⟨ao7, cap7, rfl⟩ := ho3.arg.isSlice); (obtain ⟨lao, lcap, rfl⟩ := hl3.arg.isSlice); (have HO3 := Lib.hid ho3); (have HL3 := Lib.hid hl3); (have HR3 := Lib.hid hr3); (have HB3 := Lib.hid hb3); clear ho3 hl3 hr3 hlr3 hb3 t0 t1 t2 e0 e1 e2 e3 e4 e5)
              obtain ⟨b15, hb15⟩ : ∃ b15, b15 = w3.heap.size := ⟨_, rfl⟩
              have HX : Hid (RxAt (w3.alloc (.cells #[.int .i64 (r.err : Int), .int .u64 (r.val : Int), .slice lao r.ls.length lcap] 57)) l (w.heap.size + 1) (w.heap.size + 1 + 1) (.slice avo az.length avc) mg mcap us s az lst x.th (i : Int) x.kd (x.a : Int) (x.b : Int) (x.c : Int) y wr.heap.size b12 b15 W1.heap.size (.slice ao7 r.st.length cap7) (.slice lao r.ls.length lcap) r) := Lib.hid (by
                have hBB : Below W1.heap.size W1 (w3.alloc (.cells #[.int .i64 (r.err : Int), .int .u64 (r.val : Int), .slice lao r.ls.length lcap] 57)) := HB3.out.alloc HB3.out.size _
                subst hb15
                exact ⟨HS2.out.below hBB, (hBB.block _ hwc0).trans HBC2.out, ⟨(hBB.cell (p := ⟨b12, 0, none⟩) hlt12).trans HC12.out.1, (hBB.cell (p := ⟨b12, 1, none⟩) hlt12).trans HC12.out.2.1, (hBB.cell (p := ⟨b12, 2, none⟩) hlt12).trans HC12.out.2.2⟩, new3_cells _ _ _ _ _, ⟨HO3.out.below ((Below.refl _ _).alloc (Nat.le_refl _) _), HR3.out⟩, HL3.out.below ((Below.refl _ _).alloc (Nat.le_refl _) _), ⟨by omega, by omega, HMG, hb12w, hlt12, HB3.out.size⟩, fun b' hb' => (HAB.out b' hb').2⟩)
              have HBV : Hid (Below (w.heap.size + 1) w1 (w3.alloc (.cells #[.int .i64 (r.err : Int), .int .u64 (r.val : Int), .slice lao r.ls.length lcap] 57))) := Lib.hid ((HB2.out.trans (HB3.out.mono (by omega))).alloc (by have := HB3.out.size; omega) _)
              rw [← hb15]
              generalize w3.alloc (.cells #[.int .i64 (r.err : Int), .int .u64 (r.val : Int), .slice lao r.ls.length lcap] 57) = V at *
              clear hb15 HO3 HL3 HB3 HS2 HBC2 HC12 HB12 HB2 hlt12 hwc0
              obtain ⟨g0, g1, f0, c0, c1, c2, s0, s1, q0, q1, q2⟩ := HX.out.cells
              have hlo := HX.out.lo
              obtain ⟨mg', mcap', u', hv', _, _, hu', mm0, mmz, hA', _⟩ := HX.out.rf.model HO.out.lm HIL.out
              obtain ⟨rfl, rfl⟩ : mg = mg' ∧ mcap = mcap' := by cases hv'; exact ⟨rfl, rfl⟩
              obtain rfl : u' = _ := Option.some.inj (hu'.symm.trans HU.out)
              rw [HMM.out] at hA'
              have HAV := Lib.hid hA'
              have n1 : w.heap.size + 1 ≠ mg := by omega
              have n2 : mg ≠ w.heap.size + 1 := by omega
              have n3 : wr.heap.size ≠ mg := by omega
              have n4 : mg ≠ wr.heap.size := by omega
              have n5 : b15 ≠ mg := by omega
              have n6 : mg ≠ b15 := by omega
              clear hv' hu' hA'
              by_cases h8 : y.k = 8
              case neg =>
                have dk : (y.k == 8) = false := by rw [beq_eq_false_iff_ne]; exact h8
                have dk2 : decide (y.k = 8) = false := decide_eq_false h8
                have hnf : ¬ soFull n l s x := fun hf => by unfold soFull at hf; rw [HOBN.out, HYD.out] at hf; exact h8 hf.1
                have hnt : ¬ soTake n l s x := fun hf => by unfold soTake at hf; rw [HOBN.out, HYD.out] at hf; exact h8 hf.1
                have hst : soStep n l s x = (⟨s.ms.set i r.st, s.la⟩, ⟨[], r.err, r.val, r.ls⟩) := by rw [HST0.out, if_neg hnf, if_neg hnt]
                clear hnf hnt
                obtain ⟨ms, la⟩ := s
                have HO3 := Lib.hid (HO2.out)
                have HP3 := HPP.out _ _ hst
                rw [hst] at HO3
                have HX25 := Lib.hid (HX.out.stored i)
                have HBV25 := Lib.hid (HBV.out.setCell (p := ⟨mg, i, none⟩) (show _ ≤ mg by omega) (.slice ao7 r.st.length cap7))
                clear hst HO2 HX HBV
                go_upto_region 26 with fail
                clear g0 g1 f0 c0 c1 c2 s0 s1 q0 q1 q2 mm0 mmz
                generalize V.setCell ⟨mg, i, none⟩ (.slice ao7 r.st.length cap7) = V25 at *
                obtain ⟨g0, g1, f0, c0, c1, c2, s0, s1, q0, q1, q2⟩ := HX25.out.cells
                go_wp2_with (at_builtin; refine append_lie rfl _ _ 44 rfl (w.heap.size + 1 + 1 + 1) 57 iA (.agg #[.int .i64 0, .int .u64 0, .slice none 0 0]) 3 40 Tryz.underlying44 ja jb jc jd rfl (by decide) (by decide) _ az.length _ rfl HX25.out.rf.an.row [.int .i64 (r.err : Int), .int .u64 (r.val : Int), .slice lao r.ls.length lcap] rfl rfl (fun u hu => by simp only [List.mem_cons, List.not_mem_nil, or_false] at hu; rcases hu with rfl | rfl | rfl <;> rfl) (by have := HAZ.out; omega) (by have := HX25.out.rf.lt.2; omega) ?_; intro g6 cap6 w6 hr6 hg6 hl6; (have HP6 := Lib.hid (HX25.out.done hr6 hg6 hl6)); (obtain ⟨k0, _, f06, _⟩ := HX25.out.rf.behind _ hg6 (fun b hb => ((HX25.out.rf.blks).1 b hb).1)); (have HB6 : Hid (Below (w.heap.size + 1) w1 w6) := Lib.hid ((HBV25.out.alloc (by have := HX25.out.rf.lt.1; omega) _).grown hg6 (by have := HX25.out.rf.lt.1; simp; omega) (fun b hb => by have := ((HX25.out.rf.blks).1 b hb).1; omega))); clear hr6 hg6 hl6 g0)
                go_roundw
                case rel => exact ⟨j + 1, _, _, _, _, _, _, by omega, by go_num, HAZ2 _, HP6, HO3, HP3, Lib.hid (HB6.out.setCell (Nat.le_refl _) _)⟩
                case measure => simp [intOf]; omega
              case pos =>
                have H8 := Lib.hid h8
                have dk : (y.k == 8) = true := by rw [h8]; rfl
                have dk2 : decide (y.k = 8) = true := decide_eq_true h8
                clear h8
                by_cases he : r.err = 0
                case neg =>
                  have de : ((r.err : Int) == 0) = false := by rw [beq_eq_false_iff_ne]; omega
                  have de2 : decide ((r.err : Int) = 0) = false := decide_eq_false (by omega)
                  have hnf : ¬ soFull n l s x := fun hf => by unfold soFull at hf; rw [HSR.out] at hf; exact he hf.2.1
                  have hnt : ¬ soTake n l s x := fun hf => by unfold soTake at hf; rw [HSR.out] at hf; exact he hf.2.1
                  have hst : soStep n l s x = (⟨s.ms.set i r.st, s.la⟩, ⟨[], r.err, r.val, r.ls⟩) := by rw [HST0.out, if_neg hnf, if_neg hnt]
                  clear hnf hnt he
                  by_cases hk0 : x.kd = 0
                  · have dq : (x.kd == 0) = true := by rw [hk0]; rfl
                    have dq2 : decide (x.kd = 0) = true := decide_eq_true hk0
                    have dq3 : (x.kd == 1) = false := by rw [hk0]; rfl
                    have dq4 : decide (x.kd = 1) = false := decide_eq_false (by omega)
                    clear hk0
                    obtain ⟨ms, la⟩ := s
                    have HO3 := Lib.hid (HO2.out)
                    have HP3 := HPP.out _ _ hst
                    rw [hst] at HO3
                    have HX25 := Lib.hid (HX.out.stored i)
                    have HBV25 := Lib.hid (HBV.out.setCell (p := ⟨mg, i, none⟩) (show _ ≤ mg by omega) (.slice ao7 r.st.length cap7))
                    clear hst HO2 HX HBV
                    go_upto_region 26 with fail
                    clear g0 g1 f0 c0 c1 c2 s0 s1 q0 q1 q2 mm0 mmz
                    generalize V.setCell ⟨mg, i, none⟩ (.slice ao7 r.st.length cap7) = V25 at *
                    obtain ⟨g0, g1, f0, c0, c1, c2, s0, s1, q0, q1, q2⟩ := HX25.out.cells
                    go_wp2_with (at_builtin; refine append_lie rfl _ _ 44 rfl (w.heap.size + 1 + 1 + 1) 57 iA (.agg #[.int .i64 0, .int .u64 0, .slice none 0 0]) 3 40 Tryz.underlying44 ja jb jc jd rfl (by decide) (by decide) _ az.length _ rfl HX25.out.rf.an.row [.int .i64 (r.err : Int), .int .u64 (r.val : Int), .slice lao r.ls.length lcap] rfl rfl (fun u hu => by simp only [List.mem_cons, List.not_mem_nil, or_false] at hu; rcases hu with rfl | rfl | rfl <;> rfl) (by have := HAZ.out; omega) (by have := HX25.out.rf.lt.2; omega) ?_; intro g6 cap6 w6 hr6 hg6 hl6; (have HP6 := Lib.hid (HX25.out.done hr6 hg6 hl6)); (obtain ⟨k0, _, f06, _⟩ := HX25.out.rf.behind _ hg6 (fun b hb => ((HX25.out.rf.blks).1 b hb).1)); (have HB6 : Hid (Below (w.heap.size + 1) w1 w6) := Lib.hid ((HBV25.out.alloc (by have := HX25.out.rf.lt.1; omega) _).grown hg6 (by have := HX25.out.rf.lt.1; simp; omega) (fun b hb => by have := ((HX25.out.rf.blks).1 b hb).1; omega))); clear hr6 hg6 hl6 g0)
                    go_roundw
                    case rel => exact ⟨j + 1, _, _, _, _, _, _, by omega, by go_num, HAZ2 _, HP6, HO3, HP3, Lib.hid (HB6.out.setCell (Nat.le_refl _) _)⟩
                    case measure => simp [intOf]; omega
                  · have dq : (x.kd == 0) = false := by rw [beq_eq_false_iff_ne]; exact hk0
                    have dq2 : decide (x.kd = 0) = false := decide_eq_false hk0
                    by_cases hk1 : x.kd = 1
                    · have dq3 : (x.kd == 1) = true := by rw [hk1]; rfl
                      have dq4 : decide (x.kd = 1) = true := decide_eq_true hk1
                      clear hk0 hk1
                      obtain ⟨ms, la⟩ := s
                      have HO3 := Lib.hid (HO2.out)
                      have HP3 := HPP.out _ _ hst
                      rw [hst] at HO3
                      have HX25 := Lib.hid (HX.out.stored i)
                      have HBV25 := Lib.hid (HBV.out.setCell (p := ⟨mg, i, none⟩) (show _ ≤ mg by omega) (.slice ao7 r.st.length cap7))
                      clear hst HO2 HX HBV
                      go_upto_region 26 with fail
                      clear g0 g1 f0 c0 c1 c2 s0 s1 q0 q1 q2 mm0 mmz
                      generalize V.setCell ⟨mg, i, none⟩ (.slice ao7 r.st.length cap7) = V25 at *
                      obtain ⟨g0, g1, f0, c0, c1, c2, s0, s1, q0, q1, q2⟩ := HX25.out.cells
                      go_wp2_with (at_builtin; refine append_lie rfl _ _ 44 rfl (w.heap.size + 1 + 1 + 1) 57 iA (.agg #[.int .i64 0, .int .u64 0, .slice none 0 0]) 3 40 Tryz.underlying44 ja jb jc jd rfl (by decide) (by decide) _ az.length _ rfl HX25.out.rf.an.row [.int .i64 (r.err : Int), .int .u64 (r.val : Int), .slice lao r.ls.length lcap] rfl rfl (fun u hu => by simp only [List.mem_cons, List.not_mem_nil, or_false] at hu; rcases hu with rfl | rfl | rfl <;> rfl) (by have := HAZ.out; omega) (by have := HX25.out.rf.lt.2; omega) ?_; intro g6 cap6 w6 hr6 hg6 hl6; (have HP6 := Lib.hid (HX25.out.done hr6 hg6 hl6)); (obtain ⟨k0, _, f06, _⟩ := HX25.out.rf.behind _ hg6 (fun b hb => ((HX25.out.rf.blks).1 b hb).1)); (have HB6 : Hid (Below (w.heap.size + 1) w1 w6) := Lib.hid ((HBV25.out.alloc (by have := HX25.out.rf.lt.1; omega) _).grown hg6 (by have := HX25.out.rf.lt.1; simp; omega) (fun b hb => by have := ((HX25.out.rf.blks).1 b hb).1; omega))); clear hr6 hg6 hl6 g0)
                      go_roundw
                      case rel => exact ⟨j + 1, _, _, _, _, _, _, by omega, by go_num, HAZ2 _, HP6, HO3, HP3, Lib.hid (HB6.out.setCell (Nat.le_refl _) _)⟩
                      case measure => simp [intOf]; omega
                    · have dq3 : (x.kd == 1) = false := by rw [beq_eq_false_iff_ne]; exact hk1
                      have dq4 : decide (x.kd = 1) = false := decide_eq_false hk1
                      clear hk0 hk1
                      obtain ⟨ms, la⟩ := s
                      have HO3 := Lib.hid (HO2.out)
                      have HP3 := HPP.out _ _ hst
                      rw [hst] at HO3
                      have HX25 := Lib.hid (HX.out.stored i)
                      have HBV25 := Lib.hid (HBV.out.setCell (p := ⟨mg, i, none⟩) (show _ ≤ mg by omega) (.slice ao7 r.st.length cap7))
                      clear hst HO2 HX HBV
                      go_upto_region 26 with fail
                      clear g0 g1 f0 c0 c1 c2 s0 s1 q0 q1 q2 mm0 mmz
                      generalize V.setCell ⟨mg, i, none⟩ (.slice ao7 r.st.length cap7) = V25 at *
                      obtain ⟨g0, g1, f0, c0, c1, c2, s0, s1, q0, q1, q2⟩ := HX25.out.cells
                      go_wp2_with (at_builtin; refine append_lie rfl _ _ 44 rfl (w.heap.size + 1 + 1 + 1) 57 iA (.agg #[.int .i64 0, .int .u64 0, .slice none 0 0]) 3 40 Tryz.underlying44 ja jb jc jd rfl (by decide) (by decide) _ az.length _ rfl HX25.out.rf.an.row [.int .i64 (r.err : Int), .int .u64 (r.val : Int), .slice lao r.ls.length lcap] rfl rfl (fun u hu => by simp only [List.mem_cons, List.not_mem_nil, or_false] at hu; rcases hu with rfl | rfl | rfl <;> rfl) (by have := HAZ.out; omega) (by have := HX25.out.rf.lt.2; omega) ?_; intro g6 cap6 w6 hr6 hg6 hl6; (have HP6 := Lib.hid (HX25.out.done hr6 hg6 hl6)); (obtain ⟨k0, _, f06, _⟩ := HX25.out.rf.behind _ hg6 (fun b hb => ((HX25.out.rf.blks).1 b hb).1)); (have HB6 : Hid (Below (w.heap.size + 1) w1 w6) := Lib.hid ((HBV25.out.alloc (by have := HX25.out.rf.lt.1; omega) _).grown hg6 (by have := HX25.out.rf.lt.1; simp; omega) (fun b hb => by have := ((HX25.out.rf.blks).1 b hb).1; omega))); clear hr6 hg6 hl6 g0)
                      go_roundw
                      case rel => exact ⟨j + 1, _, _, _, _, _, _, by omega, by go_num, HAZ2 _, HP6, HO3, HP3, Lib.hid (HB6.out.setCell (Nat.le_refl _) _)⟩
                      case measure => simp [intOf]; omega
                case pos =>
                  have de : ((r.err : Int) == 0) = true := by rw [he]; rfl
                  have de2 : decide ((r.err : Int) = 0) = true := decide_eq_true (by omega)
                  have HE0 := Lib.hid he
                  have hgo := queue_goes (n := n) (p := y.p) (q := y.q) (m := m) (x := x) (by have := HR0.out; rw [H8.out] at this; rw [this]; exact he)
                  have h2e : (m).length % 2 = 0 := by have := HOB2.out.is; rw [H8.out] at this; simpa [mdIs] using this
                  clear he
                  by_cases hk1 : x.kd = 1
                  case pos =>
                    have hne : m ≠ [] := by
                      rcases hgo with ⟨h3, _⟩ | ⟨_, h3, _⟩
                      · omega
                      · exact h3
                    have hx16 := qThr_head h2e (HOB2.out.thr H8.out) hne
                    obtain ⟨x0, m', hm'⟩ : ∃ x0 m', m = x0 :: m' := by
                      cases hc : m with
                      | nil => exact absurd hc hne
                      | cons a b => exact ⟨a, b, rfl⟩
                    have e0 : (m).getD 0 0 = x0 := by rw [hm']; rfl
                    rw [e0] at hx16
                    have hnf : ¬ soFull n l s x := fun hf => by unfold soFull at hf; exact hf.2.2.1 hk1
                    have ht : soTake n l s x := by unfold soTake; rw [HOBN.out, HYD.out, HSR.out]; exact ⟨H8.out, HE0.out, hk1⟩
                    have hst : soStep n l s x = (⟨s.ms.set i r.st, s.la.set i (x0 : Int)⟩, ⟨[], r.err, r.val, r.ls⟩) := by rw [HST0.out, if_neg hnf, if_pos ht, e0]
                    have dq : (x.kd == 0) = false := by rw [hk1]; rfl
                    have dq2 : decide (x.kd = 0) = false := decide_eq_false (by omega)
                    have dq3 : (x.kd == 1) = true := by rw [hk1]; rfl
                    have dq4 : decide (x.kd = 1) = true := decide_eq_true hk1
                    have hmpos : 0 < m.length := by rw [hm', List.length_cons]; omega
                    have hmp2 : (0 : Int) < (m.length : Int) := by omega
                    obtain ⟨ao9, ub, uo, ucap9, hve, hA1, _, hA3⟩ := HAV.out
                    obtain ⟨rfl, rfl⟩ : uao = ao9 ∧ ucap = ucap9 := by injection hve with h1 h2 h3; exact ⟨h1, h3⟩
                    obtain ⟨rfl, hub⟩ := hA1 (by omega)
                    have d00 : V.cell? ⟨ub, uo, none⟩ = some (.int .u64 (x0 : Int)) := hA3 0 x0 (by rw [hm']; rfl)
                    obtain ⟨zl, hzl⟩ : ∃ zl, s.la[i]? = some zl := ⟨_, List.getElem?_eq_getElem (by rw [HO.out.ll]; exact HIL.out)⟩
                    obtain ⟨l0, lz⟩ := HX.out.rf.last hzl
                    have hcv : IntKind.i64.wrap (x0 : Int) = (x0 : Int) := IntWalk.i64_in _ (by omega)
                    have nl1 : w.heap.size + 1 + 1 ≠ wr.heap.size := by omega
                    have nl2 : wr.heap.size ≠ w.heap.size + 1 + 1 := by omega
                    have nl3 : ub ≠ w.heap.size + 1 + 1 := by omega
                    have nl4 : w.heap.size + 1 + 1 ≠ ub := by omega
                    clear hgo hne hnf ht hve hA1 hA3 e0 hk1 hm' hzl
                    go_wp2_with fail
                    go_region_held3 (fun w' => w'.cell? ⟨wr.heap.size, 1, none⟩ = some (.int .i64 (i : Int)) ∧ w'.cell? ⟨ub, uo, none⟩ = some (.int .u64 (x0 : Int)))
                      (first | exact ⟨c1, d00⟩ | (refine ⟨?_, ?_⟩ <;> simp [World.cell?_setCell_ne, nl1, nl2, nl3, nl4, c1, d00]; done) | go_keep)
                      (fail)
                    obtain ⟨ms, la⟩ := s
                    have hVV : (V.setCell ⟨w.heap.size + 1 + 1, i, none⟩ (.int .i64 (x0 : Int))).drewN 1 = (V.setCell ⟨w.heap.size + 1 + 1, i, none⟩ (.int .i64 (x0 : Int))).drew := rfl
                    have HX24 := Lib.hid ((HX.out.took i (x0 : Int)).below (below_drewN (Below.refl _ _) 1))
                    have HBV24 : Hid (Below (w.heap.size + 1) w1 ((V.setCell ⟨w.heap.size + 1 + 1, i, none⟩ (.int .i64 (x0 : Int))).drewN 1)) := Lib.hid (below_drewN (HBV.out.setCell (by show _ ≤ w.heap.size + 1 + 1; omega) _) 1)
                    rw [hVV] at HX24 HBV24
                    clear hVV HX HBV g0 g1 f0 c0 c1 c2 s0 s1 q0 q1 q2 mm0 mmz d00 l0 lz
                    have HX := HX24
                    have HBV := HBV24
                    clear HX24 HBV24
                    generalize (V.setCell ⟨w.heap.size + 1 + 1, i, none⟩ (.int .i64 (x0 : Int))).drew = V2 at *
                    obtain ⟨g0, g1, f0, c0, c1, c2, s0, s1, q0, q1, q2⟩ := HX.out.cells
                    obtain ⟨mg2', mcap2', u2', hv2', _, _, hu2', mm0, mmz, hA2', _⟩ := HX.out.rf.model HO.out.lm HIL.out
                    obtain ⟨rfl, rfl⟩ : mg = mg2' ∧ mcap = mcap2' := by cases hv2'; exact ⟨rfl, rfl⟩
                    obtain ⟨uao2, ucap2, rfl⟩ := hA2'.arg.isSlice
                    clear hv2' hu2' hA2'
                    have HO3 := Lib.hid (HO2.out)
                    have HP3 := HPP.out _ _ hst
                    rw [hst] at HO3
                    have HX25 := Lib.hid (HX.out.stored i)
                    have HBV25 := Lib.hid (HBV.out.setCell (p := ⟨mg, i, none⟩) (show _ ≤ mg by omega) (.slice ao7 r.st.length cap7))
                    clear hst HO2 HX HBV
                    go_upto_region 26 with fail
                    clear g0 g1 f0 c0 c1 c2 s0 s1 q0 q1 q2 mm0 mmz
                    generalize V2.setCell ⟨mg, i, none⟩ (.slice ao7 r.st.length cap7) = V25 at *
                    obtain ⟨g0, g1, f0, c0, c1, c2, s0, s1, q0, q1, q2⟩ := HX25.out.cells
                    go_wp2_with (at_builtin; refine append_lie rfl _ _ 44 rfl (w.heap.size + 1 + 1 + 1) 57 iA (.agg #[.int .i64 0, .int .u64 0, .slice none 0 0]) 3 40 Tryz.underlying44 ja jb jc jd rfl (by decide) (by decide) _ az.length _ rfl HX25.out.rf.an.row [.int .i64 (r.err : Int), .int .u64 (r.val : Int), .slice lao r.ls.length lcap] rfl rfl (fun u hu => by simp only [List.mem_cons, List.not_mem_nil, or_false] at hu; rcases hu with rfl | rfl | rfl <;> rfl) (by have := HAZ.out; omega) (by have := HX25.out.rf.lt.2; omega) ?_; intro g6 cap6 w6 hr6 hg6 hl6; (have HP6 := Lib.hid (HX25.out.done hr6 hg6 hl6)); (obtain ⟨k0, _, f06, _⟩ := HX25.out.rf.behind _ hg6 (fun b hb => ((HX25.out.rf.blks).1 b hb).1)); (have HB6 : Hid (Below (w.heap.size + 1) w1 w6) := Lib.hid ((HBV25.out.alloc (by have := HX25.out.rf.lt.1; omega) _).grown hg6 (by have := HX25.out.rf.lt.1; simp; omega) (fun b hb => by have := ((HX25.out.rf.blks).1 b hb).1; omega))); clear hr6 hg6 hl6 g0)
                    go_roundw
                    case rel => exact ⟨j + 1, _, _, _, _, _, _, by omega, by go_num, HAZ2 _, HP6, HO3, HP3, Lib.hid (HB6.out.setCell (Nat.le_refl _) _)⟩
                    case measure => simp [intOf]; omega
                  case neg =>
                    have hk0 : x.kd = 0 := by
                      rcases hgo with ⟨h3, _⟩ | ⟨h3, _⟩
                      · exact h3
                      · exact absurd h3 hk1
                    obtain ⟨t, ht⟩ : ∃ t : Nat, x.th = t := ⟨x.th.toNat, by have := HX2.out; omega⟩
                    have ht16 : t < 16 := by have := HX2.out; omega
                    have hus := HOB2.out.used H8.out x.th HX2.out
                    have hnt : ¬ soTake n l s x := fun hf => by unfold soTake at hf; exact hk1 hf.2.2
                    have dq : (x.kd == 0) = true := by rw [hk0]; rfl
                    have dq2 : decide (x.kd = 0) = true := decide_eq_true hk0
                    have dq3 : (x.kd == 1) = false := by rw [hk0]; rfl
                    have dq4 : decide (x.kd = 1) = false := decide_eq_false (by omega)
                    obtain ⟨R0, hR0⟩ : ∃ R0 : Nat, mdOwn t (m) = R0 := ⟨_, rfl⟩
                    have hR0l : R0 ≤ 100000 := by have := mdOwn_le t (m); have := HOB2.out.len H8.out; omega
                    have HOWN : Hid (∀ W, ArgW W (.slice uao (m).length ucap) (m) → Calls Tryz.prog 47 #[.slice uao (m).length ucap, .int .i64 (t : Int)] W fun e w' => e = .returned (.int .i64 (R0 : Int)) ∧ ∃ k, w' = W.drewN k) := Lib.hid (fun W hW => by rw [← hR0]; exact rown_any t _ _ W hW ht16 (by have := HOB2.out.len H8.out; omega) h2e)
                    obtain ⟨zl, hzl⟩ : ∃ zl, s.la[i]? = some zl := ⟨_, List.getElem?_eq_getElem (by rw [HO.out.ll]; exact HIL.out)⟩
                    have hzd : s.la.getD i (-1) = zl := getD_some' hzl
                    have HZL := Lib.hid hzl
                    rw [ht] at c0
                    have hUS : ∀ R : Nat, usedN x.th (m) (s.la.getD i (-1)) = R → ((soFull n l s x ↔ y.p ≤ (R : Int))) := fun R hR => by
                      unfold soFull
                      rw [HOBN.out, HYD.out, HSR.out, HMM.out, hR]
                      exact ⟨fun h => h.2.2.2, fun h => ⟨H8.out, HE0.out, hk1, h⟩⟩
                    have hRz : usedN x.th (m) (s.la.getD i (-1)) = R0 + (if zl = (t : Int) then 1 else 0) := by
                      unfold usedN; rw [hzd, ht, Int.toNat_natCast, hR0]
                    clear hgo hk0 hk1 hus hR0 hzl hzd
                    by_cases hzt : zl = (t : Int)
                    · rw [if_pos hzt] at hRz
                      have hUS2 := hUS (R0 + 1) hRz
                      have dz : (zl == (t : Int)) = true := by rw [hzt]; exact beq_self_eq_true _
                      have dz2 : decide (zl = (t : Int)) = true := decide_eq_true hzt
                      have hw1' : IntKind.i64.wrap ((R0 : Int) + 1) = (R0 : Int) + 1 := IntWalk.i64_in _ (by omega)
                      clear hUS hRz hzt
                      by_cases hfl : y.p ≤ (R0 : Int) + 1
                      · have hst : soStep n l s x = (s, ⟨[], 6, 0, []⟩) := by rw [HST0.out, if_pos (hUS2.2 (by omega))]
                        have dp : decide (y.p ≤ (R0 : Int) + 1) = true := decide_eq_true hfl
                        clear hUS2 hfl
                        go_wp2_with (go_at_call 47; refine (HOWN.out _ HAV.out.arg).mono ?_; rintro e w9 ⟨rfl, k9, hw9⟩; (have hB9 : Below V.heap.size V w9 := by rw [hw9]; exact below_drewN (Below.refl _ _) _); (have HX9 := Lib.hid (HX.out.below hB9)); (have HB9 : Hid (Below (w.heap.size + 1) w1 w9) := Lib.hid (HBV.out.trans (hB9.mono (by have := HX.out.rf.lt.1; omega)))); clear hB9 hw9 g0 g1 f0 c0 c1 c2 s0 s1 q0 q1 q2 mm0 mmz; (obtain ⟨g0, g1, f0, c0, c1, c2, s0, s1, q0, q1, q2⟩ := HX9.out.cells); (obtain ⟨l0, lz⟩ := HX9.out.rf.last HZL.out); rw [ht] at c0)
                        go_quiet (fail)
                        have HO3 := Lib.hid (HO2.out)
                        have HP3 := HPP.out _ _ hst
                        rw [hst] at HO3
                        clear hst HO2
                        go_wp2_with (at_builtin; refine append_lie rfl _ _ 44 rfl (w.heap.size + 1 + 1 + 1) 57 iA (.agg #[.int .i64 0, .int .u64 0, .slice none 0 0]) 3 40 Tryz.underlying44 ja jb jc jd rfl (by decide) (by decide) _ az.length _ rfl ((HX9.out.below (below_drewN (Below.refl _ _) _)).rf).an.row [.int .i64 6, .int .u64 0, .slice none 0 0] rfl rfl (fun u hu => by simp only [List.mem_cons, List.not_mem_nil, or_false] at hu; rcases hu with rfl | rfl | rfl <;> rfl) (by have := HAZ.out; omega) (by have := HX9.out.rf.lt.2; show _ ≤ w9.heap.size; omega) ?_; intro g6 cap6 w6 hr6 hg6 hl6; (have HP6 := Lib.hid (RfAt.plainAns (HX9.out.below (below_drewN (Below.refl _ _) _)).rf 6 hr6 hg6 hl6)); (obtain ⟨k0, _, f06, _⟩ := RfAt.behind (HX9.out.below (below_drewN (Below.refl _ _) _)).rf _ hg6 (fun b hb => ((HX9.out.rf.blks).1 b hb).1)); (have HB6 : Hid (Below (w.heap.size + 1) w1 w6) := Lib.hid (((below_drewN HB9.out _).alloc (by have := HX9.out.rf.lt.1; show _ ≤ w9.heap.size; omega) _).grown hg6 (by have := HX9.out.rf.lt.1; show _ ≤ (World.alloc _ _).heap.size; simp; omega) (fun b hb => by have := ((HX9.out.rf.blks).1 b hb).1; omega))); clear hr6 hg6 hl6 g0)
                        go_roundw
                        case rel => exact ⟨j + 1, _, _, _, _, _, _, by omega, by go_num, HAZ2 _, HP6, HO3, HP3, Lib.hid (HB6.out.setCell (Nat.le_refl _) _)⟩
                        case measure => simp [intOf]; omega
                      · have hst : soStep n l s x = (⟨s.ms.set i r.st, s.la⟩, ⟨[], r.err, r.val, r.ls⟩) := by rw [HST0.out, if_neg (fun h => hfl (by have := hUS2.1 h; omega)), if_neg hnt]
                        have dp : decide (y.p ≤ (R0 : Int) + 1) = false := decide_eq_false hfl
                        clear hUS2 hfl
                        go_wp2_with (go_at_call 47; refine (HOWN.out _ HAV.out.arg).mono ?_; rintro e w9 ⟨rfl, k9, hw9⟩; (have hB9 : Below V.heap.size V w9 := by rw [hw9]; exact below_drewN (Below.refl _ _) _); (have HX9 := Lib.hid (HX.out.below hB9)); (have HB9 : Hid (Below (w.heap.size + 1) w1 w9) := Lib.hid (HBV.out.trans (hB9.mono (by have := HX.out.rf.lt.1; omega)))); clear hB9 hw9 g0 g1 f0 c0 c1 c2 s0 s1 q0 q1 q2 mm0 mmz; (obtain ⟨g0, g1, f0, c0, c1, c2, s0, s1, q0, q1, q2⟩ := HX9.out.cells); (obtain ⟨l0, lz⟩ := HX9.out.rf.last HZL.out); rw [ht] at c0)
                        go_quiet (fail)
                        clear HX HBV
                        have HX := Lib.hid (HX9.out.below (below_drewN (Below.refl _ _) nq))
                        have HBV := Lib.hid (below_drewN HB9.out nq)
                        clear HX9 HB9 g0 g1 f0 c0 c1 c2 s0 s1 q0 q1 q2 l0 lz
                        generalize w9.drewN nq = V3 at *
                        obtain ⟨g0, g1, f0, c0, c1, c2, s0, s1, q0, q1, q2⟩ := HX.out.cells
                        obtain ⟨mg2', mcap2', u2', hv2', _, _, hu2', mm0, mmz, hA2', _⟩ := HX.out.rf.model HO.out.lm HIL.out
                        obtain ⟨rfl, rfl⟩ : mg = mg2' ∧ mcap = mcap2' := by cases hv2'; exact ⟨rfl, rfl⟩
                        obtain ⟨uao2, ucap2, rfl⟩ := hA2'.arg.isSlice
                        clear hv2' hu2' hA2'
                        obtain ⟨ms, la⟩ := s
                        have HO3 := Lib.hid (HO2.out)
                        have HP3 := HPP.out _ _ hst
                        rw [hst] at HO3
                        have HX25 := Lib.hid (HX.out.stored i)
                        have HBV25 := Lib.hid (HBV.out.setCell (p := ⟨mg, i, none⟩) (show _ ≤ mg by omega) (.slice ao7 r.st.length cap7))
                        clear hst HO2 HX HBV
                        go_upto_region 26 with fail
                        clear g0 g1 f0 c0 c1 c2 s0 s1 q0 q1 q2 mm0 mmz
                        generalize V3.setCell ⟨mg, i, none⟩ (.slice ao7 r.st.length cap7) = V25 at *
                        obtain ⟨g0, g1, f0, c0, c1, c2, s0, s1, q0, q1, q2⟩ := HX25.out.cells
                        go_wp2_with (at_builtin; refine append_lie rfl _ _ 44 rfl (w.heap.size + 1 + 1 + 1) 57 iA (.agg #[.int .i64 0, .int .u64 0, .slice none 0 0]) 3 40 Tryz.underlying44 ja jb jc jd rfl (by decide) (by decide) _ az.length _ rfl HX25.out.rf.an.row [.int .i64 (r.err : Int), .int .u64 (r.val : Int), .slice lao r.ls.length lcap] rfl rfl (fun u hu => by simp only [List.mem_cons, List.not_mem_nil, or_false] at hu; rcases hu with rfl | rfl | rfl <;> rfl) (by have := HAZ.out; omega) (by have := HX25.out.rf.lt.2; omega) ?_; intro g6 cap6 w6 hr6 hg6 hl6; (have HP6 := Lib.hid (HX25.out.done hr6 hg6 hl6)); (obtain ⟨k0, _, f06, _⟩ := HX25.out.rf.behind _ hg6 (fun b hb => ((HX25.out.rf.blks).1 b hb).1)); (have HB6 : Hid (Below (w.heap.size + 1) w1 w6) := Lib.hid ((HBV25.out.alloc (by have := HX25.out.rf.lt.1; omega) _).grown hg6 (by have := HX25.out.rf.lt.1; simp; omega) (fun b hb => by have := ((HX25.out.rf.blks).1 b hb).1; omega))); clear hr6 hg6 hl6 g0)
                        go_roundw
                        case rel => exact ⟨j + 1, _, _, _, _, _, _, by omega, by go_num, HAZ2 _, HP6, HO3, HP3, Lib.hid (HB6.out.setCell (Nat.le_refl _) _)⟩
                        case measure => simp [intOf]; omega
                    · rw [if_neg hzt] at hRz
                      have hUS2 := hUS R0 hRz
                      have dz : (zl == (t : Int)) = false := by rw [beq_eq_false_iff_ne]; exact hzt
                      have dz2 : decide (zl = (t : Int)) = false := decide_eq_false hzt
                      clear hUS hRz hzt
                      by_cases hfl : y.p ≤ (R0 : Int)
                      · have hst : soStep n l s x = (s, ⟨[], 6, 0, []⟩) := by rw [HST0.out, if_pos (hUS2.2 hfl)]
                        have dp : decide (y.p ≤ (R0 : Int)) = true := decide_eq_true hfl
                        clear hUS2 hfl
                        go_wp2_with (go_at_call 47; refine (HOWN.out _ HAV.out.arg).mono ?_; rintro e w9 ⟨rfl, k9, hw9⟩; (have hB9 : Below V.heap.size V w9 := by rw [hw9]; exact below_drewN (Below.refl _ _) _); (have HX9 := Lib.hid (HX.out.below hB9)); (have HB9 : Hid (Below (w.heap.size + 1) w1 w9) := Lib.hid (HBV.out.trans (hB9.mono (by have := HX.out.rf.lt.1; omega)))); clear hB9 hw9 g0 g1 f0 c0 c1 c2 s0 s1 q0 q1 q2 mm0 mmz; (obtain ⟨g0, g1, f0, c0, c1, c2, s0, s1, q0, q1, q2⟩ := HX9.out.cells); (obtain ⟨l0, lz⟩ := HX9.out.rf.last HZL.out); rw [ht] at c0)
                        go_quiet (fail)
                        have HO3 := Lib.hid (HO2.out)
                        have HP3 := HPP.out _ _ hst
                        rw [hst] at HO3
                        clear hst HO2
                        go_wp2_with (at_builtin; refine append_lie rfl _ _ 44 rfl (w.heap.size + 1 + 1 + 1) 57 iA (.agg #[.int .i64 0, .int .u64 0, .slice none 0 0]) 3 40 Tryz.underlying44 ja jb jc jd rfl (by decide) (by decide) _ az.length _ rfl ((HX9.out.below (below_drewN (Below.refl _ _) _)).rf).an.row [.int .i64 6, .int .u64 0, .slice none 0 0] rfl rfl (fun u hu => by simp only [List.mem_cons, List.not_mem_nil, or_false] at hu; rcases hu with rfl | rfl | rfl <;> rfl) (by have := HAZ.out; omega) (by have := HX9.out.rf.lt.2; show _ ≤ w9.heap.size; omega) ?_; intro g6 cap6 w6 hr6 hg6 hl6; (have HP6 := Lib.hid (RfAt.plainAns (HX9.out.below (below_drewN (Below.refl _ _) _)).rf 6 hr6 hg6 hl6)); (obtain ⟨k0, _, f06, _⟩ := RfAt.behind (HX9.out.below (below_drewN (Below.refl _ _) _)).rf _ hg6 (fun b hb => ((HX9.out.rf.blks).1 b hb).1)); (have HB6 : Hid (Below (w.heap.size + 1) w1 w6) := Lib.hid (((below_drewN HB9.out _).alloc (by have := HX9.out.rf.lt.1; show _ ≤ w9.heap.size; omega) _).grown hg6 (by have := HX9.out.rf.lt.1; show _ ≤ (World.alloc _ _).heap.size; simp; omega) (fun b hb => by have := ((HX9.out.rf.blks).1 b hb).1; omega))); clear hr6 hg6 hl6 g0)
                        go_roundw
                        case rel => exact ⟨j + 1, _, _, _, _, _, _, by omega, by go_num, HAZ2 _, HP6, HO3, HP3, Lib.hid (HB6.out.setCell (Nat.le_refl _) _)⟩
                        case measure => simp [intOf]; omega
                      · have hst : soStep n l s x = (⟨s.ms.set i r.st, s.la⟩, ⟨[], r.err, r.val, r.ls⟩) := by rw [HST0.out, if_neg (fun h => hfl (hUS2.1 h)), if_neg hnt]
                        have dp : decide (y.p ≤ (R0 : Int)) = false := decide_eq_false hfl
                        clear hUS2 hfl
                        go_wp2_with (go_at_call 47; refine (HOWN.out _ HAV.out.arg).mono ?_; rintro e w9 ⟨rfl, k9, hw9⟩; (have hB9 : Below V.heap.size V w9 := by rw [hw9]; exact below_drewN (Below.refl _ _) _); (have HX9 := Lib.hid (HX.out.below hB9)); (have HB9 : Hid (Below (w.heap.size + 1) w1 w9) := Lib.hid (HBV.out.trans (hB9.mono (by have := HX.out.rf.lt.1; omega)))); clear hB9 hw9 g0 g1 f0 c0 c1 c2 s0 s1 q0 q1 q2 mm0 mmz; (obtain ⟨g0, g1, f0, c0, c1, c2, s0, s1, q0, q1, q2⟩ := HX9.out.cells); (obtain ⟨l0, lz⟩ := HX9.out.rf.last HZL.out); rw [ht] at c0)
                        go_quiet (fail)
                        clear HX HBV
                        have HX := Lib.hid (HX9.out.below (below_drewN (Below.refl _ _) nq))
                        have HBV := Lib.hid (below_drewN HB9.out nq)
                        clear HX9 HB9 g0 g1 f0 c0 c1 c2 s0 s1 q0 q1 q2 l0 lz
                        generalize w9.drewN nq = V3 at *
                        obtain ⟨g0, g1, f0, c0, c1, c2, s0, s1, q0, q1, q2⟩ := HX.out.cells
                        obtain ⟨mg2', mcap2', u2', hv2', _, _, hu2', mm0, mmz, hA2', _⟩ := HX.out.rf.model HO.out.lm HIL.out
                        obtain ⟨rfl, rfl⟩ : mg = mg2' ∧ mcap = mcap2' := by cases hv2'; exact ⟨rfl, rfl⟩
                        obtain ⟨uao2, ucap2, rfl⟩ := hA2'.arg.isSlice
                        clear hv2' hu2' hA2'
                        obtain ⟨ms, la⟩ := s
                        have HO3 := Lib.hid (HO2.out)
                        have HP3 := HPP.out _ _ hst
                        rw [hst] at HO3
                        have HX25 := Lib.hid (HX.out.stored i)
                        have HBV25 := Lib.hid (HBV.out.setCell (p := ⟨mg, i, none⟩) (show _ ≤ mg by omega) (.slice ao7 r.st.length cap7))
                        clear hst HO2 HX HBV
                        go_upto_region 26 with fail
                        clear g0 g1 f0 c0 c1 c2 s0 s1 q0 q1 q2 mm0 mmz
                        generalize V3.setCell ⟨mg, i, none⟩ (.slice ao7 r.st.length cap7) = V25 at *
                        obtain ⟨g0, g1, f0, c0, c1, c2, s0, s1, q0, q1, q2⟩ := HX25.out.cells
                        go_wp2_with (at_builtin; refine append_lie rfl _ _ 44 rfl (w.heap.size + 1 + 1 + 1) 57 iA (.agg #[.int .i64 0, .int .u64 0, .slice none 0 0]) 3 40 Tryz.underlying44 ja jb jc jd rfl (by decide) (by decide) _ az.length _ rfl HX25.out.rf.an.row [.int .i64 (r.err : Int), .int .u64 (r.val : Int), .slice lao r.ls.length lcap] rfl rfl (fun u hu => by simp only [List.mem_cons, List.not_mem_nil, or_false] at hu; rcases hu with rfl | rfl | rfl <;> rfl) (by have := HAZ.out; omega) (by have := HX25.out.rf.lt.2; omega) ?_; intro g6 cap6 w6 hr6 hg6 hl6; (have HP6 := Lib.hid (HX25.out.done hr6 hg6 hl6)); (obtain ⟨k0, _, f06, _⟩ := HX25.out.rf.behind _ hg6 (fun b hb => ((HX25.out.rf.blks).1 b hb).1)); (have HB6 : Hid (Below (w.heap.size + 1) w1 w6) := Lib.hid ((HBV25.out.alloc (by have := HX25.out.rf.lt.1; omega) _).grown hg6 (by have := HX25.out.rf.lt.1; simp; omega) (fun b hb => by have := ((HX25.out.rf.blks).1 b hb).1; omega))); clear hr6 hg6 hl6 g0)
                        go_roundw
                        case rel => exact ⟨j + 1, _, _, _, _, _, _, by omega, by go_num, HAZ2 _, HP6, HO3, HP3, Lib.hid (HB6.out.setCell (Nat.le_refl _) _)⟩
                        case measure => simp [intOf]; omega
        · have hjl : j = cs.length := by omega
          subst hjl
          have hE2 : Hid (soAll n l cs = (s, az)) := Lib.hid (by unfold soAll; rw [← hp.out, List.drop_length]; rfl)
          have k0 : wr.cell? ⟨w.heap.size, 0, none⟩ = some (.slice none 0 0) := (HB.out.cell (p := ⟨w.heap.size, 0, none⟩) (Nat.lt_succ_self _)).trans (by rw [HW1.out]; exact (new2_cells _ _ _ _).1)
          have k1 : wr.cell? ⟨w.heap.size, 1, none⟩ = some (.slice none 0 0) := (HB.out.cell (p := ⟨w.heap.size, 1, none⟩) (Nat.lt_succ_self _)).trans (by rw [HW1.out]; exact (new2_cells _ _ _ _).2)
          have z0 : wr.frozen? ⟨w.heap.size, 0, none⟩ = false := (World.frozen?_of_block (a := ⟨w.heap.size, 0, none⟩) (HB.out.block _ (Nat.lt_succ_self _))).trans (by rw [HW1.out]; exact Tb.free_of_blkT (heap_alloc_new _ _))
          have z1 : wr.frozen? ⟨w.heap.size, 1, none⟩ = false := (World.frozen?_of_block (a := ⟨w.heap.size, 1, none⟩) (HB.out.block _ (Nat.lt_succ_self _))).trans (by rw [HW1.out]; exact Tb.free_of_blkT (heap_alloc_new _ _))
          obtain ⟨avo, avg, avc, rfl, _, _, _, _⟩ := owns_open HS.out.an.row
          obtain ⟨svo, svg, svc, rfl, _, _, _, _⟩ := owns_open HS.out.row
          have HBW2 := Lib.hid hBW
          have hwl : w.heap.size < wr.heap.size := by omega
          clear hBW hsb
          go_wp2
          refine bodyPost_ret (v := .agg #[.slice avo az.length avc, .slice svo l.length svc]) (by simp [results, Tryz.results18, go_sem, k0, k1, hwl]) rfl ⟨_, _, us, lst, w.heap.size + 1, w.heap.size + 1 + 1, rfl, ?_, ?_⟩
          · rw [hE2.out]
            exact (HS.out.lowSet (Nat.lt_succ_self _) _ _).lowSet (Nat.lt_succ_self _) _ _
          · exact (HBW2.out.setCell (p := ⟨w.heap.size, 0, none⟩) (Nat.le_refl _) _).setCell (p := ⟨w.heap.size, 1, none⟩) (Nat.le_refl _) _
end Go.Proofs.YtjjleghalajidaaGreat
