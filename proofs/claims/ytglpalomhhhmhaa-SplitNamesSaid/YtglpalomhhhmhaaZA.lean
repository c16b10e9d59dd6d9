/- Walk of loom: Report, for any machine. -/
import Derived.Test.YtglpalomhhhmhaaZ9
import Derived.Test.YtglpalomhhhmhaaN4
import Derived.Test.YtglpalomhhhmhaaN4w
namespace Go.Proofs.Ytglpalomhhhmhaa
open Go.RowKit
/-- append of one element of several cells, where it must be known what stays -/
theorem append_atk {P : Program} {w : World} {ops : Array Oper} {rest : List Oper} {o : Oper} {a : Act} {Q : Exit → Act → World → Prop} (hgd : o.guard = none) (s x : Operand) (t : TypeId)
    (ho : o.op = .call { callee := .builtin .append, args := #[s, x], argTypes := #[t, t] })
    (base : Nat) (e : TypeId) (i : TypeInfo) (z : Value) (size bytes : Nat) (ht : P.underlying t = some (.slice e)) (hi : P.info? e = some i) (hz : i.zero = some z)
    (hsize : i.size = size) (hby : i.bytes = bytes) (hzs : z.cells.size = size) (hsz : 0 < size) (hbs : bytes ≤ 4096)
    (v : Value) (n : Nat) (xs : List Value) (hs : a.eval s = v) (hown : w.ownsRow base e size v n xs)
    (us : List Value) (g0 : Nat) (hg0 : g0 = w.heap.size) (hx : a.eval x = .slice (some ⟨g0, 0, none⟩) 1 1) (hl : us.length = size) (h1 : us.all (fun u => u.oneCell') = true)
    (hn : n ≤ 4294967296) (hbase : base ≤ w.heap.size)
    (h : ∀ v' w', w'.ownsRow base e size v' (n + 1) (xs ++ us) → (w.alloc (.cells us.toArray e)).grownBy w' v.ownBlock → wpList P ops Q rest (a.put o.dst v') w') :
    wpList P ops Q (o :: rest) a (w.alloc (.cells us.toArray e)) := by
  subst hg0
  refine wpList_append_own_at _ hgd s x t ho base e i z size bytes ht hi hz hsize hby hzs hsz v n xs hs (hown.alloc _) ⟨w.heap.size, 0, none⟩ 1 1 us hx (by rw [hl, Nat.one_mul]) ?_ (by simpa using h1) (by unfold maxLen; omega) ?_ (by simp; omega) ?_
  · intro j y hj
    rw [addr_add _ j w.heap.size 0 rfl, World.cell?_alloc_at _ _ _ _ rfl]
    simpa using hj
  · have : (n + 1) * bytes ≤ 4294967297 * 4096 := Nat.mul_le_mul (by omega) hbs
    omega
  · intro v' w' h2 h3 _ _
    exact h v' w' h2 h3

theorem infoEv : (Try.prog.info? 41).map (fun i => (i.zero.map (fun z => z.cells.size), i.size, i.bytes)) = some (some 8, 8, 96) := by kernel_rfl


abbrev EvK := EvR × Value × Value
def evCells (y : EvK) : List Value := evVs y.1 y.2.1 y.2.2
/-- events of a report, as they lie -/
def EvsG (B : Nat) (w : World) (v : Value) (evs : List EvR) : Prop :=
  ∃ ek : List EvK, w.ownsRow B 41 8 v evs.length (ek.flatMap evCells) ∧ ek.map (·.1) = evs ∧ ∀ y ∈ ek, ListAt w 37 mkU (fun b => B ≤ b) y.2.1 y.1.ans.list ∧ ListAt w 3 mkI (fun b => B ≤ b) y.2.2 y.1.key
theorem EvsG.snoc {B : Nat} {w1 w2 : World} {v v1 : Value} {evs : List EvR} {x : EvR} {lv kv : Value} {n : Nat} {ek : List EvK} (hn : n = evs.length) (ho : w1.ownsRow B 41 8 v n (ek.flatMap evCells)) (hm : ek.map (·.1) = evs)
    (hk : ∀ y ∈ ek, ListAt w1 37 mkU (fun b => B ≤ b) y.2.1 y.1.ans.list ∧ ListAt w1 3 mkI (fun b => B ≤ b) y.2.2 y.1.key)
    (hl : ListAt w1 37 mkU (fun b => B ≤ b) lv x.ans.list) (hx : ListAt w1 3 mkI (fun b => B ≤ b) kv x.key) {o : Obj} (hg : (w1.alloc o).grownBy w2 v.ownBlock) (h2 : w2.ownsRow B 41 8 v1 (n + 1) (ek.flatMap evCells ++ evVs x lv kv)) : EvsG B w2 v1 (evs ++ [x]) := by
  have keep : ∀ (t : TypeId) (mk : Nat → Value) (v' : Value) (l : List Nat), t ≠ 41 → ListAt w1 t mk (fun b => B ≤ b) v' l → ListAt w2 t mk (fun b => B ≤ b) v' l := fun t mk v' l ht h => h.keep (fun b hb hB => ⟨(hg.block b (by have := hb.lt; simp; omega) (fun e => BlkT.ne_owns hb ho ht e.symm)).trans (Below.heap_alloc _ _ _ hb.lt), hB⟩)
  refine ⟨ek ++ [(x, lv, kv)], ?_, by simp [hm], fun y hy => ?_⟩
  · rw [List.length_append, List.flatMap_append, ← hn]
    simpa [evCells] using h2
  · rcases List.mem_append.1 hy with hy | hy
    · exact ⟨keep _ _ _ _ (by decide) (hk y hy).1, keep _ _ _ _ (by decide) (hk y hy).2⟩
    · simp at hy; subst hy; exact ⟨keep _ _ _ _ (by decide) hl, keep _ _ _ _ (by decide) hx⟩
theorem EvsG.below {B : Nat} {w w' : World} {v : Value} {evs : List EvR} (h : EvsG B w v evs) (hb : Below w.heap.size w w') : EvsG B w' v evs := by
  obtain ⟨ek, h1, h2, h3⟩ := h
  exact ⟨ek, owns_below h1 hb, h2, fun y hy => ⟨(h3 y hy).1.keep (fun b ht hB => ⟨hb.block b ht.lt, hB⟩), (h3 y hy).2.keep (fun b ht hB => ⟨hb.block b ht.lt, hB⟩)⟩⟩
theorem EvsG.mono {B B' : Nat} {w : World} {v : Value} {evs : List EvR} (h : EvsG B w v evs) (hB : B' ≤ B) : EvsG B' w v evs := by
  obtain ⟨ek, h1, h2, h3⟩ := h
  exact ⟨ek, owns_mono h1 hB, h2, fun y hy => ⟨(h3 y hy).1.keep (fun b _ h => ⟨rfl, Nat.le_trans hB h⟩), (h3 y hy).2.keep (fun b _ h => ⟨rfl, Nat.le_trans hB h⟩)⟩⟩
theorem EvsG.other {B : Nat} {w w' : World} {v : Value} {evs : List EvR} (h : EvsG B w v evs) {g : Nat} {t : TypeId} {vs : List Value} (hr : RowBlk t w g vs) (h1 : t ≠ 41) (h2 : t ≠ 3) (h3 : t ≠ 37) (hb : ∀ k, k < w.heap.size → k ≠ g → w'.heap[k]? = w.heap[k]?) : EvsG B w' v evs := by
  obtain ⟨ek, ho, hm, hk⟩ := h
  refine ⟨ek, owns_sameB ho (fun k hk => hb k (ho.lt k hk).2 (fun e => row_owns_ne hr ho h1 (e ▸ hk))), hm, fun y hy => ⟨(hk y hy).1.keep (fun b ht hB => ⟨hb b ht.lt (BlkT.ne ht (BlkT.of_row hr) h3.symm), hB⟩), (hk y hy).2.keep (fun b ht hB => ⟨hb b ht.lt (BlkT.ne ht (BlkT.of_row hr) h2.symm), hB⟩)⟩⟩

structure RepR where
  evs : List EvR
  ws : List Nat
  cn : Cn
  ticks : Nat
  idle : Nat
def repVs (ev : Value) (gw : Nat) (st : RepR) : List Value := [ev, .slice (some ⟨gw, 0, none⟩) st.ws.length st.ws.length, .int .i64 (st.cn.r : Int), .int .i64 (st.cn.w : Int), .int .i64 (st.cn.s : Int), .int .i64 (st.cn.a : Int), .int .i64 (st.cn.f : Int), .int .i64 (st.ticks : Int), .int .i64 (st.idle : Int)]
/-- a report, as it lies -/
def RepG (B : Nat) (w : World) (v : Value) (st : RepR) : Prop :=
  ∃ ev gw, v = .agg (repVs ev gw st).toArray ∧ EvsG B w ev st.evs ∧ RowBlk 37 w gw (u64s st.ws) ∧ B ≤ gw
theorem RepG.below {B : Nat} {w w' : World} {v : Value} {st : RepR} (h : RepG B w v st) (hb : Below w.heap.size w w') : RepG B w' v st := by
  obtain ⟨ev, gw, h1, h2, h3, h4⟩ := h
  exact ⟨ev, gw, h1, h2.below hb, h3.same (hb.block _ h3.lt), h4⟩
section
variable {M : Mach}
def evR (s : M.S) (v : Ev M) : EvR := ⟨v.i, v.inv, v.resp, v.steps, v.ans, if v.resp = 0 then keyQ s v.q else v.key⟩
def repOf (st : St M) : RepR := ⟨st.evs.map (evR st.s), st.ws, st.cn, st.ticks, st.idle⟩

/-- the loom's own part, for a report -/
def RPre (L bm bw b0 : Nat) (lv : List Value) (st : RepR) (B : Nat) (ev : Value) (w : World) : Prop :=
  RowBlk 78 w L lv ∧ MemIs 108 w bm bw st.ws st.cn ∧ EvsG B w ev st.evs ∧ ∃ zs, RowBlk 31 w b0 zs ∧ zs.length = 9 ∧ B ≤ b0
theorem RPre.below {L bm bw b0 : Nat} {lv : List Value} {st : RepR} {B : Nat} {ev : Value} {w w' : World} (h : RPre L bm bw b0 lv st B ev w) (hb : Below w.heap.size w w') : RPre L bm bw b0 lv st B ev w' := by
  obtain ⟨h1, h2, h3, zs, h4, h5⟩ := h
  exact ⟨h1.same (hb.block _ h1.lt), h2.of_blocks (hb.block _ h2.lt1) (hb.block _ h2.lt2), h3.below hb, zs, h4.same (hb.block _ h4.lt), h5⟩
theorem RPre.drew {L bm bw b0 : Nat} {lv : List Value} {st : RepR} {B : Nat} {ev : Value} {w : World} (h : RPre L bm bw b0 lv st B ev w) : RPre L bm bw b0 lv st B ev w.drew := h

theorem cell_far {w : World} {b c o k : Nat} {v : Value} (h : c ≠ b) : (w.setCell ⟨b, o, none⟩ v).cell? ⟨c, k, none⟩ = w.cell? ⟨c, k, none⟩ := by
  unfold World.cell?; rw [Below.heap_setCell _ _ _ _ h]
theorem set9 {zs : List Value} (h : zs.length = 9) (a0 a1 a2 a3 a4 a5 a6 a7 a8 : Value) : ((((((((zs.set 0 a0).set 1 a1).set 2 a2).set 3 a3).set 4 a4).set 5 a5).set 6 a6).set 7 a7).set 8 a8 = [a0, a1, a2, a3, a4, a5, a6, a7, a8] := by
  match zs, h with
  | [_, _, _, _, _, _, _, _, _], _ => rfl
theorem heap_far {w : World} {b k o : Nat} {v : Value} (h : k ≠ b) : (w.setCell ⟨b, o, none⟩ v).heap[k]? = w.heap[k]? := Below.heap_setCell _ _ _ _ h
theorem words_ex (bm bw : Nat) (l : List Nat) (c : Cn) (w : World) (hM : MemIs 108 w bm bw l c) (hn : l.length ≤ 65536) :
    Calls Try.prog 32 #[.pointer (some ⟨bm, 0, none⟩)] w fun e w' => ∃ gw, e = .returned (.slice (some ⟨gw, 0, none⟩) l.length l.length) ∧ RowBlk 37 w' gw (u64s l) ∧ w.heap.size ≤ gw ∧ Below w.heap.size w w' :=
  (words_ok bm bw l c w hM hn).mono fun _ _ ⟨h1, h2, h3⟩ => ⟨_, h1, h2, Nat.le_refl _, h3⟩

set_option maxRecDepth 100000 in
set_option maxHeartbeats 4000000 in
theorem reportG {K : MachRel M} {cs : List CallV} {I : St M → Prop} (hK : MachOk K cs I) (a : LA) (j : Nat) (col : Nat → Nat) (w : World) (st0 : St M) (h : LoomG K cs a j col w st0) (hws0 : st0.ws.length ≤ 65536) :
    Calls Try.prog 20 #[.pointer (some ⟨a.L, 0, none⟩)] w fun e w' => ∃ v, e = .returned v ∧ RepG w.heap.size w' v (repOf st0) ∧ Below w.heap.size w w' := by
  obtain ⟨vb, ps, hL, ho, hpl, hnd, hvb, hR, nc, hcur, hnc⟩ := h.blk
  have hone : ∀ (k : Nat) (x : EvR), (repOf st0).evs[k]? = some x → ∃ g : Nat, ps[k]? = some g ∧ ∀ W, Below w.heap.size w W → Calls Try.prog 31 #[.pointer (some ⟨g, 0, none⟩)] W (RepOne x W) := by
    intro k x hx
    have hx' : (st0.evs.map (evR st0.s))[k]? = some x := hx
    rw [List.getElem?_map] at hx'
    obtain ⟨v, hv, rfl⟩ := Option.map_eq_some_iff.1 hx'
    obtain ⟨g, hg, _, _, lv, kv, opv, hrow, hpend, hlv, hkv⟩ := hR.invs k v hv
    refine ⟨g, hg, fun W hW => ?_⟩
    have hrow' := hrow.same (hW.block _ hrow.lt)
    have hlv' := hlv.keep (w' := W) (q := fun _ => True) (fun b ht _ => ⟨hW.block b ht.lt, trivial⟩)
    have hkv' := hkv.keep (w' := W) (q := fun _ => True) (fun b ht _ => ⟨hW.block b ht.lt, trivial⟩)
    unfold evR
    by_cases hr : v.resp = 0
    · rw [if_pos hr]
      have hop := (hpend hr).2.2.2.2
      rw [hr] at hrow' ⊢
      exact report_zero g v.i v.inv v.steps v.ans.err v.ans.val lv kv opv v.ans.list v.key (keyQ st0.s v.q) _ _ W hrow' hlv' hkv' (fun W2 hW2 => by
        have hbW : Below w.heap.size w W2 := hW.trans (hW2.mono hW.size)
        exact keyOk_any hK W2 st0.s v.q opv (fun b => col b = k + 2) (fun b => col b = 1) (K.obj_keep hR.obj (fun b hb => hbW.block b (h.lays.cT b (by omega)).2.1) (fun _ h => h)) (hop.keep (fun b hb => hbW.block b (h.lays.cT b (by omega)).2.1) (fun _ h => h)))
    · rw [if_neg hr]
      exact report_done g v.i v.inv v.resp v.steps v.ans.err v.ans.val lv kv opv v.ans.list v.key _ _ W hrow' hlv' hkv' hr
  obtain ⟨st, hst⟩ : ∃ st, repOf st0 = st := ⟨_, rfl⟩
  have hel0 : st.evs.length = st0.evs.length := by rw [← hst]; show (st0.evs.map _).length = _; rw [List.length_map]
  have hws : st.ws.length ≤ 65536 := by rw [← hst]; exact hws0
  have hM0 : MemIs 108 w a.bm a.bw st.ws st.cn := by rw [← hst]; exact hR.mem
  have hel : st.evs.length ≤ 65536 := by have := h.evl; have := h.tj; have := h.jl; omega
  rw [hst] at hone ⊢
  have hL0 : RowBlk 78 w a.L (loomVs (.slice a.aoC cs.length a.capC) a.lb a.bm (.slice (some ⟨a.go, 0, none⟩) K.objs.length a.capo) vb a.mc st.ticks st.idle) := by rw [← hst]; exact hL
  rw [← hel0] at ho
  clear hL hR hcur hnc hnd hvb
  obtain ⟨i0, hi, h1⟩ := Option.map_eq_some_iff.1 infoEv
  simp only [Prod.mk.injEq] at h1
  obtain ⟨hz, hsz, hby⟩ := h1
  obtain ⟨z, hz0, hzs⟩ := Option.map_eq_some_iff.1 hz
  obtain ⟨ao, gb, cap, rfl, hao, _, hgb, hgc⟩ := owns_open ho
  have HAO := Lib.hid hao
  have HGC := Lib.hid hgc
  have HGB := Lib.hid hgb
  have HONE := Lib.hid hone
  have HL := Lib.hid hL0
  have HM := Lib.hid hM0
  have l4 : w.cell? ⟨a.L, 4, none⟩ = some (.slice ao st.evs.length cap) := hL0.cell rfl
  have hLlt := hL0.lt
  clear h hL0 hM0 ho hone hao hgc hgb hK hst hpl hel0 hws0
  go_enter Try.func20, Try.ntmps20
  go_wp2_with fail
  have HB0 : Hid (Below w.heap.size w (w.alloc (.cells #[.slice none 0 0, .slice none 0 0, .int .i64 0, .int .i64 0, .int .i64 0, .int .i64 0, .int .i64 0, .int .i64 0, .int .i64 0] 31))) := Lib.hid ((Below.refl _ _).alloc (Nat.le_refl _) _)
  have HZ0 : Hid (RowBlk 31 (w.alloc (.cells #[.slice none 0 0, .slice none 0 0, .int .i64 0, .int .i64 0, .int .i64 0, .int .i64 0, .int .i64 0, .int .i64 0, .int .i64 0] 31)) w.heap.size [.slice none 0 0, .slice none 0 0, .int .i64 0, .int .i64 0, .int .i64 0, .int .i64 0, .int .i64 0, .int .i64 0, .int .i64 0]) := Lib.hid (RowBlk.new _ _ _)
  have hs0 : w.heap.size < (w.alloc (.cells #[.slice none 0 0, .slice none 0 0, .int .i64 0, .int .i64 0, .int .i64 0, .int .i64 0, .int .i64 0, .int .i64 0, .int .i64 0] 31)).heap.size := by simp
  generalize w.alloc (.cells #[.slice none 0 0, .slice none 0 0, .int .i64 0, .int .i64 0, .int .i64 0, .int .i64 0, .int .i64 0, .int .i64 0, .int .i64 0] 31) = w0 at HB0 HZ0 hs0 ⊢
  go_loopw [3, 11] (fun v k wr => ∃ j : Nat, j ≤ st.evs.length ∧ k = .int .i64 j ∧ Hid (EvsG w.heap.size wr v (st.evs.take j)) ∧ Hid (Below w.heap.size w wr) ∧ Hid (RowBlk 31 wr w.heap.size [.slice none 0 0, .slice none 0 0, .int .i64 0, .int .i64 0, .int .i64 0, .int .i64 0, .int .i64 0, .int .i64 0, .int .i64 0])) (fun _ k _ => st.evs.length - (intOf k).toNat)
  case atStart => exact ⟨0, Nat.zero_le _, rfl, Lib.hid ⟨[], World.ownsRow_nil _ _ _ _, rfl, fun y hy => by simp at hy⟩, HB0, HZ0⟩
  case round =>
    obtain ⟨j, hj, rfl, hE, hB, hZ⟩ := hrel
    have hwr := hB.out.size
    by_cases hlt : j < st.evs.length
    · obtain rfl := HAO.out (by omega)
      obtain ⟨x, hx⟩ : ∃ x, st.evs[j]? = some x := ⟨st.evs[j], List.getElem?_eq_getElem (by omega)⟩
      obtain ⟨g, hg, hI⟩ := HONE.out j x hx
      have hc := HGC.out j (ptr g) (by rw [List.getElem?_map, hg]; rfl)
      have hc1 : wr.cell? ⟨gb, j, none⟩ = some (.pointer (some ⟨g, 0, none⟩)) := (hB.out.cell (p := ⟨gb, j, none⟩) (HGB.out (by omega))).trans hc
      have hi0 : (0 : Int) ≤ (j : Int) := Int.natCast_nonneg _
      have hi1 : (j : Int) < (st.evs.length : Int) := by omega
      have HI := Lib.hid (hI wr hB.out)
      have HT := Lib.hid (take_snoc hx)
      have hjl : (st.evs.take j).length = j := by rw [List.length_take]; omega
      have HJL := Lib.hid hjl
      clear hx hg hI hc hjl
      go_wp2_with fail
      refine HI.out.mono ?_
      rintro e w1 ⟨lv, kv, rfl, hlv, hkv, hb1⟩
      obtain ⟨lao, lcap, rfl⟩ := hlv.isSlice
      obtain ⟨kao, kcap, rfl⟩ := hkv.isSlice
      obtain ⟨ek, ho1, hm1, hk1'⟩ := hE.out.below hb1
      rw [HJL.out] at ho1
      have HO1 := Lib.hid ho1
      have HM1 := Lib.hid hm1
      have HK1' := Lib.hid hk1'
      have HLV1 : Hid (ListAt w1 37 mkU (fun b => w.heap.size ≤ b) (.slice lao x.ans.list.length lcap) x.ans.list) := Lib.hid (hlv.keep (fun b _ hb => ⟨rfl, by omega⟩))
      have HKV1 : Hid (ListAt w1 3 mkI (fun b => w.heap.size ≤ b) (.slice kao x.key.length kcap) x.key) := Lib.hid (hkv.keep (fun b _ hb => ⟨rfl, by omega⟩))
      have HB1 := Lib.hid (hB.out.trans (hb1.mono hwr))
      have HZ1 := Lib.hid (hZ.out.same (hb1.block _ hZ.out.lt))
      have hs1 := hb1.size
      have hjb : j ≤ 4294967296 := by omega
      clear ho1 hm1 hk1' hlv hkv hb1 hc1
      rw [show (evVs x (.slice lao x.ans.list.length lcap) (.slice kao x.key.length kcap)).toArray = #[.int .i64 (x.i : Int), .int .i64 (x.inv : Int), .int .i64 (x.resp : Int), .int .i64 (x.steps : Int), .int .i64 (x.ans.err : Int), .int .u64 (x.ans.val : Int), .slice lao x.ans.list.length lcap, .slice kao x.key.length kcap] from rfl]
      go_wp2_with (at_builtin; refine append_atk rfl _ _ 26 rfl w.heap.size 41 i0 z 8 96 Try.underlying26 hi hz0 hsz hby hzs (by decide) (by decide) _ j (ek.flatMap evCells) rfl HO1.out [.int .i64 (x.i : Int), .int .i64 (x.inv : Int), .int .i64 (x.resp : Int), .int .i64 (x.steps : Int), .int .i64 (x.ans.err : Int), .int .u64 (x.ans.val : Int), .slice lao x.ans.list.length lcap, .slice kao x.key.length kcap] w1.heap.size rfl rfl rfl rfl hjb (by omega) ?_)
      intro v2 w2 ho2 hg2
      have HE2 : Hid (EvsG w.heap.size w2 v2 (st.evs.take (j + 1))) := Lib.hid (by
        rw [HT.out]
        exact EvsG.snoc HJL.out.symm HO1.out HM1.out HK1'.out HLV1.out HKV1.out hg2 ho2)
      have HB2 : Hid (Below w.heap.size w w2) := Lib.hid ((HB1.out.alloc (by omega) _).grown hg2 (by simp; omega) (fun k hk => (HO1.out.lt k hk).1))
      have HZ2 : Hid (RowBlk 31 w2 w.heap.size [.slice none 0 0, .slice none 0 0, .int .i64 0, .int .i64 0, .int .i64 0, .int .i64 0, .int .i64 0, .int .i64 0, .int .i64 0]) := Lib.hid ((HZ1.out.alloc _).same (hg2.block _ (by have := HZ1.out.lt; simp; omega) (fun e => row_owns_ne HZ1.out HO1.out (by decide) e.symm)))
      clear ho2 hg2
      go_wp2
      go_roundw
      case rel => exact ⟨j + 1, by omega, by go_num, HE2, HB2, HZ2⟩
      case measure => simp [intOf]; omega
    · have hjn : j = st.evs.length := by omega
      subst hjn
      have hEV : EvsG w.heap.size wr u3 st.evs := by have := hE.out; rw [List.take_length] at this; exact this
      obtain ⟨ekk, hoo, hmm, hkk⟩ := hEV
      obtain ⟨aoE, gE, capE, hu3, _⟩ := owns_open hoo
      have HEV : Hid (EvsG w.heap.size wr (.slice aoE st.evs.length capE) st.evs) := Lib.hid (by rw [← hu3]; exact ⟨ekk, hoo, hmm, hkk⟩)
      subst hu3
      clear hoo hmm hkk hE
      have HP : Hid (RPre a.L a.bm a.bw w.heap.size (loomVs (.slice a.aoC cs.length a.capC) a.lb a.bm (.slice (some ⟨a.go, 0, none⟩) K.objs.length a.capo) (.slice ao st.evs.length cap) a.mc st.ticks st.idle) st w.heap.size (.slice aoE st.evs.length capE) wr) := Lib.hid
        ⟨HL.out.same (hB.out.block _ HL.out.lt), HM.out.of_blocks (hB.out.block _ HM.out.lt1) (hB.out.block _ HM.out.lt2), HEV.out, _, hZ.out, rfl, Nat.le_refl _⟩
      have u2 := HP.out.1.cell (i := 2) rfl
      have u6 := HP.out.1.cell (i := 6) rfl
      have u7 := HP.out.1.cell (i := 7) rfl
      have nL1 : a.L ≠ w.heap.size := by omega
      have nL2 : w.heap.size ≠ a.L := by omega
      go_wp2_with fail
      go_region_held3 (fun w' => w'.cell? ⟨a.L, 2, none⟩ = some (.pointer (some ⟨a.bm, 0, none⟩)) ∧ w'.cell? ⟨a.L, 6, none⟩ = some (.int .i64 (st.ticks : Int)) ∧ w'.cell? ⟨a.L, 7, none⟩ = some (.int .i64 (st.idle : Int)))
        (first | (simp only [cell_far nL1]; with_reducible exact ⟨s2, s6, s7⟩) | with_reducible exact ⟨s2, s6, s7⟩ | exact ⟨u2, u6, u7⟩)
        (first
          | (go_at_call 32
             refine (words_ex a.bm a.bw st.ws st.cn _ (by first | exact HP5.out.2.1 | exact HP.out.drew.2.1) hws).mono ?_
             rintro e w5 ⟨gw, rfl, hw5, hgl5, hb5⟩
             have hsz5 : w.heap.size ≤ gw := Nat.le_trans (by first | exact HBT.out.size | exact hB.out.size) hgl5
             have HBT : Hid (Below w.heap.size w w5) := Lib.hid (Below.trans (by first | exact HBT.out | exact below_drew hB.out) (hb5.mono (by first | exact HBT.out.size | exact hB.out.size)))
             have HP5 : Hid (RPre a.L a.bm a.bw w.heap.size (loomVs (.slice a.aoC cs.length a.capC) a.lb a.bm (.slice (some ⟨a.go, 0, none⟩) K.objs.length a.capo) (.slice ao st.evs.length cap) a.mc st.ticks st.idle) st w.heap.size (.slice aoE st.evs.length capE) w5) := Lib.hid (RPre.below (by first | exact HP5.out | exact HP.out.drew) hb5)
             have HW5 := Lib.hid hw5
             have s2 := HP5.out.1.cell (i := 2) rfl
             have s6 := HP5.out.1.cell (i := 6) rfl
             have s7 := HP5.out.1.cell (i := 7) rfl
             clear hw5 hgl5 hb5)
          | (go_at_call 33
             refine (counts_ok a.bm a.bw st.ws st.cn _ (by first | exact HP5.out.2.1 | exact HP.out.drew.2.1)).mono ?_
             rintro e w6 ⟨rfl, hb6⟩
             have HBT : Hid (Below w.heap.size w w6) := Lib.hid (Below.trans (by first | exact HBT.out | exact below_drew hB.out) (hb6.mono (by first | exact HBT.out.size | exact hB.out.size)))
             have HP5 : Hid (RPre a.L a.bm a.bw w.heap.size (loomVs (.slice a.aoC cs.length a.capC) a.lb a.bm (.slice (some ⟨a.go, 0, none⟩) K.objs.length a.capo) (.slice ao st.evs.length cap) a.mc st.ticks st.idle) st w.heap.size (.slice aoE st.evs.length capE) w6) := Lib.hid (RPre.below (by first | exact HP5.out | exact HP.out.drew) hb6)
             try have HW5 := Lib.hid (HW5.out.same (hb6.block _ HW5.out.lt))
             have s2 := HP5.out.1.cell (i := 2) rfl
             have s6 := HP5.out.1.cell (i := 6) rfl
             have s7 := HP5.out.1.cell (i := 7) rfl
             obtain ⟨zs, hz5, hz9, _⟩ := HP5.out.2.2.2
             obtain ⟨y0, r0⟩ : ∃ y, w6.cell? ⟨w.heap.size, 0, none⟩ = some y := ⟨_, hz5.cell (i := 0) (List.getElem?_eq_getElem (by omega))⟩
             obtain ⟨y1, r1⟩ : ∃ y, w6.cell? ⟨w.heap.size, 1, none⟩ = some y := ⟨_, hz5.cell (i := 1) (List.getElem?_eq_getElem (by omega))⟩
             obtain ⟨y2, r2⟩ : ∃ y, w6.cell? ⟨w.heap.size, 2, none⟩ = some y := ⟨_, hz5.cell (i := 2) (List.getElem?_eq_getElem (by omega))⟩
             obtain ⟨y3, r3⟩ : ∃ y, w6.cell? ⟨w.heap.size, 3, none⟩ = some y := ⟨_, hz5.cell (i := 3) (List.getElem?_eq_getElem (by omega))⟩
             obtain ⟨y4, r4⟩ : ∃ y, w6.cell? ⟨w.heap.size, 4, none⟩ = some y := ⟨_, hz5.cell (i := 4) (List.getElem?_eq_getElem (by omega))⟩
             obtain ⟨y5, r5⟩ : ∃ y, w6.cell? ⟨w.heap.size, 5, none⟩ = some y := ⟨_, hz5.cell (i := 5) (List.getElem?_eq_getElem (by omega))⟩
             obtain ⟨y6, r6⟩ : ∃ y, w6.cell? ⟨w.heap.size, 6, none⟩ = some y := ⟨_, hz5.cell (i := 6) (List.getElem?_eq_getElem (by omega))⟩
             obtain ⟨y7, r7⟩ : ∃ y, w6.cell? ⟨w.heap.size, 7, none⟩ = some y := ⟨_, hz5.cell (i := 7) (List.getElem?_eq_getElem (by omega))⟩
             obtain ⟨y8, r8⟩ : ∃ y, w6.cell? ⟨w.heap.size, 8, none⟩ = some y := ⟨_, hz5.cell (i := 8) (List.getElem?_eq_getElem (by omega))⟩
             have fr : ∀ k, w6.frozen? ⟨w.heap.size, k, none⟩ = false := fun k => hz5.free
             have HZ5 := Lib.hid hz5
             have HZ9 := Lib.hid hz9
             clear hz5 hz9
             clear hb6))
      have hgb0 : gw ≠ w.heap.size := row_ne HW5.out HZ5.out (by decide)
      have H7 : Hid (RowBlk 31 (((((((((w6.setCell ⟨w.heap.size, 0, none⟩ (.slice aoE st.evs.length capE)).setCell ⟨w.heap.size, 1, none⟩ (.slice (some ⟨gw, 0, none⟩) st.ws.length st.ws.length)).setCell ⟨w.heap.size, 2, none⟩ (.int .i64 (st.cn.r : Int))).setCell ⟨w.heap.size, 3, none⟩ (.int .i64 (st.cn.w : Int))).setCell ⟨w.heap.size, 4, none⟩ (.int .i64 (st.cn.s : Int))).setCell ⟨w.heap.size, 5, none⟩ (.int .i64 (st.cn.a : Int))).setCell ⟨w.heap.size, 6, none⟩ (.int .i64 (st.cn.f : Int))).setCell ⟨w.heap.size, 7, none⟩ (.int .i64 (st.ticks : Int))).setCell ⟨w.heap.size, 8, none⟩ (.int .i64 (st.idle : Int))) w.heap.size (repVs (.slice aoE st.evs.length capE) gw st) ∧ RowBlk 37 (((((((((w6.setCell ⟨w.heap.size, 0, none⟩ (.slice aoE st.evs.length capE)).setCell ⟨w.heap.size, 1, none⟩ (.slice (some ⟨gw, 0, none⟩) st.ws.length st.ws.length)).setCell ⟨w.heap.size, 2, none⟩ (.int .i64 (st.cn.r : Int))).setCell ⟨w.heap.size, 3, none⟩ (.int .i64 (st.cn.w : Int))).setCell ⟨w.heap.size, 4, none⟩ (.int .i64 (st.cn.s : Int))).setCell ⟨w.heap.size, 5, none⟩ (.int .i64 (st.cn.a : Int))).setCell ⟨w.heap.size, 6, none⟩ (.int .i64 (st.cn.f : Int))).setCell ⟨w.heap.size, 7, none⟩ (.int .i64 (st.ticks : Int))).setCell ⟨w.heap.size, 8, none⟩ (.int .i64 (st.idle : Int))) gw (u64s st.ws) ∧ EvsG w.heap.size (((((((((w6.setCell ⟨w.heap.size, 0, none⟩ (.slice aoE st.evs.length capE)).setCell ⟨w.heap.size, 1, none⟩ (.slice (some ⟨gw, 0, none⟩) st.ws.length st.ws.length)).setCell ⟨w.heap.size, 2, none⟩ (.int .i64 (st.cn.r : Int))).setCell ⟨w.heap.size, 3, none⟩ (.int .i64 (st.cn.w : Int))).setCell ⟨w.heap.size, 4, none⟩ (.int .i64 (st.cn.s : Int))).setCell ⟨w.heap.size, 5, none⟩ (.int .i64 (st.cn.a : Int))).setCell ⟨w.heap.size, 6, none⟩ (.int .i64 (st.cn.f : Int))).setCell ⟨w.heap.size, 7, none⟩ (.int .i64 (st.ticks : Int))).setCell ⟨w.heap.size, 8, none⟩ (.int .i64 (st.idle : Int))) (.slice aoE st.evs.length capE) st.evs ∧ Below w.heap.size w (((((((((w6.setCell ⟨w.heap.size, 0, none⟩ (.slice aoE st.evs.length capE)).setCell ⟨w.heap.size, 1, none⟩ (.slice (some ⟨gw, 0, none⟩) st.ws.length st.ws.length)).setCell ⟨w.heap.size, 2, none⟩ (.int .i64 (st.cn.r : Int))).setCell ⟨w.heap.size, 3, none⟩ (.int .i64 (st.cn.w : Int))).setCell ⟨w.heap.size, 4, none⟩ (.int .i64 (st.cn.s : Int))).setCell ⟨w.heap.size, 5, none⟩ (.int .i64 (st.cn.a : Int))).setCell ⟨w.heap.size, 6, none⟩ (.int .i64 (st.cn.f : Int))).setCell ⟨w.heap.size, 7, none⟩ (.int .i64 (st.ticks : Int))).setCell ⟨w.heap.size, 8, none⟩ (.int .i64 (st.idle : Int)))) := Lib.hid
        ⟨by
          have e : repVs (.slice aoE st.evs.length capE) gw st = _ := (set9 HZ9.out (.slice aoE st.evs.length capE) (.slice (some ⟨gw, 0, none⟩) st.ws.length st.ws.length) (.int .i64 (st.cn.r : Int)) (.int .i64 (st.cn.w : Int)) (.int .i64 (st.cn.s : Int)) (.int .i64 (st.cn.a : Int)) (.int .i64 (st.cn.f : Int)) (.int .i64 (st.ticks : Int)) (.int .i64 (st.idle : Int))).symm
          rw [e]
          exact (((((((((HZ5.out.put 0 _).put 1 _).put 2 _).put 3 _).put 4 _).put 5 _).put 6 _).put 7 _).put 8 _), (((((((((HW5.out.other hgb0 _).other hgb0 _).other hgb0 _).other hgb0 _).other hgb0 _).other hgb0 _).other hgb0 _).other hgb0 _).other hgb0 _), HP5.out.2.2.1.other HZ5.out (by decide) (by decide) (by decide) (fun k _ hk => by rw [heap_far hk, heap_far hk, heap_far hk, heap_far hk, heap_far hk, heap_far hk, heap_far hk, heap_far hk, heap_far hk]), (((((((((HBT.out.setCell (Nat.le_refl _) _).setCell (Nat.le_refl _) _).setCell (Nat.le_refl _) _).setCell (Nat.le_refl _) _).setCell (Nat.le_refl _) _).setCell (Nat.le_refl _) _).setCell (Nat.le_refl _) _).setCell (Nat.le_refl _) _).setCell (Nat.le_refl _) _)⟩
      generalize ((((((((w6.setCell ⟨w.heap.size, 0, none⟩ (.slice aoE st.evs.length capE)).setCell ⟨w.heap.size, 1, none⟩ (.slice (some ⟨gw, 0, none⟩) st.ws.length st.ws.length)).setCell ⟨w.heap.size, 2, none⟩ (.int .i64 (st.cn.r : Int))).setCell ⟨w.heap.size, 3, none⟩ (.int .i64 (st.cn.w : Int))).setCell ⟨w.heap.size, 4, none⟩ (.int .i64 (st.cn.s : Int))).setCell ⟨w.heap.size, 5, none⟩ (.int .i64 (st.cn.a : Int))).setCell ⟨w.heap.size, 6, none⟩ (.int .i64 (st.cn.f : Int))).setCell ⟨w.heap.size, 7, none⟩ (.int .i64 (st.ticks : Int))).setCell ⟨w.heap.size, 8, none⟩ (.int .i64 (st.idle : Int)) = W7 at H7 ⊢
      go_wp2_with fail
      have q0 := H7.out.1.cell (i := 0) rfl
      have q1 := H7.out.1.cell (i := 1) rfl
      have q2 := H7.out.1.cell (i := 2) rfl
      have q3 := H7.out.1.cell (i := 3) rfl
      have q4 := H7.out.1.cell (i := 4) rfl
      have q5 := H7.out.1.cell (i := 5) rfl
      have q6 := H7.out.1.cell (i := 6) rfl
      have q7 := H7.out.1.cell (i := 7) rfl
      have q8 := H7.out.1.cell (i := 8) rfl
      exact bodyPost_ret (v := .agg (repVs (.slice aoE st.evs.length capE) gw st).toArray) (by simp [results, Try.results20, go_sem, q0, q1, q2, q3, q4, q5, q6, q7, q8, repVs]) rfl ⟨_, rfl, ⟨_, gw, rfl, H7.out.2.2.1, H7.out.2.1, hsz5⟩, H7.out.2.2.2⟩
end
end Go.Proofs.Ytglpalomhhhmhaa
