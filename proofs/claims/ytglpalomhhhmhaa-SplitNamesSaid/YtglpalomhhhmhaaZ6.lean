/- A play of a machine, as it lies in memory. -/
import Derived.Test.YtglpalomhhhmhaaZ5
namespace Go.Proofs.Ytglpalomhhhmhaa
open Go.RowKit

structure LA where
  B0 : Nat
  L : Nat
  top : Nat
  lb : Nat
  mb : Nat
  bm : Nat
  bw : Nat
  mc : Nat
  gc : Nat
  go : Nat
  capo : Nat
  capC : Nat
  aoC : Option Addr
section
variable {M : Mach}

/-- an event's invocation, as it lies -/
def InvG (K : MachRel M) (w : World) (L : Nat) (col : Nat → Nat) (e g : Nat) (v : Ev M) : Prop :=
  ∃ lv kv opv : Value, RowBlk 117 w g (invVs v.i v.inv v.resp v.steps v.ans.err v.ans.val lv kv opv) ∧
    (v.resp = 0 → v.ans = ⟨0, 0, []⟩ ∧ lv = .slice none 0 0 ∧ kv = .slice none 0 0 ∧ v.key = [] ∧ OpQ K w opv v.q (fun b => col b = e + 2)) ∧
    ListAt w 37 mkU (fun b => L < b ∧ col b = 0) lv v.ans.list ∧ ListAt w 3 mkI (fun b => L < b ∧ col b = 0) kv v.key
theorem InvG.keep {K : MachRel M} {w w' : World} {L : Nat} {col col' : Nat → Nat} {e g : Nat} {v : Ev M} (h : InvG K w L col e g v) (hg : w'.heap[g]? = w.heap[g]?) (ho : ∀ b, col b = e + 2 → w'.heap[b]? = w.heap[b]? ∧ col' b = e + 2)
    (hl : ∀ b t, BlkT w b t → (t = 37 ∨ t = 3) → L < b → col b = 0 → w'.heap[b]? = w.heap[b]? ∧ col' b = 0) : InvG K w' L col' e g v := by
  obtain ⟨lv, kv, opv, h1, h2, h3, h4⟩ := h
  exact ⟨lv, kv, opv, h1.same hg, fun h => by
    obtain ⟨a, b, c, d, f⟩ := h2 h
    exact ⟨a, b, c, d, f.keep (fun k hk => (ho k hk).1) (fun k hk => (ho k hk).2)⟩,
    h3.keep (fun b ht hp => ⟨(hl b _ ht (.inl rfl) hp.1 hp.2).1, hp.1, (hl b _ ht (.inl rfl) hp.1 hp.2).2⟩), h4.keep (fun b ht hp => ⟨(hl b _ ht (.inr rfl) hp.1 hp.2).1, hp.1, (hl b _ ht (.inr rfl) hp.1 hp.2).2⟩)⟩

/-- what a thread's current invocation is in the map -/
def curV (ps : List Nat) (cur : Int → Option Nat) (p : Int) : Value := match cur p with | none => .pointer none | some e => match ps[e]? with | none => .pointer none | some g => ptr g

structure RestG (K : MachRel M) (cs : List CallV) (a : LA) (col : Nat → Nat) (w : World) (st : St M) (ps : List Nat) : Prop where
  invs : ∀ e v, st.evs[e]? = some v → ∃ g, ps[e]? = some g ∧ a.L < g ∧ col g = 0 ∧ InvG K w a.L col e g v
  mem : MemIs 108 w a.bm a.bw st.ws st.cn
  calls : CallsAt w a.gc 0 cs
  objs : ObjsAt w a.go K.objs
  obj : K.Obj w st.s (fun b => col b = 1)
/-- how the blocks lie -/
structure LaysG (cs : List CallV) (a : LA) (col : Nat → Nat) (n : Nat) (w : World) : Prop where
  haC : 0 < cs.length → a.aoC = some ⟨a.gc, 0, none⟩
  gsep : 0 < cs.length → a.gc < a.L ∧ a.gc ≠ a.bm ∧ a.gc ≠ a.bw ∧ a.gc ≠ a.mc ∧ a.gc ≠ a.mb ∧ a.top ≤ a.gc ∧ col a.gc = 0
  osep : a.go < a.L ∧ a.go ≠ a.bm ∧ a.go ≠ a.bw ∧ a.go ≠ a.mc ∧ a.go ≠ a.mb ∧ a.top ≤ a.go ∧ col a.go = 0
  lsep : a.bm < a.L ∧ a.bw < a.L ∧ a.mc < a.L
  t1 : a.top ≤ a.L ∧ a.top ≤ a.bm ∧ a.top ≤ a.bw ∧ a.top ≤ a.mc ∧ a.mb < a.top ∧ a.top ≤ w.heap.size
  b0 : a.B0 ≤ a.L ∧ a.B0 ≤ a.bm ∧ a.B0 ≤ a.bw ∧ a.B0 ≤ a.mc ∧ a.B0 ≤ a.mb
  mne : a.mc ≠ a.bm ∧ a.mc ≠ a.bw ∧ a.bm ≠ a.bw
  c0 : col a.L = 0 ∧ col a.mb = 0 ∧ col a.bm = 0 ∧ col a.bw = 0 ∧ col a.mc = 0
  cT : ∀ b, col b ≠ 0 → a.top ≤ b ∧ b < w.heap.size ∧ a.B0 ≤ b
  cL : ∀ b, 2 ≤ col b → a.L < b
  cE : ∀ b, col b < n + 2
  cl : cs.length ≤ 1000
structure LoomG (K : MachRel M) (cs : List CallV) (a : LA) (j : Nat) (col : Nat → Nat) (w : World) (st : St M) : Prop where
  blk : ∃ (vb : Value) (ps : List Nat), RowBlk 78 w a.L (loomVs (.slice a.aoC cs.length a.capC) a.lb a.bm (.slice (some ⟨a.go, 0, none⟩) K.objs.length a.capo) vb a.mc st.ticks st.idle) ∧
    w.ownsRow (a.L + 1) 81 1 vb st.evs.length (ps.map ptr) ∧ ps.length = st.evs.length ∧ (∀ i k x : Nat, ps[i]? = some x → ps[k]? = some x → i = k) ∧ (∀ k, vb.ownBlock = some k → col k = 0) ∧ RestG K cs a col w st ps ∧
    ∃ N, MapIs Try.prog 3 w a.mc N (.pointer none) (curV ps st.cur) ∧ N ≤ st.evs.length
  line : ∃ f N, LineIs w a.top a.lb a.mb N f (ownL (thr cs) st.fin) ∧ N ≤ cs.length + st.fin.count true
  lays : LaysG cs a col st.evs.length w
  tj : st.ticks + st.idle = j
  jl : j ≤ 65536
  evl : st.evs.length ≤ st.ticks
  stl : ∀ v ∈ st.evs, v.steps ≤ st.ticks

variable {K : MachRel M} {cs : List CallV} {a : LA} {col col' : Nat → Nat} {w w' : World} {st : St M} {ps : List Nat} {j n : Nat}
theorem RestG.keep (h : RestG K cs a col w st ps) (hl : LaysG cs a col st.evs.length w) (hb : ∀ k, k < w.heap.size → k ≠ a.L → k ≠ a.mc → k ≠ a.mb → w'.heap[k]? = w.heap[k]?) : RestG K cs a col w' st ps := by
  have h1 := hl.lsep
  have h2 := hl.t1
  have h3 := hl.mne
  have h4 := hl.c0
  refine ⟨fun e v hv => ?_, h.mem.of_blocks (hb _ h.mem.lt1 (by omega) (by omega) (by omega)) (hb _ h.mem.lt2 (by omega) (by omega) (by omega)), ?_, ?_, K.obj_keep h.obj (fun k hk => ?_) (fun _ h => h)⟩
  · obtain ⟨g, hg, hgl, hgc, hi⟩ := h.invs e v hv
    refine ⟨g, hg, hgl, hgc, hi.keep (hb g ?_ (by omega) (by omega) (by omega)) (fun b hb' => ⟨hb b (hl.cT b (by omega)).2.1 (fun e => by rw [e] at hb'; omega) (fun e => by rw [e] at hb'; omega) (fun e => by rw [e] at hb'; omega), hb'⟩) (fun b t ht _ hlt hc => ⟨hb b ht.lt (by omega) (by omega) (by omega), hc⟩)⟩
    obtain ⟨_, _, _, hr, _⟩ := hi
    exact hr.lt
  · intro i x hx
    have hl0 : 0 < cs.length := by have := (List.getElem?_eq_some_iff.1 hx).1; omega
    have hg := hl.gsep hl0
    have hc := h.calls i x hx
    have e : ∀ o, w'.cell? ⟨a.gc, o, none⟩ = w.cell? ⟨a.gc, o, none⟩ := fun o => by
      unfold World.cell?
      rw [hb a.gc (World.block_lt_of_cell? w ⟨a.gc, _, none⟩ hc.1) (by omega) (by omega) (by omega)]
    rw [e, e, e, e, e, e]
    exact hc
  · intro i v hv
    have hg := hl.osep
    have hc := h.objs i v hv
    rw [← hc]
    unfold World.cell?
    rw [hb a.go (World.block_lt_of_cell? w ⟨a.go, _, none⟩ hc) (by omega) (by omega) (by omega)]
  · exact hb k (hl.cT k (by omega)).2.1 (fun e => by rw [e] at hk; omega) (fun e => by rw [e] at hk; omega) (fun e => by rw [e] at hk; omega)
theorem LaysG.grow (h : LaysG cs a col n w) (hs : w.heap.size ≤ w'.heap.size) : LaysG cs a col n w' :=
  ⟨h.haC, h.gsep, h.osep, h.lsep, by have := h.t1; exact ⟨this.1, this.2.1, this.2.2.1, this.2.2.2.1, this.2.2.2.2.1, by omega⟩, h.b0, h.mne, h.c0, fun b hb => by have := h.cT b hb; exact ⟨this.1, by omega, this.2.2⟩, h.cL, h.cE, h.cl⟩

theorem count_set_true : ∀ {l : List Bool} {i : Nat}, l[i]? = some false → (l.set i true).count true = l.count true + 1
  | [], i, h => by simp at h
  | x :: l, 0, h => by
    simp at h; subst h
    simp
  | x :: l, i + 1, h => by
    have h' : l[i]? = some false := by simpa using h
    have ih := count_set_true h'
    rw [List.set_cons_succ, List.count_cons, List.count_cons, ih]
    omega

/-- a tick -/
theorem LoomG.tick (h : LoomG K cs a j col w st) (hj : j < 65536) (hs : w'.heap.size = w.heap.size) (hw : w' = w.setCell ⟨a.L, 6, none⟩ (.int .i64 ((st.ticks : Int) + 1))) : LoomG K cs a (j + 1) col w' st.tick := by
  subst hw
  obtain ⟨vb, ps, hL, ho, hpl, hnd, hvb, hR, N, hM, hN⟩ := h.blk
  obtain ⟨f, N2, hline, hN2⟩ := h.line
  refine ⟨⟨vb, ps, ?_, owns_set ho (Nat.lt_succ_self a.L) _, hpl, hnd, hvb, ?_, N, hM.setCell (fun e => hM.ne_row hL e.symm) _, hN⟩, ⟨f, N2, hline.stays (B := a.top) ((Below.refl a.top w).setCell (show a.top ≤ (⟨a.L, 6, none⟩ : Addr).block from h.lays.t1.1) _) (Nat.le_refl _), hN2⟩, h.lays.grow (Nat.le_of_eq hs.symm), ?_, by omega, ?_, ?_⟩
  · have := hL.put 6 (.int .i64 ((st.ticks : Int) + 1))
    exact this
  · have := hR.keep (w' := w.setCell ⟨a.L, 6, none⟩ (.int .i64 ((st.ticks : Int) + 1))) h.lays (fun k _ h1 _ _ => Below.heap_setCell _ _ _ _ h1)
    exact ⟨this.invs, this.mem, this.calls, this.objs, this.obj⟩
  · have := h.tj; show st.ticks + 1 + st.idle = j + 1; omega
  · have := h.evl; show st.evs.length ≤ st.ticks + 1; omega
  · intro v hv; have := h.stl v hv; show v.steps ≤ st.ticks + 1; omega
theorem LoomG.idle (h : LoomG K cs a j col w st) (hj : j < 65536) (hs : w'.heap.size = w.heap.size) (hw : w' = w.setCell ⟨a.L, 7, none⟩ (.int .i64 ((st.idle : Int) + 1))) : LoomG K cs a (j + 1) col w' { st with idle := st.idle + 1 } := by
  subst hw
  obtain ⟨vb, ps, hL, ho, hpl, hnd, hvb, hR, N, hM, hN⟩ := h.blk
  obtain ⟨f, N2, hline, hN2⟩ := h.line
  refine ⟨⟨vb, ps, ?_, owns_set ho (Nat.lt_succ_self a.L) _, hpl, hnd, hvb, ?_, N, hM.setCell (fun e => hM.ne_row hL e.symm) _, hN⟩, ⟨f, N2, hline.stays (B := a.top) ((Below.refl a.top w).setCell (show a.top ≤ (⟨a.L, 7, none⟩ : Addr).block from h.lays.t1.1) _) (Nat.le_refl _), hN2⟩, h.lays.grow (Nat.le_of_eq hs.symm), ?_, by omega, h.evl, h.stl⟩
  · have := hL.put 7 (.int .i64 ((st.idle : Int) + 1))
    exact this
  · have := hR.keep (w' := w.setCell ⟨a.L, 7, none⟩ (.int .i64 ((st.idle : Int) + 1))) h.lays (fun k _ h1 _ _ => Below.heap_setCell _ _ _ _ h1)
    exact ⟨this.invs, this.mem, this.calls, this.objs, this.obj⟩
  · have := h.tj; show st.ticks + (st.idle + 1) = j + 1; omega

theorem recol_ex (F FO' : Nat → Prop) (old : Nat → Nat) (c wipe : Nat) : ∃ col' : Nat → Nat, ∀ b, (F b → col' b = c) ∧ (¬ F b → FO' b → col' b = 1) ∧ (¬ F b → ¬ FO' b → (old b = 1 ∨ old b = wipe) → col' b = 0) ∧ (¬ F b → ¬ FO' b → old b ≠ 1 → old b ≠ wipe → col' b = old b) := by
  classical
  refine ⟨fun b => if F b then c else if FO' b then 1 else if old b = 1 ∨ old b = wipe then 0 else old b, fun b => ⟨fun h => ?_, fun h h' => ?_, fun h h' h2 => ?_, fun h h' h2 h3 => ?_⟩⟩
  · simp only [if_pos h]
  · simp only [if_neg h, if_pos h']
  · simp only [if_neg h, if_neg h', if_pos h2]
  · simp only [if_neg h, if_neg h', if_neg (not_or.2 ⟨h2, h3⟩)]
theorem curV_eq {ps qs : List Nat} {cur cur' : Int → Option Nat} {p : Int} (h : cur p = cur' p) (h2 : ∀ e, cur p = some e → ps[e]? = qs[e]?) : curV ps cur p = curV qs cur' p := by
  unfold curV
  rw [← h]
  cases hc : cur p with
  | none => rfl
  | some e => simp only [h2 e hc]

/-- behind invoke -/
theorem LoomG.begun (h : LoomG K cs a j col w st) {i : Nat} {x : CallV} {p : Int} {vb : Value} {N0 : Nat} {en : Ending}
    (hL : RowBlk 78 w a.L (loomVs (.slice a.aoC cs.length a.capC) a.lb a.bm (.slice (some ⟨a.go, 0, none⟩) K.objs.length a.capo) vb a.mc st.ticks st.idle))
    (ho : w.ownsRow (a.L + 1) 81 1 vb st.evs.length (ps.map ptr)) (hpl : ps.length = st.evs.length) (hnd : ∀ i k x : Nat, ps[i]? = some x → ps[k]? = some x → i = k) (hvb : ∀ k, vb.ownBlock = some k → col k = 0) (hR : RestG K cs a col w st ps) (hN : N0 ≤ st.evs.length) (hM : MapIs Try.prog 3 w a.mc N0 (.pointer none) (curV ps st.cur))
    (hev : st.evs.length < st.ticks) (hcur : ∀ p e, st.cur p = some e → e < st.evs.length)
    (hI : InvPost K (invQ st.s x) (fun b => col b = 1) (.slice a.aoC cs.length a.capC) a.L a.lb a.bm (.slice (some ⟨a.go, 0, none⟩) K.objs.length a.capo) vb a.mc st.ticks st.idle i N0 st.evs.length p (curV ps st.cur) (ps.map ptr) w en w') :
    en = .returned (.tuple #[]) ∧ (∃ col', LoomG K cs a j col' w' (st.begin i x p)) ∧ Below a.B0 w w' := by
  obtain ⟨rfl, g, vb', opv, F, FO', hL', hG', hM', ho', ⟨hg, hgF, hgO⟩, hO', hQ', hF, hFO, hvb', hB⟩ := hI
  have hl := h.lays
  have h1 := hl.lsep
  have h2 := hl.t1
  have h3 := hl.mne
  have h4 := hl.c0
  have h5 := hl.b0
  have hlt := hL.lt
  have hz := hB.size
  have hmcl := hM.lt
  obtain ⟨col', hcol⟩ := recol_ex F FO' col (st.evs.length + 2) 1
  have out : ∀ b, w.heap.size ≤ b → col b = 0 := fun b hb => by
    rcases Nat.eq_zero_or_pos (col b) with h | h
    · exact h
    · have := (hl.cT b (by omega)).2.1; omega
  have nF : ∀ b, b < w.heap.size → ¬ F b := fun b hb h => by have := (hF b h).1; omega
  have nO : ∀ b, b < w.heap.size → col b ≠ 1 → ¬ FO' b := fun b hb hc h => (hFO b h).2.1.elim hc (fun h => by omega)
  have same : ∀ b, b < w.heap.size → col b ≠ 1 → col' b = col b := fun b hb hc => (hcol b).2.2.2 (nF b hb) (nO b hb hc) hc hc
  have z0 : ∀ b, b < w.heap.size → col b = 0 → col' b = 0 := fun b hb hc => (same b hb (by omega)).trans hc
  have ge : ∀ b, w.heap.size ≤ b → ¬ F b → ¬ FO' b → col' b = 0 := fun b hb h h' => by
    have h0 := out b hb
    rw [(hcol b).2.2.2 h h' (by omega) (by omega)]
    exact h0
  have own : ∀ k, vb.ownBlock = some k → a.L + 1 ≤ k ∧ k < w.heap.size := fun k hk => ho.lt k hk
  have blk : ∀ b, b < w.heap.size → b ≠ a.L → b ≠ a.mc → vb.ownBlock ≠ some b → col b ≠ 1 → w'.heap[b]? = w.heap[b]? := fun b hb c1 c2 c3 c4 => hB.block b hb (fun h => h.elim c1 (fun h => h.elim c2 (fun h => h.elim c3 c4)))
  have low : ∀ b, b < w.heap.size → b < a.L → b ≠ a.mc → col b = 0 → w'.heap[b]? = w.heap[b]? := fun b hb c1 c2 c3 => blk b hb (by omega) c2 (fun e => by have := own b e; omega) (by omega)
  have hgps : ∀ k x, ps[k]? = some x → x < w.heap.size := fun k x hk => by
    have hkl := (List.getElem?_eq_some_iff.1 hk).1
    obtain ⟨v, hv⟩ : ∃ v, st.evs[k]? = some v := ⟨st.evs[k]'(by omega), List.getElem?_eq_getElem _⟩
    obtain ⟨g', hg', _, _, _, _, _, hr, _⟩ := hR.invs k v hv
    rw [hk] at hg'; cases hg'
    exact hr.lt
  refine ⟨rfl, ⟨col', ⟨vb', ps ++ [g], hL', ?_, ?_, ?_, ?_, ⟨?_, ?_, ?_, ?_, ?_⟩, N0 + 1, ?_, ?_⟩, ?_, ?_, h.tj, h.jl, ?_, ?_⟩, ?_⟩
  · rw [List.map_append]
    show w'.ownsRow (a.L + 1) 81 1 vb' (st.evs ++ [_]).length _
    rw [List.length_append]
    exact ho'
  · show (ps ++ [g]).length = (st.evs ++ [_]).length
    rw [List.length_append, List.length_append, hpl]; rfl
  · intro i k x hi hk
    have cases1 : ∀ n, (ps ++ [g])[n]? = some x → (ps[n]? = some x ∧ n < ps.length) ∨ (n = ps.length ∧ x = g) := fun n hn => by
      by_cases hnl : n < ps.length
      · rw [List.getElem?_append_left hnl] at hn; exact .inl ⟨hn, hnl⟩
      · rw [List.getElem?_append_right (by omega)] at hn
        have h0 : n - ps.length = 0 := by have := (List.getElem?_eq_some_iff.1 hn).1; simp at this; omega
        rw [h0] at hn; cases hn
        exact .inr ⟨by omega, rfl⟩
    rcases cases1 i hi with ⟨c1, _⟩ | ⟨c1, c2⟩ <;> rcases cases1 k hk with ⟨d1, _⟩ | ⟨d1, d2⟩
    · exact hnd i k x c1 d1
    · have := hgps i x c1; omega
    · have := hgps k x d1; omega
    · omega
  · intro k hk
    rcases hvb' k hk with h | ⟨c1, c2, c3⟩
    · exact z0 k (own k h).2 (hvb k h)
    · exact ge k c1 c2 c3
  · intro e v hv
    have hv' : (st.evs ++ [⟨i, st.ticks, 0, 0, ⟨0, 0, []⟩, [], (invQ st.s x).2⟩])[e]? = some v := hv
    by_cases he : e < st.evs.length
    · rw [List.getElem?_append_left he] at hv'
      obtain ⟨g', hg', c1, c2, c3⟩ := hR.invs e v hv'
      obtain ⟨vs0, hr⟩ : ∃ vs, RowBlk 117 w g' vs := by obtain ⟨_, _, _, hr, _⟩ := c3; exact ⟨_, hr⟩
      refine ⟨g', by rw [List.getElem?_append_left (by omega)]; exact hg', c1, z0 g' hr.lt c2, c3.keep (blk g' hr.lt (by omega) (by omega) (row_owns_ne hr ho (by decide)) (by omega)) (fun b hb => ?_) (fun b t ht htt hlb hcb => ?_)⟩
      · have hbs := (hl.cT b (by omega)).2.1
        exact ⟨blk b hbs (fun e => by rw [e] at hb; omega) (fun e => by rw [e] at hb; omega) (fun e => by have := hvb b e; omega) (by omega), by rw [same b hbs (by omega)]; exact hb⟩
      · exact ⟨blk b ht.lt (by omega) (by omega) (BlkT.ne_owns ht ho (by rcases htt with rfl | rfl <;> decide)) (by omega), z0 b ht.lt hcb⟩
    · rw [List.getElem?_append_right (by omega)] at hv'
      have h0 : e - st.evs.length = 0 := by have := (List.getElem?_eq_some_iff.1 hv').1; simp at this; omega
      rw [h0] at hv'; cases hv'
      have he' : e = st.evs.length := by omega
      subst he'
      refine ⟨g, by rw [List.getElem?_append_right (by omega), hpl, Nat.sub_self]; rfl, by omega, ge g hg hgF hgO, _, _, opv, hG', fun _ => ⟨rfl, rfl, rfl, rfl, hQ'.keep (fun _ _ => rfl) (fun b hb => (hcol b).1 hb)⟩, ListAt.nil _ _ _ _, ListAt.nil _ _ _ _⟩
  · exact hR.mem.of_blocks (low _ hR.mem.lt1 (by omega) (by omega) (by omega)) (low _ hR.mem.lt2 (by omega) (by omega) (by omega))
  · intro i x hx
    have hl0 : 0 < cs.length := by have := (List.getElem?_eq_some_iff.1 hx).1; omega
    have hg := hl.gsep hl0
    have hc := hR.calls i x hx
    have e : ∀ o, w'.cell? ⟨a.gc, o, none⟩ = w.cell? ⟨a.gc, o, none⟩ := fun o => by
      unfold World.cell?
      rw [low a.gc (World.block_lt_of_cell? w ⟨a.gc, _, none⟩ hc.1) (by omega) (by omega) (by omega)]
    rw [e, e, e, e, e, e]
    exact hc
  · intro i v hv
    have hg := hl.osep
    have hc := hR.objs i v hv
    rw [← hc]
    unfold World.cell?
    rw [low a.go (World.block_lt_of_cell? w ⟨a.go, _, none⟩ hc) (by omega) (by omega) (by omega)]
  · exact K.obj_keep hO' (fun _ _ => rfl) (fun b hb => (hcol b).2.1 (hFO b hb).2.2 hb)
  · have e : updF (curV ps st.cur) p (ptr g) = curV (ps ++ [g]) (st.begin i x p).cur := by
      funext q
      by_cases hq : q = p
      · subst hq
        rw [updF_same]
        unfold curV
        have : (st.begin i x q).cur q = some st.evs.length := updF_same _ _ _
        rw [this]
        simp only
        rw [List.getElem?_append_right (by omega), hpl, Nat.sub_self]
        rfl
      · rw [updF_other _ _ hq]
        exact curV_eq (updF_other _ _ hq).symm (fun e he => (List.getElem?_append_left (by rw [hpl]; exact hcur q e he)).symm)
    rw [← e]
    exact hM'
  · show N0 + 1 ≤ (st.evs ++ [_]).length
    rw [List.length_append]; exact Nat.succ_le_succ hN
  · obtain ⟨f, N2, hline, hN2⟩ := h.line
    exact ⟨f, N2, hline.stays (B := a.top) (hB.below (fun k hk => hk.elim (fun e => by omega) (fun hk => hk.elim (fun e => by omega) (fun hk => hk.elim (fun e => by have := own k e; omega) (fun e => (hl.cT k (by omega)).1)))) (by omega)) (Nat.le_refl _), hN2⟩
  · show LaysG cs a col' (st.evs ++ [_]).length w'
    rw [List.length_append]
    refine ⟨hl.haC, fun h0 => ?_, ?_, h1, ⟨h2.1, h2.2.1, h2.2.2.1, h2.2.2.2.1, h2.2.2.2.2.1, by omega⟩, h5, h3, ⟨z0 _ hlt h4.1, z0 _ (by omega) h4.2.1, z0 _ (by omega) h4.2.2.1, z0 _ (by omega) h4.2.2.2.1, z0 _ (by omega) h4.2.2.2.2⟩, fun b hb => ?_, fun b hb => ?_, fun b => ?_, hl.cl⟩
    · have hg := hl.gsep h0
      exact ⟨hg.1, hg.2.1, hg.2.2.1, hg.2.2.2.1, hg.2.2.2.2.1, hg.2.2.2.2.2.1, z0 _ (by omega) hg.2.2.2.2.2.2⟩
    · have hg := hl.osep
      exact ⟨hg.1, hg.2.1, hg.2.2.1, hg.2.2.2.1, hg.2.2.2.2.1, hg.2.2.2.2.2.1, z0 _ (by omega) hg.2.2.2.2.2.2⟩
    · by_cases hb1 : F b
      · have := hF b hb1; omega
      · by_cases hb2 : FO' b
        · have hb3 := hFO b hb2
          exact ⟨hb3.2.1.elim (fun h => (hl.cT b (by omega)).1) (fun h => by omega), hb3.1, hb3.2.1.elim (fun h => (hl.cT b (by omega)).2.2) (fun h => by omega)⟩
        · by_cases hb3 : col b = 1
          · have := (hcol b).2.2.1 hb1 hb2 (.inl hb3); omega
          · have hb4 := (hcol b).2.2.2 hb1 hb2 hb3 hb3
            have hb5 := hl.cT b (by omega)
            exact ⟨hb5.1, by omega, hb5.2.2⟩
    · by_cases hb1 : F b
      · have := hF b hb1; omega
      · by_cases hb2 : FO' b
        · have := (hcol b).2.1 hb1 hb2; omega
        · by_cases hb3 : col b = 1
          · have := (hcol b).2.2.1 hb1 hb2 (.inl hb3); omega
          · have hb4 := (hcol b).2.2.2 hb1 hb2 hb3 hb3
            exact hl.cL b (by omega)
    · show col' b < st.evs.length + 1 + 2
      have hb0 := hl.cE b
      by_cases hb1 : F b
      · have := (hcol b).1 hb1; omega
      · by_cases hb2 : FO' b
        · have := (hcol b).2.1 hb1 hb2; omega
        · by_cases hb3 : col b = 1
          · have := (hcol b).2.2.1 hb1 hb2 (.inl hb3); omega
          · have hb4 := (hcol b).2.2.2 hb1 hb2 hb3 hb3
            omega
  · show (st.evs ++ [_]).length ≤ st.ticks
    rw [List.length_append]; exact hev
  · intro v hv
    rcases List.mem_append.1 (show v ∈ st.evs ++ [_] from hv) with hv | hv
    · exact h.stl v hv
    · rw [List.mem_singleton] at hv; subst hv; exact Nat.zero_le _
  · exact hB.below (fun k hk => hk.elim (fun e => by omega) (fun hk => hk.elim (fun e => by omega) (fun hk => hk.elim (fun e => by have := own k e; omega) (fun e => (hl.cT k (by omega)).2.2)))) (by omega)
end
end Go.Proofs.Ytglpalomhhhmhaa
