/- Walk of loom: invoke. -/
import Derived.Test.YtjlopeijdmnacaaY3
namespace Go.Proofs.Ytjlopeijdmnacaa
open Go.RowKit

def ptr (g : Nat) : Value := .pointer (some ⟨g, 0, none⟩)
theorem zeroPt (w : World) : (zeroValue 119).run Try.prog w = .ok (.pointer none) w := by kernel_rfl
theorem infoPt : (Try.prog.info? 119).map (fun i => (i.zero, i.size, i.bytes)) = some (some (.pointer none), 1, 8) := by kernel_rfl

theorem cstores {w : World} {mc n : Nat} {f : Int → Value} (h : MapIs Try.prog 3 w mc n (.pointer none) f) (hn : n < maxLen) {p : Int} (hp : 0 ≤ p ∧ p < 16) :
    ∃ g : Value → World, (∀ v, (Instr.mapUpdate 115 (.map (some mc)) (.int .i64 p) v).run Try.prog w = .ok () (g v)) ∧ ∀ v, MapIs Try.prog 3 (g v) mc (n + 1) (.pointer none) (updF f p v) ∧ w.mapTurned (g v) mc :=
  ⟨fun v => Classical.choose (h.store Try.underlying3 Try.underlying115 hn hp v), fun v => (Classical.choose_spec (h.store Try.underlying3 Try.underlying115 hn hp v)).1,
    fun v => (Classical.choose_spec (h.store Try.underlying3 Try.underlying115 hn hp v)).2⟩

theorem MapIs.ne_row {P : Program} {k t : TypeId} {w : World} {b n g : Nat} {z : Value} {f : Int → Value} {vs : List Value} (h : MapIs P k w b n z f) (hr : RowBlk t w g vs) : g ≠ b := by
  intro e; subst e; exact h.no_cells hr

theorem calls_drew {w : World} {b o : Nat} {l : List CallV} (h : CallsAt w b o l) : CallsAt w.drew b o l := h

def InvPost (cv : Value) (L lb bm : Nat) (ov vb : Value) (mc : Nat) (ticks idle : Int) (i N k : Nat) (p : Int) (f : Int → Value) (ps : List Value) (op : Value) (w : World) (e : Ending) (w' : World) : Prop :=
  e = .returned (.tuple #[]) ∧ ∃ g vb', RowBlk 118 w' L (loomVs cv lb bm ov vb' mc ticks idle) ∧ RowBlk 151 w' g (invVs i ticks 0 0 0 0 (.slice none 0 0) (.slice none 0 0) op) ∧
    MapIs Try.prog 3 w' mc (N + 1) (.pointer none) (updF f p (ptr g)) ∧ w'.ownsRow (L + 1) 119 1 vb' (k + 1) (ps ++ [ptr g]) ∧ w.heap.size ≤ g ∧ ButS (fun k => k = L ∨ k = mc ∨ vb.ownBlock = some k) w w'

set_option maxRecDepth 100000 in
set_option maxHeartbeats 4000000 in
theorem invoke_any (L lb bm mc go capo gc capC N k i : Nat) (aoC : Option Addr) (cs : List CallV) (x : CallV) (vb obj opv : Value) (ticks idle p er : Int) (f : Int → Value) (ps : List Value) (w : World)
    (hL : RowBlk 118 w L (loomVs (.slice aoC cs.length capC) lb bm (.slice (some ⟨go, 0, none⟩) 1 capo) vb mc ticks idle)) (ho : w.cell? ⟨go, 0, none⟩ = some obj) (hC : CallsAt w gc 0 cs) (haC : 0 < cs.length → aoC = some ⟨gc, 0, none⟩)
    (hcl : cs.length ≤ 1000) (hx : cs[i]? = some x) (hI : InvOk (if x.o = 0 then obj else .iface 160 (.agg #[])) x opv er) (hM : MapIs Try.prog 3 w mc N (.pointer none) f) (hN : N < maxLen) (hp : 0 ≤ p ∧ p < 16)
    (hown : w.ownsRow (L + 1) 119 1 vb k ps) (hk : k ≤ 4294967296) (hop : ∃ t u, opOf opv er = .iface t u) :
    Calls Try.prog 48 #[.pointer (some ⟨L, 0, none⟩), .int .i64 p, .int .i64 (i : Int)] w (InvPost (.slice aoC cs.length capC) L lb bm (.slice (some ⟨go, 0, none⟩) 1 capo) vb mc ticks idle i N k p f ps (opOf opv er) w) := by
  have hil : i < cs.length := (List.getElem?_eq_some_iff.1 hx).1
  obtain rfl := haC (by omega)
  obtain ⟨c0, c1, c2, c3, c4, c5, _⟩ := hC i x hx
  rw [Nat.zero_add] at c0 c1 c2 c3 c4 c5
  obtain ⟨tid, v, fid, hobj, hm, hent, hcall⟩ := hI
  have HCALL := Lib.hid hcall
  have HL := Lib.hid hL
  have HM := Lib.hid hM
  have HOWN := Lib.hid hown
  have hLlt := hL.lt
  have l0 : w.cell? ⟨L, 0, none⟩ = some (.slice (some ⟨gc, 0, none⟩) cs.length capC) := hL.cell rfl
  have hi0 : (0 : Int) ≤ (i : Int) := Int.natCast_nonneg _
  have hi1 : (i : Int) < (cs.length : Int) := by omega
  obtain ⟨iI, ia, ib, ic, id⟩ := info_parts infoPt
  have HOB : Hid (Calls Try.prog 56 #[.pointer (some ⟨L, 0, none⟩), .int .i64 x.o] (w.alloc (.cells #[.int .i64 x.t, .int .i64 x.o, .int .i64 x.k, .int .u64 x.a, .int .u64 x.b, .int .u64 x.c] 45)).drew
      fun e w' => e = .returned (.iface tid v) ∧ (w.alloc (.cells #[.int .i64 x.t, .int .i64 x.o, .int .i64 x.k, .int .u64 x.a, .int .u64 x.b, .int .u64 x.c] 45)).drew = w') := Lib.hid (by
    have hgl := World.block_lt_of_cell? w ⟨go, 0, none⟩ ho
    have h := object_any L lb bm mc go capo (.slice (some ⟨gc, 0, none⟩) cs.length capC) vb obj ticks idle x.o (w.alloc (.cells #[.int .i64 x.t, .int .i64 x.o, .int .i64 x.k, .int .u64 x.a, .int .u64 x.b, .int .u64 x.c] 45)).drew (hL.alloc _).drew (by show (w.alloc _).cell? _ = _; rw [World.cell?_alloc_past _ _ _ hgl]; exact ho)
    rw [hobj] at h
    exact h)
  clear hL hM hown hcall hobj ho hx hC
  go_enter Try.func48, Try.ntmps48
  go_wp2_with fail
  have HL1 := Lib.hid (HL.out.alloc (.cells #[.int .i64 x.t, .int .i64 x.o, .int .i64 x.k, .int .u64 x.a, .int .u64 x.b, .int .u64 x.c] 45))
  have HM1 := Lib.hid (HM.out.alloc (.cells #[.int .i64 x.t, .int .i64 x.o, .int .i64 x.k, .int .u64 x.a, .int .u64 x.b, .int .u64 x.c] 45))
  have HO1 := Lib.hid (HOWN.out.alloc (.cells #[.int .i64 x.t, .int .i64 x.o, .int .i64 x.k, .int .u64 x.a, .int .u64 x.b, .int .u64 x.c] 45))
  have HB1 : Hid (ButS (fun k => k = L ∨ k = mc ∨ vb.ownBlock = some k) w (w.alloc (.cells #[.int .i64 x.t, .int .i64 x.o, .int .i64 x.k, .int .u64 x.a, .int .u64 x.b, .int .u64 x.c] 45))) := Lib.hid ((ButS.refl _ _).alloc _)
  have HC1 : Hid (RowBlk 45 (w.alloc (.cells #[.int .i64 x.t, .int .i64 x.o, .int .i64 x.k, .int .u64 x.a, .int .u64 x.b, .int .u64 x.c] 45)) w.heap.size [.int .i64 x.t, .int .i64 x.o, .int .i64 x.k, .int .u64 (x.a : Int), .int .u64 (x.b : Int), .int .u64 (x.c : Int)]) := Lib.hid (RowBlk.new _ _ _)
  clear c0 c1 c2 c3 c4 c5 l0 HL HM HOWN
  generalize w.alloc (.cells #[.int .i64 x.t, .int .i64 x.o, .int .i64 x.k, .int .u64 x.a, .int .u64 x.b, .int .u64 x.c] 45) = W1 at HL1 HM1 HO1 HB1 HC1 HOB ⊢
  have d0 := HC1.out.cell (i := 0) rfl
  have d1 := HC1.out.cell (i := 1) rfl
  have d2 := HC1.out.cell (i := 2) rfl
  have d3 := HC1.out.cell (i := 3) rfl
  have d4 := HC1.out.cell (i := 4) rfl
  have d5 := HC1.out.cell (i := 5) rfl
  have hws := HB1.out.size
  go_region_held3 (fun w' => w'.cell? ⟨w.heap.size, 0, none⟩ = some (.int .i64 x.t) ∧ w'.cell? ⟨w.heap.size, 1, none⟩ = some (.int .i64 x.o) ∧ w'.cell? ⟨w.heap.size, 2, none⟩ = some (.int .i64 x.k) ∧ w'.cell? ⟨w.heap.size, 3, none⟩ = some (.int .u64 (x.a : Int)) ∧ w'.cell? ⟨w.heap.size, 4, none⟩ = some (.int .u64 (x.b : Int)) ∧ w'.cell? ⟨w.heap.size, 5, none⟩ = some (.int .u64 (x.c : Int)))
    (first | exact ⟨e0, e1, e2, e3, e4, e5⟩ | go_keep)
    (first
      | (go_at_call 56
         refine HOB.out.mono ?_
         rintro e w2 ⟨rfl, rfl⟩)
      | (refine (HCALL.out _).mono ?_
         rintro e w3 ⟨rfl, hb3⟩
         have hc3 : RowBlk 45 w3 w.heap.size [.int .i64 x.t, .int .i64 x.o, .int .i64 x.k, .int .u64 (x.a : Int), .int .u64 (x.b : Int), .int .u64 (x.c : Int)] := RowBlk.same HC1.out.drew (hb3.block _ HC1.out.lt)
         have e0 := hc3.cell (i := 0) rfl
         have e1 := hc3.cell (i := 1) rfl
         have e2 := hc3.cell (i := 2) rfl
         have e3 := hc3.cell (i := 3) rfl
         have e4 := hc3.cell (i := 4) rfl
         have e5 := hc3.cell (i := 5) rfl
         have HB3 := Lib.hid hb3
         clear hb3 hc3))
  have hb3 := HB3.out
  have hs3 : W1.heap.size ≤ w3.heap.size := hb3.size
  have HL3 : Hid (RowBlk 118 w3 L (loomVs (.slice (some ⟨gc, 0, none⟩) cs.length capC) lb bm (.slice (some ⟨go, 0, none⟩) 1 capo) vb mc ticks idle)) := Lib.hid (HL1.out.drew.same (hb3.block _ HL1.out.lt))
  have HM3 : Hid (MapIs Try.prog 3 w3 mc N (.pointer none) f) := Lib.hid (HM1.out.drew.below hb3 HM1.out.lt)
  have HO3 : Hid (w3.ownsRow (L + 1) 119 1 vb k ps) := Lib.hid (owns_below (w := W1.drew) HO1.out hb3)
  have HBB : Hid (ButS (fun k => k = L ∨ k = mc ∨ vb.ownBlock = some k) w w3) := Lib.hid (HB1.out.drew.trans (ButS.of_below hb3))
  clear hb3 HB3 HC1 HL1 HM1 HO1 HB1 HOB HCALL d0 d1 d2 d3 d4 d5 e0 e1 e2 e3 e4 e5
  have l6 : w3.cell? ⟨L, 6, none⟩ = some (.int .i64 ticks) := HL3.out.cell rfl
  have l4' : w3.cell? ⟨L, 4, none⟩ = some vb := HL3.out.cell rfl
  have hLl3 := HL3.out.lt
  by_cases her : er = 0
  · have HOP : Hid (opOf opv er = opv) := Lib.hid (by unfold opOf; rw [if_pos her])
    obtain ⟨ot, ou, hopv⟩ := hop
    rw [HOP.out] at hopv
    subst hopv
    subst her
    go_wp2_with (at_builtin; refine append_at1 rfl _ _ 116 rfl (L + 1) 119 iI (.pointer none) Try.underlying116 ia ib ic id rfl vb k ps rfl (HO3.out.alloc _) (ptr w3.heap.size) (w3.heap.size + 1) (by simp) rfl rfl hk (by simp; omega) ?_)
    intro v1 w5 ho5 hg5 hl5
    obtain ⟨ao1, g1, cap1, hv1, hao1, hrest1⟩ := owns_open ho5
    obtain rfl := hao1 (Nat.succ_pos k)
    subst hv1
    clear hrest1 hao1
    clear hl5
    have hfr : ButS (fun k => k = L ∨ k = mc ∨ vb.ownBlock = some k) w w5 := ((HBB.out.alloc _).alloc _).trans (ButS.of_grown hg5 (fun k hk => .inr (.inr hk)))
    have HF5 := Lib.hid hfr
    have HL5 : Hid (RowBlk 118 w5 L (loomVs (.slice (some ⟨gc, 0, none⟩) cs.length capC) lb bm (.slice (some ⟨go, 0, none⟩) 1 capo) vb mc ticks idle)) := Lib.hid (((HL3.out.alloc _).alloc _).same (hg5.block L (by simp; omega) (fun e => by have := (HO3.out.lt L e.symm).1; omega)))
    have HI5 : Hid (RowBlk 151 w5 w3.heap.size (invVs i ticks 0 0 0 0 (.slice none 0 0) (.slice none 0 0) (opOf (.iface ot ou) 0))) := Lib.hid (by
      rw [HOP.out]
      exact ((RowBlk.new w3 _ _).alloc _).same (hg5.block w3.heap.size (by simp; omega) (fun e => by have := (HO3.out.lt _ e.symm).2; omega)))
    have HM5 : Hid (MapIs Try.prog 3 w5 mc N (.pointer none) f) := Lib.hid (((HM3.out.alloc _).alloc _).kept hg5 (fun e => owns_no_map HM3.out HO3.out e.symm))
    have HO5 := Lib.hid ho5
    have l4 : w5.cell? ⟨L, 4, none⟩ = some vb := HL5.out.cell rfl
    have lf4 : w5.frozen? ⟨L, 4, none⟩ = false := HL5.out.free
    have hLI : L ≠ w3.heap.size := by omega
    have HL6 : Hid (RowBlk 118 (w5.setCell ⟨L, 4, none⟩ (.slice (some ⟨g1, 0, none⟩) (k + 1) cap1)) L (loomVs (.slice (some ⟨gc, 0, none⟩) cs.length capC) lb bm (.slice (some ⟨go, 0, none⟩) 1 capo) (.slice (some ⟨g1, 0, none⟩) (k + 1) cap1) mc ticks idle)) := Lib.hid (HL5.out.put 4 (.slice (some ⟨g1, 0, none⟩) (k + 1) cap1))
    have HI6 := Lib.hid (HI5.out.other (a := ⟨L, 4, none⟩) (fun e => hLI e.symm) (.slice (some ⟨g1, 0, none⟩) (k + 1) cap1))
    have HM6 := Lib.hid (HM5.out.setCell (a := ⟨L, 4, none⟩) (fun e => HM5.out.ne_row HL5.out e.symm) (.slice (some ⟨g1, 0, none⟩) (k + 1) cap1))
    have HO6 := Lib.hid (owns_set HO5.out (a := ⟨L, 4, none⟩) (Nat.lt_succ_self L) (.slice (some ⟨g1, 0, none⟩) (k + 1) cap1))
    have HF6 := Lib.hid (HF5.out.setCell (x := ⟨L, 4, none⟩) (.inl (.inl rfl)) (.slice (some ⟨g1, 0, none⟩) (k + 1) cap1))
    have l5 : (w5.setCell ⟨L, 4, none⟩ (.slice (some ⟨g1, 0, none⟩) (k + 1) cap1)).cell? ⟨L, 5, none⟩ = some (.map (some mc)) := HL6.out.cell rfl
    obtain ⟨gs, hst, hgs⟩ := cstores HM6.out hN hp
    have HGS := Lib.hid hgs
    clear ho5 hg5 hfr hgs
    go_wp2_with fail
    go_end0
    obtain ⟨hM7, hT7⟩ := HGS.out (ptr w3.heap.size)
    have hg7 := hT7.grown
    refine ⟨rfl, w3.heap.size, .slice (some ⟨g1, 0, none⟩) (k + 1) cap1, HL6.out.same (hg7.block L HL6.out.lt (fun e => HM6.out.ne_row HL6.out (by cases e; rfl))), HI6.out.same (hg7.block _ HI6.out.lt (fun e => HM6.out.ne_row HI6.out (by cases e; rfl))), hM7, HO6.out.kept hg7 ?_, by omega, HF6.out.trans (ButS.of_grown hg7 (fun k hk => .inr (.inl (by cases hk; rfl))))⟩
    cases hb : (Value.slice (some ⟨g1, 0, none⟩) (k + 1) cap1).ownBlock with
    | none => exact .inl rfl
    | some g => right; intro e; exact owns_no_map HM6.out HO6.out (by rw [hb]; exact e)
  · have HOP : Hid (opOf opv er = .iface 149 (.agg #[.int .i64 er])) := Lib.hid (by unfold opOf; rw [if_neg her])
    go_wp2_with (at_builtin; refine append_at1 rfl _ _ 116 rfl (L + 1) 119 iI (.pointer none) Try.underlying116 ia ib ic id rfl vb k ps rfl (HO3.out.alloc _) (ptr w3.heap.size) (w3.heap.size + 1) (by simp) rfl rfl hk (by simp; omega) ?_)
    intro v1 w5 ho5 hg5 hl5
    obtain ⟨ao1, g1, cap1, hv1, hao1, hrest1⟩ := owns_open ho5
    obtain rfl := hao1 (Nat.succ_pos k)
    subst hv1
    clear hrest1 hao1
    clear hl5
    have hfr : ButS (fun k => k = L ∨ k = mc ∨ vb.ownBlock = some k) w w5 := ((HBB.out.alloc _).alloc _).trans (ButS.of_grown hg5 (fun k hk => .inr (.inr hk)))
    have HF5 := Lib.hid hfr
    have HL5 : Hid (RowBlk 118 w5 L (loomVs (.slice (some ⟨gc, 0, none⟩) cs.length capC) lb bm (.slice (some ⟨go, 0, none⟩) 1 capo) vb mc ticks idle)) := Lib.hid (((HL3.out.alloc _).alloc _).same (hg5.block L (by simp; omega) (fun e => by have := (HO3.out.lt L e.symm).1; omega)))
    have HI5 : Hid (RowBlk 151 w5 w3.heap.size (invVs i ticks 0 0 0 0 (.slice none 0 0) (.slice none 0 0) (opOf opv er))) := Lib.hid (by
      rw [HOP.out]
      exact ((RowBlk.new w3 _ _).alloc _).same (hg5.block w3.heap.size (by simp; omega) (fun e => by have := (HO3.out.lt _ e.symm).2; omega)))
    have HM5 : Hid (MapIs Try.prog 3 w5 mc N (.pointer none) f) := Lib.hid (((HM3.out.alloc _).alloc _).kept hg5 (fun e => owns_no_map HM3.out HO3.out e.symm))
    have HO5 := Lib.hid ho5
    have l4 : w5.cell? ⟨L, 4, none⟩ = some vb := HL5.out.cell rfl
    have lf4 : w5.frozen? ⟨L, 4, none⟩ = false := HL5.out.free
    have hLI : L ≠ w3.heap.size := by omega
    have HL6 : Hid (RowBlk 118 (w5.setCell ⟨L, 4, none⟩ (.slice (some ⟨g1, 0, none⟩) (k + 1) cap1)) L (loomVs (.slice (some ⟨gc, 0, none⟩) cs.length capC) lb bm (.slice (some ⟨go, 0, none⟩) 1 capo) (.slice (some ⟨g1, 0, none⟩) (k + 1) cap1) mc ticks idle)) := Lib.hid (HL5.out.put 4 (.slice (some ⟨g1, 0, none⟩) (k + 1) cap1))
    have HI6 := Lib.hid (HI5.out.other (a := ⟨L, 4, none⟩) (fun e => hLI e.symm) (.slice (some ⟨g1, 0, none⟩) (k + 1) cap1))
    have HM6 := Lib.hid (HM5.out.setCell (a := ⟨L, 4, none⟩) (fun e => HM5.out.ne_row HL5.out e.symm) (.slice (some ⟨g1, 0, none⟩) (k + 1) cap1))
    have HO6 := Lib.hid (owns_set HO5.out (a := ⟨L, 4, none⟩) (Nat.lt_succ_self L) (.slice (some ⟨g1, 0, none⟩) (k + 1) cap1))
    have HF6 := Lib.hid (HF5.out.setCell (x := ⟨L, 4, none⟩) (.inl (.inl rfl)) (.slice (some ⟨g1, 0, none⟩) (k + 1) cap1))
    have l5 : (w5.setCell ⟨L, 4, none⟩ (.slice (some ⟨g1, 0, none⟩) (k + 1) cap1)).cell? ⟨L, 5, none⟩ = some (.map (some mc)) := HL6.out.cell rfl
    obtain ⟨gs, hst, hgs⟩ := cstores HM6.out hN hp
    have HGS := Lib.hid hgs
    clear ho5 hg5 hfr hgs
    go_wp2_with fail
    go_end0
    obtain ⟨hM7, hT7⟩ := HGS.out (ptr w3.heap.size)
    have hg7 := hT7.grown
    refine ⟨rfl, w3.heap.size, .slice (some ⟨g1, 0, none⟩) (k + 1) cap1, HL6.out.same (hg7.block L HL6.out.lt (fun e => HM6.out.ne_row HL6.out (by cases e; rfl))), HI6.out.same (hg7.block _ HI6.out.lt (fun e => HM6.out.ne_row HI6.out (by cases e; rfl))), hM7, HO6.out.kept hg7 ?_, by omega, HF6.out.trans (ButS.of_grown hg7 (fun k hk => .inr (.inl (by cases hk; rfl))))⟩
    cases hb : (Value.slice (some ⟨g1, 0, none⟩) (k + 1) cap1).ownBlock with
    | none => exact .inl rfl
    | some g => right; intro e; exact owns_no_map HM6.out HO6.out (by rw [hb]; exact e)
end Go.Proofs.Ytjlopeijdmnacaa
