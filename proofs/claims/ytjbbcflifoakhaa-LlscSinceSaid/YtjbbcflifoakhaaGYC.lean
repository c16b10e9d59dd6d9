/- Walks of linked words: the steps. | Walks of linked words: a store's step, a check's step. -/
import Derived.Test.YtjbbcflifoakhaaGYB
import Derived.Test.YtjbbcflifoakhaaOAs
import Derived.Test.YtjbbcflifoakhaaOA
import Derived.Test.YtjbbcflifoakhaaZ8
import Derived.Deep.Cut
namespace Go.Proofs.Ytjbbcflifoakhaa
section
open Go.ChangeShapes Go.WideShapes Go.ChangeAt Go.RowKit
set_option linter.unusedVariables false
set_option linter.unusedSimpArgs false
theorem ll_wrap64 {x : Nat} (h : x < 18446744073709551616) : IntKind.u64.wrap (x : Int) = (x : Int) := by unfold IntKind.wrap; simp [IntKind.bits, IntKind.signed]; omega
def LdEnd (m bm bw p N : Nat) (f : Int → Value) (x : Nat) (l : List Nat) (c : Cn) (w : World) (e : Ending) (w' : World) : Prop :=
  e = .returned (.tuple #[.agg #[.int .i64 0, .int .u64 ((x % 4294967296 : Nat) : Int), .slice none 0 0], .bool true]) ∧ MemIs 106 w' bm bw l c ∧ ButS (fun b => b = bm ∨ b = bw ∨ b = m) w w' ∧
    ∃ g, w.heap.size ≤ g ∧ g < w'.heap.size ∧ w'.cell? ⟨g, 0, none⟩ = some (.int .u64 (x : Int)) ∧ MapJs Try.prog 3 w' m (N + 1) (.pointer none) (updF f p (.pointer (some ⟨g, 0, none⟩)))
theorem ll_cstores {w : World} {mc n : Nat} {f : Int → Value} (h : MapJs Try.prog 3 w mc n (.pointer none) f) (hn : n < maxLen) {p : Int} (hp : 0 ≤ p ∧ p < 64) :
    ∃ g : Value → World, (∀ v, (Instr.mapUpdate 149 (.map (some mc)) (.int .i64 p) v).run Try.prog w = .ok () (g v)) ∧ ∀ v, MapJs Try.prog 3 (g v) mc (n + 1) (.pointer none) (updF f p v) ∧ w.mapTurned (g v) mc :=
  ⟨fun v => Classical.choose (h.store Try.underlying3 Try.underlying149 hn hp v), fun v => (Classical.choose_spec (h.store Try.underlying3 Try.underlying149 hn hp v)).1,
    fun v => (Classical.choose_spec (h.store Try.underlying3 Try.underlying149 hn hp v)).2⟩
theorem answer_store6 {w w4 : World} {g bm bw m n gx : Nat} {l : List Nat} {c : Cn} {f : Int → Value} {a b d : Value} {xs : List Value} (a' b' d' : Value) (hk : RowBlk 39 w4 g [a, b, d]) (hM : MemIs 106 w4 bm bw l c) (hB : ButS (fun b => b = bm ∨ b = bw ∨ b = m) w w4) (hP : MapJs Try.prog 3 w4 m n (.pointer none) f) (hX : RowBlk 37 w4 gx xs) (hg : w.heap.size ≤ g) (h1 : g ≠ bm) (h2 : g ≠ bw) (h3 : g ≠ m) (h4 : g ≠ gx) :
    RowBlk 39 (((w4.setCell ⟨g, 0, none⟩ a').setCell ⟨g, 1, none⟩ b').setCell ⟨g, 2, none⟩ d') g [a', b', d'] ∧ MemIs 106 (((w4.setCell ⟨g, 0, none⟩ a').setCell ⟨g, 1, none⟩ b').setCell ⟨g, 2, none⟩ d') bm bw l c ∧
      ButS (fun b => b = bm ∨ b = bw ∨ b = m) w (((w4.setCell ⟨g, 0, none⟩ a').setCell ⟨g, 1, none⟩ b').setCell ⟨g, 2, none⟩ d') ∧ MapJs Try.prog 3 (((w4.setCell ⟨g, 0, none⟩ a').setCell ⟨g, 1, none⟩ b').setCell ⟨g, 2, none⟩ d') m n (.pointer none) f ∧
      RowBlk 37 (((w4.setCell ⟨g, 0, none⟩ a').setCell ⟨g, 1, none⟩ b').setCell ⟨g, 2, none⟩ d') gx xs ∧ (((w4.setCell ⟨g, 0, none⟩ a').setCell ⟨g, 1, none⟩ b').setCell ⟨g, 2, none⟩ d').heap.size = w4.heap.size := by
  refine ⟨((hk.put 0 a').put 1 b').put 2 d', ((hM.setNew _ _ h1 h2).setNew _ _ h1 h2).setNew _ _ h1 h2, ((hB.setCell (.inr hg) _).setCell (.inr hg) _).setCell (.inr hg) _, ((hP.setCell (fun e => h3 e.symm) _).setCell (fun e => h3 e.symm) _).setCell (fun e => h3 e.symm) _, ((hX.other (fun e => h4 e.symm) _).other (fun e => h4 e.symm) _).other (fun e => h4 e.symm) _, by simp [World.setCell]⟩
set_option maxRecDepth 100000 in
set_option maxHeartbeats 2000000 in
theorem ll_load (m bm bw p N x : Nat) (f : Int → Value) (tick : Int) (l : List Nat) (c : Cn) (w : World) (hM : MemIs 106 w bm bw l c) (hm : MapJs Try.prog 3 w m N (.pointer none) f) (hN : N < maxLen) (hp : p < l.length) (h64 : p < 64) (hl : l.length ≤ 65536) (hc : c.r < 9223372036854775807) (hx : l.getD p 0 = x) :
    Calls Try.prog 66 #[.agg #[.int .i64 (p : Int), .int .i64 (p : Int), .map (some m)], turnAgg bm tick] w (LdEnd m bm bw p N f x l { c with r := c.r + 1 } w) := by
  unfold turnAgg LdEnd
  have HVL : Hid (∀ W : World, Calls Try.prog 65 #[.int .u64 (x : Int)] W fun e w' => e = .returned (.int .u64 ((x % 4294967296 : Nat) : Int)) ∧ W = w') := Lib.hid (ll_value x)
  generalize x % 4294967296 = y at HVL ⊢
  have HM := Lib.hid hM
  have HMP := Lib.hid hm
  have HSW : Hid (∀ W : World, MemIs 106 W bm bw l c → Calls Try.prog 72 #[.pointer (some ⟨bm, 0, none⟩), .int .i64 (p : Int)] W (AccPost (.int .u64 (x : Int)) (.rd p) bm bw l c W)) := Lib.hid (fun W hW => by rw [← hx]; exact rd_acc (i := p) hW hp hl hc)
  have hmm := m_Read ⟨bm, 0, none⟩
  have hbm := hM.lt1
  have hbw := hM.lt2
  have hml := hm.lt
  have hmb1 : m ≠ bm := by intro e; subst e; exact hm.no_cells hM.1
  have hmb2 : m ≠ bw := by intro e; subst e; exact hm.no_cells hM.2.1
  clear hM hm hx
  go_enter Try.func66, Try.ntmps66
  go_wp2_with fail
  generalize hw3 : ((w.alloc (.cells #[.int .i64 (p : Int), .int .i64 (p : Int), .map (some m)] 157)).alloc (.cells #[.iface 69 (.pointer (some ⟨bm, 0, none⟩)), .int .i64 tick] 85)).alloc (.cells #[.int .i64 0, .int .u64 0, .slice none 0 0] 39) = w3
  have HM3 : Hid (MemIs 106 w3 bm bw l c) := Lib.hid (by rw [← hw3]; exact ((HM.out.alloc _).alloc _).alloc _)
  have HP3 : Hid (MapJs Try.prog 3 w3 m N (.pointer none) f) := Lib.hid (by rw [← hw3]; exact ((HMP.out.alloc _).alloc _).alloc _)
  have HB3 : Hid (ButS (fun b => b = bm ∨ b = bw ∨ b = m) w w3) := Lib.hid (by rw [← hw3]; exact (((ButS.refl _ _).alloc _).alloc _).alloc _)
  have hs3 : w3.heap.size = w.heap.size + 1 + 1 + 1 := by rw [← hw3]; simp
  have hL3 : RowBlk 157 w3 w.heap.size [.int .i64 (p : Int), .int .i64 (p : Int), .map (some m)] := by rw [← hw3]; exact ((RowBlk.new _ _ _).alloc _).alloc _
  have hA3 : RowBlk 39 w3 (w.heap.size + 1 + 1) [.int .i64 0, .int .u64 0, .slice none 0 0] := by
    rw [← hw3]
    have := RowBlk.new ((w.alloc (.cells #[.int .i64 (p : Int), .int .i64 (p : Int), .map (some m)] 157)).alloc (.cells #[.iface 69 (.pointer (some ⟨bm, 0, none⟩)), .int .i64 tick] 85)) [.int .i64 0, .int .u64 0, .slice none 0 0] 39
    simpa using this
  clear hw3
  refine (HSW.out w3 HM3.out).mono ?_
  rintro e w4 ⟨rfl, hM4, hB4⟩
  have hL4 := hL3.same (hB4.block _ hL3.lt (by omega) (by omega))
  have hA4 := hA3.same (hB4.block _ hA3.lt (by omega) (by omega))
  have hP4 := HP3.out.sameB (hB4.block m (by omega) hmb1 hmb2)
  have HB4 := Lib.hid (HB3.out.trans (ButS.of_but hB4 (.inl rfl) (.inr (.inl rfl))))
  have hs4 : w3.heap.size ≤ w4.heap.size := hB4.size
  -- the word's own cell
  have HM5 : Hid (MemIs 106 (w4.alloc (.cells #[.int .u64 (x : Int)] 37)) bm bw l { c with r := c.r + 1 }) := Lib.hid (hM4.alloc _)
  have HP5 := Lib.hid (hP4.alloc (.cells #[.int .u64 (x : Int)] 37))
  have HB5 := Lib.hid (HB4.out.alloc (.cells #[.int .u64 (x : Int)] 37))
  have HX5 : Hid (RowBlk 37 (w4.alloc (.cells #[.int .u64 (x : Int)] 37)) w4.heap.size [.int .u64 (x : Int)]) := Lib.hid (RowBlk.new _ _ _)
  have hL5 := hL4.alloc (.cells #[.int .u64 (x : Int)] 37)
  have HA5 := Lib.hid (hA4.alloc (.cells #[.int .u64 (x : Int)] 37))
  have hs5 : (w4.alloc (.cells #[.int .u64 (x : Int)] 37)).heap.size = w4.heap.size + 1 := by simp
  have c0 := hL5.cell (i := 0) rfl
  have c1 := hL5.cell (i := 1) rfl
  have c2 := hL5.cell (i := 2) rfl
  clear hM4 hB4 hL3 hA3 hL4 hA4 hP4
  obtain ⟨gs, hst, hgs⟩ := ll_cstores HP5.out hN (p := (p : Int)) ⟨by omega, by omega⟩
  have hst' := hst (.pointer (some ⟨w4.heap.size, 0, none⟩))
  obtain ⟨hP6, hT6⟩ := hgs (.pointer (some ⟨w4.heap.size, 0, none⟩))
  generalize gs (.pointer (some ⟨w4.heap.size, 0, none⟩)) = w6 at hst' hP6 hT6
  clear hst hgs gs
  have hg6 := hT6.grown
  have hk6 : ∀ b, b < w4.heap.size + 1 → b ≠ m → w6.heap[b]? = (w4.alloc (.cells #[.int .u64 (x : Int)] 37)).heap[b]? := fun b hb hne => hg6.block b (by omega) (fun e => by cases e; exact hne rfl)
  have hL6 := hL5.same (hk6 w.heap.size (by omega) (by omega))
  have hA6 := HA5.out.same (hk6 (w.heap.size + 1 + 1) (by omega) (by omega))
  have hX6 := HX5.out.same (hk6 w4.heap.size (by omega) (by omega))
  have HM6 := Lib.hid (HM5.out.of_blocks (hk6 bm (by omega) (fun e => hmb1 e.symm)) (hk6 bw (by omega) (fun e => hmb2 e.symm)))
  have HB6 : Hid (ButS (fun b => b = bm ∨ b = bw ∨ b = m) w w6) := Lib.hid (HB5.out.trans ⟨hg6.os, hg6.tape, hg6.output, hg6.size, fun b hb hne => hg6.block b hb (fun e => by cases e; exact hne (.inr (.inr rfl)))⟩)
  have hs6 : w4.heap.size + 1 ≤ w6.heap.size := by have := hg6.size; omega
  have HX := Lib.hid (answer_store6 (.int .i64 0) (.int .u64 (y : Int)) (.slice none 0 0) hA6 HM6.out HB6.out hP6 hX6 (by omega) (by omega) (by omega) (by omega) (by omega))
  have x0 := hX6.cell (i := 0) rfl
  have k0 := hA6.cell (i := 0) rfl
  have k1 := hA6.cell (i := 1) rfl
  have k2 := hA6.cell (i := 2) rfl
  have f0 : w6.frozen? ⟨w.heap.size + 1 + 1, 0, none⟩ = false := hA6.free
  have f1 : w6.frozen? ⟨w.heap.size + 1 + 1, 1, none⟩ = false := hA6.free
  have f2 : w6.frozen? ⟨w.heap.size + 1 + 1, 2, none⟩ = false := hA6.free
  clear hL5 hL6 hA6 hX6 hP6 hT6 hg6 hk6
  go_wp2_with fail
  refine (HVL.out w6).mono ?_
  rintro e w7 ⟨rfl, rfl⟩
  go_wp2_with fail
  generalize ((w6.setCell ⟨w.heap.size + 1 + 1, 0, none⟩ (.int .i64 0)).setCell ⟨w.heap.size + 1 + 1, 1, none⟩ (.int .u64 (y : Int))).setCell ⟨w.heap.size + 1 + 1, 2, none⟩ (.slice none 0 0) = w8 at HX ⊢
  obtain ⟨hr, hm8, hb8, hp8, hx8, hs8⟩ := HX.out
  have q0 := hr.cell (i := 0) rfl
  have q1 := hr.cell (i := 1) rfl
  have q2 := hr.cell (i := 2) rfl
  exact bodyPost_ret (v := .tuple #[.agg #[.int .i64 0, .int .u64 (y : Int), .slice none 0 0], .bool true]) (by simp [results, Try.results66, go_sem, q0, q1, q2]) rfl ⟨rfl, hm8, hb8, w4.heap.size, by omega, by omega, hx8.cell rfl, hp8⟩
end
section
open Go.ChangeShapes Go.WideShapes Go.ChangeAt Go.RowKit
set_option linter.unusedVariables false
set_option linter.unusedSimpArgs false
theorem wpList_delete_js {P : Program} {w : World} {ops : Array Oper} {rest : List Oper} {o : Oper} {a : Act} {Q : Exit → Act → World → Prop} (hg : o.guard = none) (m x : Operand) (t k e : TypeId)
    (hop : o.op = Op.call { callee := Callee.builtin Builtin.delete, args := #[m, x], argTypes := #[t, k] }) (hk : P.underlying k = some (.int .i64)) (ht : P.underlying t = some (.map k e)) (b n : Nat) (z : Value) (f : Int → Value)
    (hm : a.eval m = .map (some b)) (hM : MapJs P k w b n z f) (p : Int) (hx : a.eval x = .int .i64 p) (hp : 0 ≤ p ∧ p < 64)
    (hK : ∀ w', MapJs P k w' b n z (updF f p z) → w.mapTurned w' b → wpList P ops Q rest (a.put o.dst (.tuple #[])) w') : wpList P ops Q (o :: rest) a w := by
  refine wpList_plain hg fun K' hK' => ?_
  obtain ⟨w', hrun, r1, r2⟩ := hM.drop hk ht hp o.type
  unfold Oper.wp
  simp [execOp, hop, resolve, invoke, builtin, hm, hx, hrun, Result.andThen]
  exact hK' _ _ (hK w' r1 r2)
def StEnd (m bm bw N : Nat) (f : Int → Value) (r : Nat) (l : List Nat) (c : Cn) (w : World) (e : Ending) (w' : World) : Prop :=
  e = .returned (.tuple #[.agg #[.int .i64 0, .int .u64 (r : Int), .slice none 0 0], .bool true]) ∧ MemIs 106 w' bm bw l c ∧ ButS (fun b => b = bm ∨ b = bw ∨ b = m) w w' ∧ MapJs Try.prog 3 w' m N (.pointer none) f
theorem answer_store7 {w w4 : World} {g bm bw m n : Nat} {l : List Nat} {c : Cn} {f : Int → Value} {a b d : Value} (a' b' d' : Value) (hk : RowBlk 39 w4 g [a, b, d]) (hM : MemIs 106 w4 bm bw l c) (hB : ButS (fun b => b = bm ∨ b = bw ∨ b = m) w w4) (hP : MapJs Try.prog 3 w4 m n (.pointer none) f) (hg : w.heap.size ≤ g) (h1 : g ≠ bm) (h2 : g ≠ bw) (h3 : g ≠ m) :
    RowBlk 39 (((w4.setCell ⟨g, 0, none⟩ a').setCell ⟨g, 1, none⟩ b').setCell ⟨g, 2, none⟩ d') g [a', b', d'] ∧ MemIs 106 (((w4.setCell ⟨g, 0, none⟩ a').setCell ⟨g, 1, none⟩ b').setCell ⟨g, 2, none⟩ d') bm bw l c ∧
      ButS (fun b => b = bm ∨ b = bw ∨ b = m) w (((w4.setCell ⟨g, 0, none⟩ a').setCell ⟨g, 1, none⟩ b').setCell ⟨g, 2, none⟩ d') ∧ MapJs Try.prog 3 (((w4.setCell ⟨g, 0, none⟩ a').setCell ⟨g, 1, none⟩ b').setCell ⟨g, 2, none⟩ d') m n (.pointer none) f := by
  refine ⟨((hk.put 0 a').put 1 b').put 2 d', ((hM.setNew _ _ h1 h2).setNew _ _ h1 h2).setNew _ _ h1 h2, ((hB.setCell (.inr hg) _).setCell (.inr hg) _).setCell (.inr hg) _, ((hP.setCell (fun e => h3 e.symm) _).setCell (fun e => h3 e.symm) _).setCell (fun e => h3 e.symm) _⟩
set_option maxRecDepth 100000 in
set_option maxHeartbeats 4000000 in
theorem ll_store (m bm bw p N v lk g : Nat) (f : Int → Value) (tick : Int) (l : List Nat) (c : Cn) (w : World) (hM : MemIs 106 w bm bw l c) (hm : MapJs Try.prog 3 w m N (.pointer none) f) (hp : p < l.length) (h64 : p < 64) (hl : l.length ≤ 65536) (hc : c.s < 9223372036854775807) (hlk : lk < 18446744073709551616)
    (hf : f (p : Int) = .pointer (some ⟨g, 0, none⟩)) (hg : w.cell? ⟨g, 0, none⟩ = some (.int .u64 (lk : Int))) :
    Calls Try.prog 67 #[.agg #[.int .i64 (p : Int), .int .i64 (p : Int), .map (some m), .int .u64 (v : Int)], turnAgg bm tick] w (StEnd m bm bw N (updF f p (.pointer none)) (yesN (decide (l.getD p 0 = lk))) ((Acc.sw p lk (llSucc lk v)).run l c).2.1 ((Acc.sw p lk (llSucc lk v)).run l c).2.2 w) := by
  obtain ⟨z, hz⟩ : ∃ z, llSucc lk v = z := ⟨_, rfl⟩
  have HSC : Hid (∀ W : World, Calls Try.prog 69 #[.int .u64 (lk : Int), .int .u64 (v : Int)] W fun e w' => e = .returned (.int .u64 (z : Int)) ∧ W = w') := Lib.hid (fun W => by rw [← hz]; exact ll_successor lk v hlk W)
  rw [hz]
  obtain ⟨d, hd⟩ : ∃ d, decide (l.getD p 0 = lk) = d := ⟨_, rfl⟩
  have HSW : Hid (∀ W : World, MemIs 106 W bm bw l c → Calls Try.prog 73 #[.pointer (some ⟨bm, 0, none⟩), .int .i64 (p : Int), .int .u64 (lk : Int), .int .u64 (z : Int)] W (AccPost (.bool d) (.sw p lk z) bm bw l c W)) := Lib.hid (fun W hW => by rw [← hd]; exact sw_acc (i := p) lk z hW hp hl hc)
  rw [hd]
  obtain ⟨L2, hL2⟩ : ∃ L2, ((Acc.sw p lk z).run l c).2.1 = L2 := ⟨_, rfl⟩
  obtain ⟨C2, hC2⟩ : ∃ C2, ((Acc.sw p lk z).run l c).2.2 = C2 := ⟨_, rfl⟩
  unfold AccPost at HSW
  rw [hL2, hC2] at HSW ⊢
  obtain ⟨yr, hyr⟩ : ∃ yr, yesN d = yr := ⟨_, rfl⟩
  have HYS : Hid (∀ W : World, Calls Try.prog 68 #[.bool d] W fun e w' => e = .returned (.agg #[.int .i64 0, .int .u64 (yr : Int), .slice none 0 0]) ∧ Below W.heap.size W w') := Lib.hid (fun W => by rw [← hyr]; exact ll_yes d W)
  rw [hyr]
  unfold turnAgg StEnd
  have HM := Lib.hid hM
  have HMP := Lib.hid hm
  have hmm := m_Swap ⟨bm, 0, none⟩
  have hbm := hM.lt1
  have hbw := hM.lt2
  have hml := hm.lt
  have hmb1 : m ≠ bm := by intro e; subst e; exact hm.no_cells hM.1
  have hmb2 : m ≠ bw := by intro e; subst e; exact hm.no_cells hM.2.1
  have hgl := World.block_lt_of_cell? w ⟨g, 0, none⟩ hg
  have hgl' : g < w.heap.size := hgl
  have HF := Lib.hid hf
  clear hM hm hz hd hL2 hC2 hyr hf hgl
  go_enter Try.func67, Try.ntmps67
  go_upto_region 1 with fail
  generalize hw3 : ((w.alloc (.cells #[.int .i64 (p : Int), .int .i64 (p : Int), .map (some m), .int .u64 (v : Int)] 159)).alloc (.cells #[.iface 69 (.pointer (some ⟨bm, 0, none⟩)), .int .i64 tick] 85)).alloc (.cells #[.int .i64 0, .int .u64 0, .slice none 0 0] 39) = w3
  have HM3 : Hid (MemIs 106 w3 bm bw l c) := Lib.hid (by rw [← hw3]; exact ((HM.out.alloc _).alloc _).alloc _)
  have HP3 : Hid (MapJs Try.prog 3 w3 m N (.pointer none) f) := Lib.hid (by rw [← hw3]; exact ((HMP.out.alloc _).alloc _).alloc _)
  have HB3 : Hid (ButS (fun b => b = bm ∨ b = bw ∨ b = m) w w3) := Lib.hid (by rw [← hw3]; exact (((ButS.refl _ _).alloc _).alloc _).alloc _)
  have hs3 : w3.heap.size = w.heap.size + 1 + 1 + 1 := by rw [← hw3]; simp
  have hO3 : RowBlk 159 w3 w.heap.size [.int .i64 (p : Int), .int .i64 (p : Int), .map (some m), .int .u64 (v : Int)] := by rw [← hw3]; exact ((RowBlk.new _ _ _).alloc _).alloc _
  have hT3 : RowBlk 85 w3 (w.heap.size + 1) [.iface 69 (.pointer (some ⟨bm, 0, none⟩)), .int .i64 tick] := by
    rw [← hw3]
    have h := RowBlk.new (w.alloc (.cells #[.int .i64 (p : Int), .int .i64 (p : Int), .map (some m), .int .u64 (v : Int)] 159)) [.iface 69 (.pointer (some ⟨bm, 0, none⟩)), .int .i64 tick] 85
    have e : (w.alloc (.cells #[.int .i64 (p : Int), .int .i64 (p : Int), .map (some m), .int .u64 (v : Int)] 159)).heap.size = w.heap.size + 1 := by simp
    rw [e] at h; exact h.alloc _
  have hA3 : RowBlk 39 w3 (w.heap.size + 1 + 1) [.int .i64 0, .int .u64 0, .slice none 0 0] := by
    rw [← hw3]
    have := RowBlk.new ((w.alloc (.cells #[.int .i64 (p : Int), .int .i64 (p : Int), .map (some m), .int .u64 (v : Int)] 159)).alloc (.cells #[.iface 69 (.pointer (some ⟨bm, 0, none⟩)), .int .i64 tick] 85)) [.int .i64 0, .int .u64 0, .slice none 0 0] 39
    simpa using this
  have hg3 : w3.cell? ⟨g, 0, none⟩ = some (.int .u64 (lk : Int)) := by
    rw [← hw3, World.cell?_alloc_past _ _ _ (by show g < _; simp; omega), World.cell?_alloc_past _ _ _ (by show g < _; simp; omega), World.cell?_alloc_past _ _ _ hgl']; exact hg
  have hlk3 := HP3.out.look (t := 149) (e := 160) Try.underlying3 Try.underlying149 (zeroLk _) (a := (p : Int)) (WalkArith.wf_i64 (by omega))
  rw [HF.out] at hlk3
  have o0 := hO3.cell (i := 0) rfl
  have o1 := hO3.cell (i := 1) rfl
  have o2 := hO3.cell (i := 2) rfl
  have o3 := hO3.cell (i := 3) rfl
  have HO3 := Lib.hid hO3
  have HT3 := Lib.hid hT3
  have HA3 := Lib.hid hA3
  clear hw3 hO3 hT3 hA3 hg
  go_wp2_with (at_delete; refine wpList_delete_js rfl _ _ 149 3 160 rfl Try.underlying3 Try.underlying149 m N (.pointer none) _ rfl HP3.out (p : Int) rfl ⟨by omega, by omega⟩ ?_)
  intro w4 hP4 hT4
  have hg4 := hT4.grown
  have hk4 : ∀ b, b < w3.heap.size → b ≠ m → w4.heap[b]? = w3.heap[b]? := fun b hb hne => hg4.block b hb (fun e => by cases e; exact hne rfl)
  have HO4 := Lib.hid (HO3.out.same (hk4 _ HO3.out.lt (by omega)))
  have HT4 := Lib.hid (HT3.out.same (hk4 _ HT3.out.lt (by omega)))
  have HA4 := Lib.hid (HA3.out.same (hk4 _ HA3.out.lt (by omega)))
  have HM4 := Lib.hid (HM3.out.of_blocks (hk4 bm HM3.out.lt1 (fun e => hmb1 e.symm)) (hk4 bw HM3.out.lt2 (fun e => hmb2 e.symm)))
  have HB4 : Hid (ButS (fun b => b = bm ∨ b = bw ∨ b = m) w w4) := Lib.hid (HB3.out.trans ⟨hg4.os, hg4.tape, hg4.output, hg4.size, fun b hb hne => hg4.block b hb (fun e => by cases e; exact hne (.inr (.inr rfl)))⟩)
  have HP4 := Lib.hid hP4
  have hs4 : w.heap.size + 3 ≤ w4.heap.size := by have := hg4.size; omega
  clear hP4 hT4 hg4 hk4 o0 o1 o2 o3 hlk3 hg3
  have d0 : w4.cell? ⟨w.heap.size, 0, none⟩ = some (.int .i64 (p : Int)) := HO4.out.cell rfl
  have d1 : w4.cell? ⟨w.heap.size, 3, none⟩ = some (.int .u64 (v : Int)) := HO4.out.cell rfl
  have t0 : w4.cell? ⟨w.heap.size + 1, 0, none⟩ = some (.iface 69 (.pointer (some ⟨bm, 0, none⟩))) := HT4.out.cell rfl
  have n0 : w.heap.size ≠ w.heap.size + 1 + 1 := by omega
  have n1 : w.heap.size + 1 + 1 ≠ w.heap.size := by omega
  have n2 : w.heap.size + 1 ≠ w.heap.size + 1 + 1 := by omega
  have n3 : w.heap.size + 1 + 1 ≠ w.heap.size + 1 := by omega
  go_wp2_with fail
  go_region_held3 (fun w' => w'.cell? ⟨w.heap.size, 0, none⟩ = some (.int .i64 (p : Int)) ∧ w'.cell? ⟨w.heap.size, 3, none⟩ = some (.int .u64 (v : Int)) ∧ w'.cell? ⟨w.heap.size + 1, 0, none⟩ = some (.iface 69 (.pointer (some ⟨bm, 0, none⟩))))
    (first | with_reducible exact ⟨d0, d1, t0⟩ | go_keep)
    (first
      | (go_at_call 69
         refine (HSC.out _).mono ?_
         rintro e w5 ⟨rfl, rfl⟩)
      | (go_at_call 73
         refine (HSW.out _ HM4.out.drew).mono ?_
         rintro e w5 ⟨rfl, hM5, hB5⟩
         have hO5 := HO4.out.drew.same (hB5.block _ HO4.out.lt (by omega) (by omega))
         have hT5 := HT4.out.drew.same (hB5.block _ HT4.out.lt (by omega) (by omega))
         have hA5 := HA4.out.drew.same (hB5.block _ HA4.out.lt (by omega) (by omega))
         have d0 : w5.cell? ⟨w.heap.size, 0, none⟩ = some (.int .i64 (p : Int)) := hO5.cell rfl
         have d1 : w5.cell? ⟨w.heap.size, 3, none⟩ = some (.int .u64 (v : Int)) := hO5.cell rfl
         have t0 : w5.cell? ⟨w.heap.size + 1, 0, none⟩ = some (.iface 69 (.pointer (some ⟨bm, 0, none⟩))) := hT5.cell rfl
         have HO5 := Lib.hid hO5
         have HT5 := Lib.hid hT5
         have HA5 := Lib.hid hA5
         have HM5 := Lib.hid hM5
         have HP5 : Hid (MapJs Try.prog 3 w5 m N (.pointer none) (updF f p (.pointer none))) := Lib.hid (HP4.out.drew.sameB (hB5.block m HP4.out.lt hmb1 hmb2))
         have HB5 : Hid (ButS (fun b => b = bm ∨ b = bw ∨ b = m) w w5) := Lib.hid (HB4.out.drew.trans (ButS.of_but hB5 (.inl rfl) (.inr (.inl rfl))))
         have hs5 : w.heap.size + 3 ≤ w5.heap.size := Nat.le_trans hs4 hB5.size
         clear hM5 hB5 hO5 hT5 hA5)
      | (go_at_call 68
         refine (HYS.out _).mono ?_
         rintro e w6 ⟨rfl, hb6⟩
         have hO6 := HO5.out.same (hb6.block _ HO5.out.lt)
         have hT6 := HT5.out.same (hb6.block _ HT5.out.lt)
         have hA6 := HA5.out.same (hb6.block _ HA5.out.lt)
         have d0 : w6.cell? ⟨w.heap.size, 0, none⟩ = some (.int .i64 (p : Int)) := hO6.cell rfl
         have d1 : w6.cell? ⟨w.heap.size, 3, none⟩ = some (.int .u64 (v : Int)) := hO6.cell rfl
         have t0 : w6.cell? ⟨w.heap.size + 1, 0, none⟩ = some (.iface 69 (.pointer (some ⟨bm, 0, none⟩))) := hT6.cell rfl
         have a0 := hA6.cell (i := 0) rfl
         have a1 := hA6.cell (i := 1) rfl
         have a2 := hA6.cell (i := 2) rfl
         have z0 : w6.frozen? ⟨w.heap.size + 1 + 1, 0, none⟩ = false := hA6.free
         have z1 : w6.frozen? ⟨w.heap.size + 1 + 1, 1, none⟩ = false := hA6.free
         have z2 : w6.frozen? ⟨w.heap.size + 1 + 1, 2, none⟩ = false := hA6.free
         have HX := Lib.hid (answer_store7 (.int .i64 0) (.int .u64 (yr : Int)) (.slice none 0 0) hA6 (HM5.out.of_blocks (hb6.block _ HM5.out.lt1) (hb6.block _ HM5.out.lt2)) (HB5.out.trans (ButS.of_below hb6)) (HP5.out.sameB (hb6.block m HP5.out.lt)) (by omega) (by omega) (by omega) (by omega))
         clear hb6 hO6 hT6 hA6))
  go_wp2_with fail
  generalize ((w6.setCell ⟨w.heap.size + 1 + 1, 0, none⟩ (.int .i64 0)).setCell ⟨w.heap.size + 1 + 1, 1, none⟩ (.int .u64 (yr : Int))).setCell ⟨w.heap.size + 1 + 1, 2, none⟩ (.slice none 0 0) = w8 at HX ⊢
  obtain ⟨hr, hm8, hb8, hp8⟩ := HX.out
  have q0 := hr.cell (i := 0) rfl
  have q1 := hr.cell (i := 1) rfl
  have q2 := hr.cell (i := 2) rfl
  exact bodyPost_ret (v := .tuple #[.agg #[.int .i64 0, .int .u64 (yr : Int), .slice none 0 0], .bool true]) (by simp [results, Try.results67, go_sem, q0, q1, q2]) rfl ⟨rfl, hm8, hb8, hp8⟩
set_option maxRecDepth 100000 in
set_option maxHeartbeats 4000000 in
theorem ll_check (bm bw p lk : Nat) (tick : Int) (l : List Nat) (c : Cn) (w : World) (hM : MemIs 106 w bm bw l c) (hp : p < l.length) (hl : l.length ≤ 65536) (hc : c.r < 9223372036854775807) :
    Calls Try.prog 70 #[.agg #[.int .i64 (p : Int), .int .u64 (lk : Int)], turnAgg bm tick] w (StepEnd 0 ((yesN (decide (l.getD p 0 = lk)) : Nat) : Int) bm bw l { c with r := c.r + 1 } w) := by
  obtain ⟨x, hx⟩ : ∃ x, l.getD p 0 = x := ⟨_, rfl⟩
  have HSW : Hid (∀ W : World, MemIs 106 W bm bw l c → Calls Try.prog 72 #[.pointer (some ⟨bm, 0, none⟩), .int .i64 (p : Int)] W (AccPost (.int .u64 (x : Int)) (.rd p) bm bw l c W)) := Lib.hid (fun W hW => by rw [← hx]; exact rd_acc (i := p) hW hp hl hc)
  rw [hx]
  obtain ⟨d, hd⟩ : ∃ d, decide (x = lk) = d := ⟨_, rfl⟩
  have hd1 : ((x : Int) == (lk : Int)) = d := by rw [← hd, Bool.eq_iff_iff, beq_iff_eq, decide_eq_true_eq]; omega
  have hd2 : decide ((x : Int) = (lk : Int)) = d := by rw [← hd]; congr 1; simp only [eq_iff_iff]; omega
  rw [hd]
  obtain ⟨yr, hyr⟩ : ∃ yr, yesN d = yr := ⟨_, rfl⟩
  have HYS : Hid (∀ W : World, Calls Try.prog 68 #[.bool d] W fun e w' => e = .returned (.agg #[.int .i64 0, .int .u64 (yr : Int), .slice none 0 0]) ∧ Below W.heap.size W w') := Lib.hid (fun W => by rw [← hyr]; exact ll_yes d W)
  rw [hyr]
  unfold turnAgg StepEnd
  have HM := Lib.hid hM
  have hmm := m_Read ⟨bm, 0, none⟩
  have hbm := hM.lt1
  have hbw := hM.lt2
  clear hM hd hyr hx
  go_enter Try.func70, Try.ntmps70
  go_upto_region 1 with fail
  generalize hw3 : ((w.alloc (.cells #[.int .i64 (p : Int), .int .u64 (lk : Int)] 162)).alloc (.cells #[.iface 69 (.pointer (some ⟨bm, 0, none⟩)), .int .i64 tick] 85)).alloc (.cells #[.int .i64 0, .int .u64 0, .slice none 0 0] 39) = w4
  have HM4 : Hid (MemIs 106 w4 bm bw l c) := Lib.hid (by rw [← hw3]; exact ((HM.out.alloc _).alloc _).alloc _)
  have HB4 : Hid (But bm bw w w4) := Lib.hid (by rw [← hw3]; exact (((But.refl _ _ _).alloc _).alloc _).alloc _)
  have HO4 : Hid (RowBlk 162 w4 w.heap.size [.int .i64 (p : Int), .int .u64 (lk : Int)]) := Lib.hid (by rw [← hw3]; exact ((RowBlk.new _ _ _).alloc _).alloc _)
  have HT4 : Hid (RowBlk 85 w4 (w.heap.size + 1) [.iface 69 (.pointer (some ⟨bm, 0, none⟩)), .int .i64 tick]) := Lib.hid (by
    rw [← hw3]
    have h := RowBlk.new (w.alloc (.cells #[.int .i64 (p : Int), .int .u64 (lk : Int)] 162)) [.iface 69 (.pointer (some ⟨bm, 0, none⟩)), .int .i64 tick] 85
    have e : (w.alloc (.cells #[.int .i64 (p : Int), .int .u64 (lk : Int)] 162)).heap.size = w.heap.size + 1 := by simp
    rw [e] at h; exact h.alloc _)
  have HA4 : Hid (RowBlk 39 w4 (w.heap.size + 1 + 1) [.int .i64 0, .int .u64 0, .slice none 0 0]) := Lib.hid (by
    rw [← hw3]
    have := RowBlk.new ((w.alloc (.cells #[.int .i64 (p : Int), .int .u64 (lk : Int)] 162)).alloc (.cells #[.iface 69 (.pointer (some ⟨bm, 0, none⟩)), .int .i64 tick] 85)) [.int .i64 0, .int .u64 0, .slice none 0 0] 39
    simpa using this)
  clear hw3
  have d0 : w4.cell? ⟨w.heap.size, 0, none⟩ = some (.int .i64 (p : Int)) := HO4.out.cell rfl
  have d1 : w4.cell? ⟨w.heap.size, 1, none⟩ = some (.int .u64 (lk : Int)) := HO4.out.cell rfl
  have t0 : w4.cell? ⟨w.heap.size + 1, 0, none⟩ = some (.iface 69 (.pointer (some ⟨bm, 0, none⟩))) := HT4.out.cell rfl
  have n0 : w.heap.size ≠ w.heap.size + 1 + 1 := by omega
  have n1 : w.heap.size + 1 + 1 ≠ w.heap.size := by omega
  have n2 : w.heap.size + 1 ≠ w.heap.size + 1 + 1 := by omega
  have n3 : w.heap.size + 1 + 1 ≠ w.heap.size + 1 := by omega
  go_wp2_with fail
  go_region_held3 (fun w' => w'.cell? ⟨w.heap.size, 0, none⟩ = some (.int .i64 (p : Int)) ∧ w'.cell? ⟨w.heap.size, 1, none⟩ = some (.int .u64 (lk : Int)) ∧ w'.cell? ⟨w.heap.size + 1, 0, none⟩ = some (.iface 69 (.pointer (some ⟨bm, 0, none⟩))))
    (first | with_reducible exact ⟨d0, d1, t0⟩ | go_keep)
    (first
      | (go_at_call 72
         refine (HSW.out _ HM4.out.drew).mono ?_
         rintro e w5 ⟨rfl, hM5, hB5⟩
         have hO5 := HO4.out.drew.same (hB5.block _ HO4.out.lt (by omega) (by omega))
         have hT5 := HT4.out.drew.same (hB5.block _ HT4.out.lt (by omega) (by omega))
         have hA5 := HA4.out.drew.same (hB5.block _ HA4.out.lt (by omega) (by omega))
         have d0 : w5.cell? ⟨w.heap.size, 0, none⟩ = some (.int .i64 (p : Int)) := hO5.cell rfl
         have d1 : w5.cell? ⟨w.heap.size, 1, none⟩ = some (.int .u64 (lk : Int)) := hO5.cell rfl
         have t0 : w5.cell? ⟨w.heap.size + 1, 0, none⟩ = some (.iface 69 (.pointer (some ⟨bm, 0, none⟩))) := hT5.cell rfl
         have HO5 := Lib.hid hO5
         have HT5 := Lib.hid hT5
         have HA5 := Lib.hid hA5
         have HM5 := Lib.hid hM5
         have HB5 : Hid (But bm bw w w5) := Lib.hid ((show But bm bw w w4.drew from ⟨HB4.out.os, HB4.out.tape, HB4.out.output, HB4.out.size, HB4.out.block⟩).trans hB5)
         clear hM5 hB5 hO5 hT5 hA5)
      | (go_at_call 68
         refine (HYS.out _).mono ?_
         rintro e w6 ⟨rfl, hb6⟩
         have hO6 := HO5.out.same (hb6.block _ HO5.out.lt)
         have hT6 := HT5.out.same (hb6.block _ HT5.out.lt)
         have hA6 := HA5.out.same (hb6.block _ HA5.out.lt)
         have d0 : w6.cell? ⟨w.heap.size, 0, none⟩ = some (.int .i64 (p : Int)) := hO6.cell rfl
         have d1 : w6.cell? ⟨w.heap.size, 1, none⟩ = some (.int .u64 (lk : Int)) := hO6.cell rfl
         have t0 : w6.cell? ⟨w.heap.size + 1, 0, none⟩ = some (.iface 69 (.pointer (some ⟨bm, 0, none⟩))) := hT6.cell rfl
         have a0 := hA6.cell (i := 0) rfl
         have a1 := hA6.cell (i := 1) rfl
         have a2 := hA6.cell (i := 2) rfl
         have z0 : w6.frozen? ⟨w.heap.size + 1 + 1, 0, none⟩ = false := hA6.free
         have z1 : w6.frozen? ⟨w.heap.size + 1 + 1, 1, none⟩ = false := hA6.free
         have z2 : w6.frozen? ⟨w.heap.size + 1 + 1, 2, none⟩ = false := hA6.free
         have HX := Lib.hid (answer_store (.int .i64 0) (.int .u64 (yr : Int)) (.slice none 0 0) hA6 (HM5.out.of_blocks (hb6.block _ HM5.out.lt1) (hb6.block _ HM5.out.lt2)) (HB5.out.trans ⟨hb6.os, hb6.tape, hb6.output, hb6.size, fun b hb _ _ => hb6.block b hb⟩) (by omega) (by omega) (by omega))
         clear hb6 hO6 hT6 hA6))
  go_wp2_with fail
  generalize ((w6.setCell ⟨w.heap.size + 1 + 1, 0, none⟩ (.int .i64 0)).setCell ⟨w.heap.size + 1 + 1, 1, none⟩ (.int .u64 (yr : Int))).setCell ⟨w.heap.size + 1 + 1, 2, none⟩ (.slice none 0 0) = w8 at HX ⊢
  obtain ⟨hr, hm8, hb8⟩ := HX.out
  have q0 := hr.cell (i := 0) rfl
  have q1 := hr.cell (i := 1) rfl
  have q2 := hr.cell (i := 2) rfl
  exact bodyPost_ret (v := .tuple #[.agg #[.int .i64 0, .int .u64 (yr : Int), .slice none 0 0], .bool true]) (by simp [results, Try.results70, go_sem, q0, q1, q2]) rfl ⟨rfl, hm8, hb8⟩
end
end Go.Proofs.Ytjbbcflifoakhaa
