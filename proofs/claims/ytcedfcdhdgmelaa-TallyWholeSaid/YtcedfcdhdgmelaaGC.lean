/- The cons as a machine; walks of cons. | The cons at the program: MachOk; walk of Play. -/
import Derived.Test.YtcedfcdhdgmelaaGZ3
namespace Go.Proofs.Ytcedfcdhdgmelaa
section
open Go.RowKit
set_option linter.unusedVariables false

structure ConsQ where
  rd : Bool
  fresh : Nat
  effect : Nat
def consM : Mach where
  S := Unit
  Q := ConsQ
  m := 1
  inv := fun s x => (s, if x.k = 0 then (if 4294967296 ≤ x.a then .inr 10 else .inl ⟨false, x.a + 1, 0⟩) else if x.k = 1 then .inl ⟨true, 0, 0⟩ else .inr 9)
  acc := fun _ q => if q.rd then .rd 0 else .sw 0 0 q.fresh
  next := fun s q r t => if q.rd then (s, q, some (if r = 0 then ⟨7, 0, []⟩ else ⟨0, r - 1, []⟩)) else (s, ⟨true, q.fresh, t⟩, none)
  key := fun _ q => if q.effect = 0 then [] else [2 * q.effect]
def consVs (q : ConsQ) : List Value := [.int .i64 (if q.rd then 1 else 0), .int .i64 0, .int .u64 (q.fresh : Int), .int .i64 (q.effect : Int)]
def consObj : Value := .iface 184 (.agg #[.int .i64 0])
def consK : MachRel consM where
  objs := [consObj]
  Obj := fun _ _ _ => True
  Op := fun w v q F => ∃ g, v = .iface 200 (.pointer (some ⟨g, 0, none⟩)) ∧ F g ∧ RowBlk 203 w g (consVs q) ∧ q.fresh ≤ 4294967296 ∧ q.effect ≤ 70000
  obj_keep := fun _ _ _ => trivial
  op_keep := fun h hb hG => by
    obtain ⟨g, h1, h2, h3, h4⟩ := h
    exact ⟨g, h1, hG g h2, h3.same (hb g h2), h4⟩
  op_iface := fun h => by obtain ⟨g, h1, _⟩ := h; exact ⟨_, _, h1⟩

theorem consM_meth (a : Int) (w : World) : (method 348 184 (.agg #[.int .i64 a]) "Invoke").run Try.prog w = .ok (116, .agg #[.int .i64 a]) w := by kernel_rfl
theorem consM_enter (args : Array Value) (w : World) : (callFunc 116 args).run Try.prog w = .ok (.enter 116 args) w := by kernel_rfl
theorem consStep_meth (a : Addr) (w : World) : (method 348 200 (.pointer (some a)) "Step").run Try.prog w = .ok (126, .pointer (some a)) w := by kernel_rfl
theorem consStep_enter (args : Array Value) (w : World) : (callFunc 126 args).run Try.prog w = .ok (.enter 126 args) w := by kernel_rfl
theorem consKey_meth (a : Addr) (w : World) : (method 348 200 (.pointer (some a)) "Key").run Try.prog w = .ok (125, .pointer (some a)) w := by kernel_rfl
theorem consKey_enter (args : Array Value) (w : World) : (callFunc 125 args).run Try.prog w = .ok (.enter 125 args) w := by kernel_rfl
theorem consKeyed (v : Value) (w : World) : (Instr.typeAssert (.iface 200 v) 138 161 true).run Try.prog w = .ok (.tuple #[.iface 200 v, .bool true]) w := by kernel_rfl

set_option maxRecDepth 100000 in
theorem cons_bad (x : CallV) (W : World) (k : Int) (hk : ¬ x.k = 0) (hk1 : ¬ x.k = 1) : Calls Try.prog 116 #[.agg #[.int .i64 k], callAgg x] W fun en w' => en = .returned (.tuple #[.nilIface, .int .i64 9]) ∧ Below W.heap.size W w' := by
  unfold callAgg
  go_enter Try.func116, Try.ntmps116
  go_wp2
  go_ret2
  exact ⟨rfl, ((Below.refl _ _).alloc (Nat.le_refl _) _).alloc (by simp) _⟩
set_option maxRecDepth 100000 in
theorem cons_range (x : CallV) (W : World) (k : Int) (hk : x.k = 0) (ha : 4294967296 ≤ x.a) : Calls Try.prog 116 #[.agg #[.int .i64 k], callAgg x] W fun en w' => en = .returned (.tuple #[.nilIface, .int .i64 10]) ∧ Below W.heap.size W w' := by
  unfold callAgg
  rw [hk]
  have h2 : (4294967296 : Int) ≤ (x.a : Int) := by omega
  go_enter Try.func116, Try.ntmps116
  go_wp2
  go_ret2
  exact ⟨rfl, ((Below.refl _ _).alloc (Nat.le_refl _) _).alloc (by simp) _⟩
def ConsMade (q : ConsQ) (W : World) (en : Ending) (w' : World) : Prop := ∃ g, en = .returned (.tuple #[.iface 200 (.pointer (some ⟨g, 0, none⟩)), .int .i64 0]) ∧ RowBlk 203 w' g (consVs q) ∧ W.heap.size ≤ g ∧ Below W.heap.size W w'
theorem new3 (W : World) (o1 o2 : Obj) (vs : List Value) (t : TypeId) : RowBlk t (((W.alloc o1).alloc o2).alloc (.cells vs.toArray t)) (W.heap.size + 1 + 1) vs := by
  have h := RowBlk.new ((W.alloc o1).alloc o2) vs t
  have e : ((W.alloc o1).alloc o2).heap.size = W.heap.size + 1 + 1 := by simp
  rw [e] at h; exact h
set_option maxRecDepth 100000 in
theorem cons_propose (x : CallV) (W : World) (hk : x.k = 0) (ha : x.a < 4294967296) : Calls Try.prog 116 #[.agg #[.int .i64 0], callAgg x] W (ConsMade ⟨false, x.a + 1, 0⟩ W) := by
  unfold callAgg
  rw [hk]
  have h2 : ¬ (4294967296 : Int) ≤ (x.a : Int) := by omega
  have h3 : (x.a : Int) + 1 ≤ 18446744073709551615 := by omega
  go_enter Try.func116, Try.ntmps116
  go_wp2
  go_ret2
  exact ⟨_, rfl, new3 W _ _ (consVs ⟨false, x.a + 1, 0⟩) _, by omega, (((Below.refl _ _).alloc (Nat.le_refl _) _).alloc (by simp) _).alloc (by simp; omega) _⟩
set_option maxRecDepth 100000 in
theorem cons_read (x : CallV) (W : World) (hk : x.k = 1) : Calls Try.prog 116 #[.agg #[.int .i64 0], callAgg x] W (ConsMade ⟨true, 0, 0⟩ W) := by
  unfold callAgg
  rw [hk]
  go_enter Try.func116, Try.ntmps116
  go_wp2
  go_ret2
  exact ⟨_, rfl, new3 W _ _ (consVs ⟨true, 0, 0⟩) _, by omega, (((Below.refl _ _).alloc (Nat.le_refl _) _).alloc (by simp) _).alloc (by simp; omega) _⟩

set_option maxRecDepth 100000 in
theorem decision_any (v : Nat) (W : World) (hv : v < 18446744073709551616) : Calls Try.prog 127 #[.int .u64 (v : Int)] W fun en w' => en = .returned (if v = 0 then .agg #[.int .i64 7, .int .u64 0, .slice none 0 0] else .agg #[.int .i64 0, .int .u64 ((v - 1 : Nat) : Int), .slice none 0 0]) ∧ Below W.heap.size W w' := by
  by_cases h : v = 0
  · subst h
    rw [if_pos rfl]
    go_enter Try.func127, Try.ntmps127
    go_wp2
    have hr := RowBlk.new W [.int .i64 7, .int .u64 0, .slice none 0 0] 45
    have q0 := hr.cell (i := 0) rfl
    have q1 := hr.cell (i := 1) rfl
    have q2 := hr.cell (i := 2) rfl
    exact bodyPost_ret (v := .agg #[.int .i64 7, .int .u64 0, .slice none 0 0]) (by simp only [List.toArray] at q0 q1 q2; simp [results, Try.results127, go_sem, q0, q1, q2]) rfl ⟨rfl, (Below.refl _ _).alloc (Nat.le_refl _) _⟩
  · rw [if_neg h]
    have h1 : ¬ (v : Int) = 0 := by omega
    go_enter Try.func127, Try.ntmps127
    go_wp2
    have e1 : ((v : Int) - 1) = ((v - 1 : Nat) : Int) := by omega
    rw [e1]
    have hr := RowBlk.new W [.int .i64 0, .int .u64 ((v - 1 : Nat) : Int), .slice none 0 0] 45
    have q0 := hr.cell (i := 0) rfl
    have q1 := hr.cell (i := 1) rfl
    have q2 := hr.cell (i := 2) rfl
    exact bodyPost_ret (v := .agg #[.int .i64 0, .int .u64 ((v - 1 : Nat) : Int), .slice none 0 0]) (by simp only [List.toArray] at q0 q1 q2; simp [results, Try.results127, go_sem, q0, q1, q2]) rfl ⟨rfl, (Below.refl _ _).alloc (Nat.le_refl _) _⟩

/-- what a step of a cons leaves -/
def ConsStepped (q : ConsQ) (g bm bw : Nat) (l : List Nat) (c : Cn) (t : Nat) (w : World) (en : Ending) (w' : World) : Prop :=
  MemIs 136 w' bm bw ((consM.acc () q).run l c).2.1 ((consM.acc () q).run l c).2.2 ∧ ButS (fun k => k = bm ∨ k = bw ∨ k = g) w w' ∧ RowBlk 203 w' g (consVs (consM.next () q ((consM.acc () q).run l c).1 t).2.1) ∧ AnsOut (fun _ => False) en w' (consM.next () q ((consM.acc () q).run l c).1 t).2.2

set_option maxRecDepth 100000 in
set_option maxHeartbeats 1000000 in
theorem cons_swap (q : ConsQ) (hq : q.rd = false) (g bm bw : Nat) (l : List Nat) (c : Cn) (t : Nat) (w : World) (hM : MemIs 136 w bm bw l c) (hg : RowBlk 203 w g (consVs q)) (hl : l.length = 1) (hc : c.s < 9223372036854775807) (ht : t ≤ 70000) :
    Calls Try.prog 126 #[.pointer (some ⟨g, 0, none⟩), turnAgg bm (t : Int)] w (ConsStepped q g bm bw l c t w) := by
  unfold turnAgg
  obtain ⟨rd, fresh, effect⟩ := q
  simp only at hq
  subst hq
  have hgm : g ≠ bm := by intro e; have h1 := hg; have h2 := hM.1; unfold RowBlk at h1; rw [e, h2] at h1; simp at h1
  have hgw : g ≠ bw := by intro e; have h1 := hg; have h2 := hM.2.1; unfold RowBlk at h1; rw [e, h2] at h1; simp at h1
  obtain ⟨y, hy⟩ : ∃ y, l.getD 0 0 = y := ⟨_, rfl⟩
  have HY := Lib.hid hy
  have HLL := Lib.hid hl
  clear hl hy
  have HM := Lib.hid hM
  have HG := Lib.hid hg
  have hmm := m_Swap ⟨bm, 0, none⟩
  have hbm := hM.lt1
  have hbw := hM.lt2
  have hgl := hg.lt
  have c0 : w.cell? ⟨g, 0, none⟩ = some (.int .i64 0) := hg.cell rfl
  have c1 : w.cell? ⟨g, 1, none⟩ = some (.int .i64 0) := hg.cell rfl
  have c2 : w.cell? ⟨g, 2, none⟩ = some (.int .u64 (fresh : Int)) := hg.cell rfl
  clear hM hg
  go_enter Try.func126, Try.ntmps126
  go_wp2_with fail
  have HGa : Hid (RowBlk 203 ((w.alloc (.cells #[.iface 94 (.pointer (some ⟨bm, 0, none⟩)), .int .i64 (t : Int)] 110)).alloc (.cells #[.int .i64 0, .int .u64 0, .slice none 0 0] 45)) g (consVs ⟨false, fresh, effect⟩)) := Lib.hid ((HG.out.alloc _).alloc _)
  have HMa : Hid (MemIs 136 ((w.alloc (.cells #[.iface 94 (.pointer (some ⟨bm, 0, none⟩)), .int .i64 (t : Int)] 110)).alloc (.cells #[.int .i64 0, .int .u64 0, .slice none 0 0] 45)) bm bw l c) := Lib.hid ((HM.out.alloc _).alloc _)
  have HTa : Hid (RowBlk 110 ((w.alloc (.cells #[.iface 94 (.pointer (some ⟨bm, 0, none⟩)), .int .i64 (t : Int)] 110)).alloc (.cells #[.int .i64 0, .int .u64 0, .slice none 0 0] 45)) w.heap.size [.iface 94 (.pointer (some ⟨bm, 0, none⟩)), .int .i64 (t : Int)]) := Lib.hid ((RowBlk.new _ _ _).alloc _)
  have HAa : Hid (RowBlk 45 ((w.alloc (.cells #[.iface 94 (.pointer (some ⟨bm, 0, none⟩)), .int .i64 (t : Int)] 110)).alloc (.cells #[.int .i64 0, .int .u64 0, .slice none 0 0] 45)) (w.heap.size + 1) [.int .i64 0, .int .u64 0, .slice none 0 0]) := Lib.hid (by
    have h := RowBlk.new (w.alloc (.cells #[.iface 94 (.pointer (some ⟨bm, 0, none⟩)), .int .i64 (t : Int)] 110)) [.int .i64 0, .int .u64 0, .slice none 0 0] 45
    have e : (w.alloc (.cells #[.iface 94 (.pointer (some ⟨bm, 0, none⟩)), .int .i64 (t : Int)] 110)).heap.size = w.heap.size + 1 := by simp
    rw [e] at h; exact h)
  have HBa : Hid (ButS (fun k => k = bm ∨ k = bw ∨ k = g) w ((w.alloc (.cells #[.iface 94 (.pointer (some ⟨bm, 0, none⟩)), .int .i64 (t : Int)] 110)).alloc (.cells #[.int .i64 0, .int .u64 0, .slice none 0 0] 45))) := Lib.hid (((ButS.refl _ _).alloc _).alloc _)
  generalize (w.alloc (.cells #[.iface 94 (.pointer (some ⟨bm, 0, none⟩)), .int .i64 (t : Int)] 110)).alloc (.cells #[.int .i64 0, .int .u64 0, .slice none 0 0] 45) = wa at HGa HMa HTa HAa HBa ⊢
  have d1 : wa.cell? ⟨g, 1, none⟩ = some (.int .i64 0) := HGa.out.cell rfl
  have d2 : wa.cell? ⟨g, 2, none⟩ = some (.int .u64 (fresh : Int)) := HGa.out.cell rfl
  have t0 : wa.cell? ⟨w.heap.size, 0, none⟩ = some (.iface 94 (.pointer (some ⟨bm, 0, none⟩))) := HTa.out.cell rfl
  clear c0 c1 c2
  have HSW : Hid (∀ W : World, MemIs 136 W bm bw l c → Calls Try.prog 157 #[.pointer (some ⟨bm, 0, none⟩), .int .i64 0, .int .u64 0, .int .u64 (fresh : Int)] W (AccPost (.bool (decide (y = 0))) (.sw 0 0 fresh) bm bw l c W)) := Lib.hid (fun W hW => by rw [← HY.out]; exact sw_acc (i := 0) 0 fresh hW (by have := HLL.out; omega) (by have := HLL.out; omega) hc)
  go_region_held3 (fun w' => w'.cell? ⟨g, 1, none⟩ = some (.int .i64 0) ∧ w'.cell? ⟨g, 2, none⟩ = some (.int .u64 (fresh : Int)) ∧ w'.cell? ⟨w.heap.size, 0, none⟩ = some (.iface 94 (.pointer (some ⟨bm, 0, none⟩))))
    (first | exact ⟨e1, e2, e0⟩ | go_keep)
    (first
      | (go_at_call 157
         refine (HSW.out _ HMa.out.drew).mono ?_
         rintro e w4 ⟨rfl, hM4, hB4⟩
         have hG4 := RowBlk.same HGa.out.drew (hB4.block g HGa.out.lt hgm hgw)
         have hT4 := RowBlk.same HTa.out.drew (hB4.block w.heap.size HTa.out.lt (by omega) (by omega))
         have hA4 := RowBlk.same HAa.out.drew (hB4.block (w.heap.size + 1) HAa.out.lt (by omega) (by omega))
         have e1 : w4.cell? ⟨g, 1, none⟩ = some (.int .i64 0) := hG4.cell rfl
         have e2 : w4.cell? ⟨g, 2, none⟩ = some (.int .u64 (fresh : Int)) := hG4.cell rfl
         have e0 : w4.cell? ⟨w.heap.size, 0, none⟩ = some (.iface 94 (.pointer (some ⟨bm, 0, none⟩))) := hT4.cell rfl
         have a0 := hA4.cell (i := 0) rfl
         have a1 := hA4.cell (i := 1) rfl
         have a2 := hA4.cell (i := 2) rfl
         have z0 : w4.frozen? ⟨w.heap.size + 1, 0, none⟩ = false := hA4.free
         have z1 : w4.frozen? ⟨w.heap.size + 1, 1, none⟩ = false := hA4.free
         have z2 : w4.frozen? ⟨w.heap.size + 1, 2, none⟩ = false := hA4.free
         have HG4 := Lib.hid hG4
         have HT4 := Lib.hid hT4
         have HA4 := Lib.hid hA4
         have HM4 := Lib.hid hM4
         have HB4 := Lib.hid hB4
         clear hG4 hT4 hM4 hB4 hA4))
  have t1 : w4.cell? ⟨w.heap.size, 1, none⟩ = some (.int .i64 (t : Int)) := HT4.out.cell rfl
  have g3 : w4.cell? ⟨g, 3, none⟩ = some (.int .i64 (effect : Int)) := HG4.out.cell rfl
  have g0 : w4.cell? ⟨g, 0, none⟩ = some (.int .i64 0) := HG4.out.cell rfl
  have fz : ∀ k, w4.frozen? ⟨g, k, none⟩ = false := fun k => HG4.out.free
  have n1 : w.heap.size + 1 ≠ g := by omega
  have n2 : g ≠ w.heap.size + 1 := by omega
  have n3 : w.heap.size ≠ g := by omega
  clear e1 e2 e0
  have HX : Hid (RowBlk 45 (((((w4.setCell ⟨g, 3, none⟩ (.int .i64 (t : Int))).setCell ⟨g, 0, none⟩ (.int .i64 1)).setCell ⟨w.heap.size + 1, 0, none⟩ (.int .i64 0)).setCell ⟨w.heap.size + 1, 1, none⟩ (.int .u64 0)).setCell ⟨w.heap.size + 1, 2, none⟩ (.slice none 0 0)) (w.heap.size + 1) [.int .i64 0, .int .u64 0, .slice none 0 0] ∧ RowBlk 203 (((((w4.setCell ⟨g, 3, none⟩ (.int .i64 (t : Int))).setCell ⟨g, 0, none⟩ (.int .i64 1)).setCell ⟨w.heap.size + 1, 0, none⟩ (.int .i64 0)).setCell ⟨w.heap.size + 1, 1, none⟩ (.int .u64 0)).setCell ⟨w.heap.size + 1, 2, none⟩ (.slice none 0 0)) g (consVs ⟨true, fresh, t⟩) ∧ MemIs 136 (((((w4.setCell ⟨g, 3, none⟩ (.int .i64 (t : Int))).setCell ⟨g, 0, none⟩ (.int .i64 1)).setCell ⟨w.heap.size + 1, 0, none⟩ (.int .i64 0)).setCell ⟨w.heap.size + 1, 1, none⟩ (.int .u64 0)).setCell ⟨w.heap.size + 1, 2, none⟩ (.slice none 0 0)) bm bw ((Acc.sw 0 0 fresh).run l c).2.1 ((Acc.sw 0 0 fresh).run l c).2.2 ∧ ButS (fun k => k = bm ∨ k = bw ∨ k = g) w (((((w4.setCell ⟨g, 3, none⟩ (.int .i64 (t : Int))).setCell ⟨g, 0, none⟩ (.int .i64 1)).setCell ⟨w.heap.size + 1, 0, none⟩ (.int .i64 0)).setCell ⟨w.heap.size + 1, 1, none⟩ (.int .u64 0)).setCell ⟨w.heap.size + 1, 2, none⟩ (.slice none 0 0))) := Lib.hid
    ⟨((((HA4.out.other n1 _).other n1 _).put 0 _).put 1 _).put 2 _, ((((HG4.out.put 3 _).put 0 _).other n2 _).other n2 _).other n2 _, ((((HM4.out.setNew _ _ hgm hgw).setNew _ _ hgm hgw).setNew _ _ (by omega) (by omega)).setNew _ _ (by omega) (by omega)).setNew _ _ (by omega) (by omega),
      (((((HBa.out.drew.trans (ButS.of_but HB4.out (.inl rfl) (.inr (.inl rfl)))).setCell (.inl (.inr (.inr rfl))) _).setCell (.inl (.inr (.inr rfl))) _).setCell (.inr (by show w.heap.size ≤ w.heap.size + 1; omega)) _).setCell (.inr (by show w.heap.size ≤ w.heap.size + 1; omega)) _).setCell (.inr (by show w.heap.size ≤ w.heap.size + 1; omega)) _⟩
  go_wp2_with fail
  generalize ((((w4.setCell ⟨g, 3, none⟩ (.int .i64 (t : Int))).setCell ⟨g, 0, none⟩ (.int .i64 1)).setCell ⟨w.heap.size + 1, 0, none⟩ (.int .i64 0)).setCell ⟨w.heap.size + 1, 1, none⟩ (.int .u64 0)).setCell ⟨w.heap.size + 1, 2, none⟩ (.slice none 0 0) = W5 at HX ⊢
  have q0 := HX.out.1.cell (i := 0) rfl
  have q1 := HX.out.1.cell (i := 1) rfl
  have q2 := HX.out.1.cell (i := 2) rfl
  exact bodyPost_ret (v := .tuple #[.agg #[.int .i64 0, .int .u64 0, .slice none 0 0], .bool false]) (by simp [results, Try.results126, go_sem, q0, q1, q2]) rfl ⟨HX.out.2.2.1, HX.out.2.2.2, HX.out.2.1, rfl⟩

set_option maxRecDepth 100000 in
set_option maxHeartbeats 1000000 in
theorem cons_look (q : ConsQ) (hq : q.rd = true) (g bm bw : Nat) (l : List Nat) (c : Cn) (t : Nat) (w : World) (hM : MemIs 136 w bm bw l c) (hg : RowBlk 203 w g (consVs q)) (hl : l.length = 1) (hc : c.r < 9223372036854775807) (ht : t ≤ 70000) (er vl : Nat) (hd : ∀ W : World, Calls Try.prog 127 #[.int .u64 ((l.getD 0 0 : Nat) : Int)] W fun en w' => en = .returned (.agg #[.int .i64 (er : Int), .int .u64 (vl : Int), .slice none 0 0]) ∧ Below W.heap.size W w')
    (hr : (if l.getD 0 0 = 0 then (⟨7, 0, []⟩ : Ans) else ⟨0, l.getD 0 0 - 1, []⟩) = ⟨er, vl, []⟩) :
    Calls Try.prog 126 #[.pointer (some ⟨g, 0, none⟩), turnAgg bm (t : Int)] w (ConsStepped q g bm bw l c t w) := by
  unfold turnAgg
  obtain ⟨rd, fresh, effect⟩ := q
  simp only at hq
  subst hq
  have hgm : g ≠ bm := by intro e; have h1 := hg; have h2 := hM.1; unfold RowBlk at h1; rw [e, h2] at h1; simp at h1
  have hgw : g ≠ bw := by intro e; have h1 := hg; have h2 := hM.2.1; unfold RowBlk at h1; rw [e, h2] at h1; simp at h1
  obtain ⟨y, hy⟩ : ∃ y, l.getD 0 0 = y := ⟨_, rfl⟩
  rw [hy] at hd
  have HD := Lib.hid hd
  have HR := Lib.hid hr
  clear hd hr
  have HY := Lib.hid hy
  have HLL := Lib.hid hl
  clear hl hy
  have HM := Lib.hid hM
  have HG := Lib.hid hg
  have hmm := m_Read ⟨bm, 0, none⟩
  have hbm := hM.lt1
  have hbw := hM.lt2
  have hgl := hg.lt
  have c0 : w.cell? ⟨g, 0, none⟩ = some (.int .i64 1) := hg.cell rfl
  have c1 : w.cell? ⟨g, 1, none⟩ = some (.int .i64 0) := hg.cell rfl
  have c2 : w.cell? ⟨g, 2, none⟩ = some (.int .u64 (fresh : Int)) := hg.cell rfl
  clear hM hg
  go_enter Try.func126, Try.ntmps126
  go_wp2_with fail
  have HGa : Hid (RowBlk 203 ((w.alloc (.cells #[.iface 94 (.pointer (some ⟨bm, 0, none⟩)), .int .i64 (t : Int)] 110)).alloc (.cells #[.int .i64 0, .int .u64 0, .slice none 0 0] 45)) g (consVs ⟨true, fresh, effect⟩)) := Lib.hid ((HG.out.alloc _).alloc _)
  have HMa : Hid (MemIs 136 ((w.alloc (.cells #[.iface 94 (.pointer (some ⟨bm, 0, none⟩)), .int .i64 (t : Int)] 110)).alloc (.cells #[.int .i64 0, .int .u64 0, .slice none 0 0] 45)) bm bw l c) := Lib.hid ((HM.out.alloc _).alloc _)
  have HTa : Hid (RowBlk 110 ((w.alloc (.cells #[.iface 94 (.pointer (some ⟨bm, 0, none⟩)), .int .i64 (t : Int)] 110)).alloc (.cells #[.int .i64 0, .int .u64 0, .slice none 0 0] 45)) w.heap.size [.iface 94 (.pointer (some ⟨bm, 0, none⟩)), .int .i64 (t : Int)]) := Lib.hid ((RowBlk.new _ _ _).alloc _)
  have HAa : Hid (RowBlk 45 ((w.alloc (.cells #[.iface 94 (.pointer (some ⟨bm, 0, none⟩)), .int .i64 (t : Int)] 110)).alloc (.cells #[.int .i64 0, .int .u64 0, .slice none 0 0] 45)) (w.heap.size + 1) [.int .i64 0, .int .u64 0, .slice none 0 0]) := Lib.hid (by
    have h := RowBlk.new (w.alloc (.cells #[.iface 94 (.pointer (some ⟨bm, 0, none⟩)), .int .i64 (t : Int)] 110)) [.int .i64 0, .int .u64 0, .slice none 0 0] 45
    have e : (w.alloc (.cells #[.iface 94 (.pointer (some ⟨bm, 0, none⟩)), .int .i64 (t : Int)] 110)).heap.size = w.heap.size + 1 := by simp
    rw [e] at h; exact h)
  have HBa : Hid (ButS (fun k => k = bm ∨ k = bw ∨ k = g) w ((w.alloc (.cells #[.iface 94 (.pointer (some ⟨bm, 0, none⟩)), .int .i64 (t : Int)] 110)).alloc (.cells #[.int .i64 0, .int .u64 0, .slice none 0 0] 45))) := Lib.hid (((ButS.refl _ _).alloc _).alloc _)
  generalize (w.alloc (.cells #[.iface 94 (.pointer (some ⟨bm, 0, none⟩)), .int .i64 (t : Int)] 110)).alloc (.cells #[.int .i64 0, .int .u64 0, .slice none 0 0] 45) = wa at HGa HMa HTa HAa HBa ⊢
  have d1 : wa.cell? ⟨g, 1, none⟩ = some (.int .i64 0) := HGa.out.cell rfl
  have d2 : wa.cell? ⟨g, 2, none⟩ = some (.int .u64 (fresh : Int)) := HGa.out.cell rfl
  have t0 : wa.cell? ⟨w.heap.size, 0, none⟩ = some (.iface 94 (.pointer (some ⟨bm, 0, none⟩))) := HTa.out.cell rfl
  clear c0 c1 c2
  have HSW : Hid (∀ W : World, MemIs 136 W bm bw l c → Calls Try.prog 156 #[.pointer (some ⟨bm, 0, none⟩), .int .i64 0] W (AccPost (.int .u64 (y : Int)) (.rd 0) bm bw l c W)) := Lib.hid (fun W hW => by rw [← HY.out]; exact rd_acc (i := 0) hW (by have := HLL.out; omega) (by have := HLL.out; omega) hc)
  have n1 : g ≠ w.heap.size + 1 := by omega
  have n0 : w.heap.size ≠ w.heap.size + 1 := by omega
  go_region_held3 (fun w' => w'.cell? ⟨g, 1, none⟩ = some (.int .i64 0) ∧ w'.cell? ⟨g, 2, none⟩ = some (.int .u64 (fresh : Int)) ∧ w'.cell? ⟨w.heap.size, 0, none⟩ = some (.iface 94 (.pointer (some ⟨bm, 0, none⟩))))
    (first | (simp only [cell_far n1, cell_far n0]; with_reducible exact ⟨e1, e2, e0⟩) | with_reducible exact ⟨e1, e2, e0⟩ | go_keep)
    (first
      | (go_at_call 156
         refine (HSW.out _ HMa.out.drew).mono ?_
         rintro e w4 ⟨rfl, hM4, hB4⟩
         have hG4 := RowBlk.same HGa.out.drew (hB4.block g HGa.out.lt hgm hgw)
         have hT4 := RowBlk.same HTa.out.drew (hB4.block w.heap.size HTa.out.lt (by omega) (by omega))
         have hA4 := RowBlk.same HAa.out.drew (hB4.block (w.heap.size + 1) HAa.out.lt (by omega) (by omega))
         have e1 : w4.cell? ⟨g, 1, none⟩ = some (.int .i64 0) := hG4.cell rfl
         have e2 : w4.cell? ⟨g, 2, none⟩ = some (.int .u64 (fresh : Int)) := hG4.cell rfl
         have e0 : w4.cell? ⟨w.heap.size, 0, none⟩ = some (.iface 94 (.pointer (some ⟨bm, 0, none⟩))) := hT4.cell rfl
         have a0 := hA4.cell (i := 0) rfl
         have a1 := hA4.cell (i := 1) rfl
         have a2 := hA4.cell (i := 2) rfl
         have z0 : w4.frozen? ⟨w.heap.size + 1, 0, none⟩ = false := hA4.free
         have z1 : w4.frozen? ⟨w.heap.size + 1, 1, none⟩ = false := hA4.free
         have z2 : w4.frozen? ⟨w.heap.size + 1, 2, none⟩ = false := hA4.free
         have HG4 := Lib.hid hG4
         have HT4 := Lib.hid hT4
         have HA4 := Lib.hid hA4
         have HM4 := Lib.hid hM4
         have HB4 := Lib.hid hB4
         clear hG4 hT4 hM4 hB4 hA4)
      | (go_at_call 127
         refine (HD.out w4).mono ?_
         rintro e w5 ⟨rfl, hb5⟩
         have hG5 := RowBlk.same HG4.out (hb5.block g HG4.out.lt)
         have hT5 := RowBlk.same HT4.out (hb5.block w.heap.size HT4.out.lt)
         have hA5 := RowBlk.same HA4.out (hb5.block (w.heap.size + 1) HA4.out.lt)
         have e1 : w5.cell? ⟨g, 1, none⟩ = some (.int .i64 0) := hG5.cell rfl
         have e2 : w5.cell? ⟨g, 2, none⟩ = some (.int .u64 (fresh : Int)) := hG5.cell rfl
         have e0 : w5.cell? ⟨w.heap.size, 0, none⟩ = some (.iface 94 (.pointer (some ⟨bm, 0, none⟩))) := hT5.cell rfl
         have a0 := hA5.cell (i := 0) rfl
         have a1 := hA5.cell (i := 1) rfl
         have a2 := hA5.cell (i := 2) rfl
         have z0 : w5.frozen? ⟨w.heap.size + 1, 0, none⟩ = false := hA5.free
         have z1 : w5.frozen? ⟨w.heap.size + 1, 1, none⟩ = false := hA5.free
         have z2 : w5.frozen? ⟨w.heap.size + 1, 2, none⟩ = false := hA5.free
         have HX : Hid (RowBlk 45 (((w5.setCell ⟨w.heap.size + 1, 0, none⟩ (.int .i64 (er : Int))).setCell ⟨w.heap.size + 1, 1, none⟩ (.int .u64 (vl : Int))).setCell ⟨w.heap.size + 1, 2, none⟩ (.slice none 0 0)) (w.heap.size + 1) [.int .i64 (er : Int), .int .u64 (vl : Int), .slice none 0 0] ∧ RowBlk 203 (((w5.setCell ⟨w.heap.size + 1, 0, none⟩ (.int .i64 (er : Int))).setCell ⟨w.heap.size + 1, 1, none⟩ (.int .u64 (vl : Int))).setCell ⟨w.heap.size + 1, 2, none⟩ (.slice none 0 0)) g (consVs ⟨true, fresh, effect⟩) ∧ MemIs 136 (((w5.setCell ⟨w.heap.size + 1, 0, none⟩ (.int .i64 (er : Int))).setCell ⟨w.heap.size + 1, 1, none⟩ (.int .u64 (vl : Int))).setCell ⟨w.heap.size + 1, 2, none⟩ (.slice none 0 0)) bm bw ((Acc.rd 0).run l c).2.1 ((Acc.rd 0).run l c).2.2 ∧ ButS (fun k => k = bm ∨ k = bw ∨ k = g) w (((w5.setCell ⟨w.heap.size + 1, 0, none⟩ (.int .i64 (er : Int))).setCell ⟨w.heap.size + 1, 1, none⟩ (.int .u64 (vl : Int))).setCell ⟨w.heap.size + 1, 2, none⟩ (.slice none 0 0))) := Lib.hid
           ⟨((hA5.put 0 _).put 1 _).put 2 _, ((hG5.other n1 _).other n1 _).other n1 _, (((HM4.out.of_blocks (hb5.block _ HM4.out.lt1) (hb5.block _ HM4.out.lt2)).setNew _ _ (by omega) (by omega)).setNew _ _ (by omega) (by omega)).setNew _ _ (by omega) (by omega),
             ((((HBa.out.drew.trans (ButS.of_but HB4.out (.inl rfl) (.inr (.inl rfl)))).trans (ButS.of_below hb5)).setCell (.inr (by show w.heap.size ≤ w.heap.size + 1; omega)) _).setCell (.inr (by show w.heap.size ≤ w.heap.size + 1; omega)) _).setCell (.inr (by show w.heap.size ≤ w.heap.size + 1; omega)) _⟩
         clear hG5 hT5 hA5 hb5))
  go_wp2_with fail
  generalize ((w5.setCell ⟨w.heap.size + 1, 0, none⟩ (.int .i64 (er : Int))).setCell ⟨w.heap.size + 1, 1, none⟩ (.int .u64 (vl : Int))).setCell ⟨w.heap.size + 1, 2, none⟩ (.slice none 0 0) = W5 at HX ⊢
  have q0 := HX.out.1.cell (i := 0) rfl
  have q1 := HX.out.1.cell (i := 1) rfl
  have q2 := HX.out.1.cell (i := 2) rfl
  refine bodyPost_ret (v := .tuple #[.agg #[.int .i64 (er : Int), .int .u64 (vl : Int), .slice none 0 0], .bool true]) (by simp [results, Try.results126, go_sem, q0, q1, q2]) rfl ⟨HX.out.2.2.1, HX.out.2.2.2, HX.out.2.1, ?_⟩
  show AnsOut _ _ _ (some (if l.getD 0 0 = 0 then (⟨7, 0, []⟩ : Ans) else ⟨0, l.getD 0 0 - 1, []⟩))
  rw [HR.out]
  exact ⟨_, rfl, ListAt.nil _ _ _ _⟩
theorem cons_read_step (q : ConsQ) (hq : q.rd = true) (g bm bw : Nat) (l : List Nat) (c : Cn) (t : Nat) (w : World) (hM : MemIs 136 w bm bw l c) (hg : RowBlk 203 w g (consVs q)) (hl : l.length = 1) (hc : c.r < 9223372036854775807) (ht : t ≤ 70000) (hx : l.getD 0 0 < 18446744073709551616) :
    Calls Try.prog 126 #[.pointer (some ⟨g, 0, none⟩), turnAgg bm (t : Int)] w (ConsStepped q g bm bw l c t w) := by
  by_cases h : l.getD 0 0 = 0
  · exact cons_look q hq g bm bw l c t w hM hg hl hc ht 7 0 (fun W => by have := decision_any (l.getD 0 0) W hx; rw [if_pos h] at this; exact this) (by rw [if_pos h])
  · exact cons_look q hq g bm bw l c t w hM hg hl hc ht 0 (l.getD 0 0 - 1) (fun W => by have := decision_any (l.getD 0 0) W hx; rw [if_neg h] at this; exact this) (by rw [if_neg h])
end
section
open Go.RowKit
set_option linter.unusedVariables false

set_option maxRecDepth 100000 in
theorem consKey_any (g : Nat) (q : ConsQ) (w : World) (hg : RowBlk 203 w g (consVs q)) (he : q.effect ≤ 70000) : Calls Try.prog 125 #[.pointer (some ⟨g, 0, none⟩)] w fun e w' => ∃ v, e = .returned v ∧ ListAt w' 3 mkI (fun _ => True) v (consM.key () q) ∧ Below w.heap.size w w' := by
  have c3 : w.cell? ⟨g, 3, none⟩ = some (.int .i64 (q.effect : Int)) := hg.cell rfl
  have hgl := hg.lt
  clear hg
  by_cases h : q.effect = 0
  · have e : consM.key () q = [] := by show (if q.effect = 0 then [] else [2 * q.effect]) = []; rw [if_pos h]
    rw [e]
    rw [h] at c3
    go_enter Try.func125, Try.ntmps125
    go_wp2
    go_ret
    exact ⟨_, rfl, ListAt.nil _ _ _ _, Below.refl _ _⟩
  · have e : consM.key () q = [2 * q.effect] := by show (if q.effect = 0 then [] else [2 * q.effect]) = _; rw [if_neg h]
    rw [e]
    obtain ⟨m, hm⟩ : ∃ m, q.effect = m := ⟨_, rfl⟩
    rw [hm] at c3 he h ⊢
    have h1 : ¬ (m : Int) = 0 := by omega
    clear e hm h
    go_enter Try.func125, Try.ntmps125
    go_wp2
    go_ret
    have hr := RowBlk.new w [mkI (2 * m)] 3
    have e2 : (mkI (2 * m)) = .int .i64 (2 * (m : Int)) := by unfold mkI; congr 1
    rw [e2] at hr
    exact ⟨_, rfl, ⟨_, w.heap.size, 0, 1, rfl, fun _ => ⟨rfl, trivial, BlkT.of_row hr⟩, fun h => (by cases h), by simp, fun i x hx => by
      match i, hx with
      | 0, hx => cases hx; rw [e2]; exact hr.cell (i := 0) rfl⟩, (Below.refl _ _).alloc (Nat.le_refl _) _⟩

/-- what holds of a cons's play, for the walks -/
def ConsI (st : St consM) : Prop := st.ws.length = 1 ∧ st.ws.getD 0 0 ≤ 4294967296 ∧ ∀ v ∈ st.evs, ∀ q : ConsQ, v.q = .inl q → q.fresh ≤ 4294967296
theorem cons_inv_fresh (x : CallV) (q : ConsQ) (h : (consM.inv () x).2 = .inl q) : q.fresh ≤ 4294967296 ∧ q.effect = 0 := by
  have h' : (if x.k = 0 then (if 4294967296 ≤ x.a then Sum.inr 10 else Sum.inl (⟨false, x.a + 1, 0⟩ : ConsQ)) else if x.k = 1 then Sum.inl ⟨true, 0, 0⟩ else Sum.inr 9) = (Sum.inl q : ConsQ ⊕ Nat) := h
  split at h'
  · split at h'
    · cases h'
    · cases h'; exact ⟨by simp only; omega, rfl⟩
  · split at h'
    · cases h'; exact ⟨by simp, rfl⟩
    · cases h'
theorem consI_turn (st : St consM) (i : Nat) (x : CallV) (p : Int) (h : ConsI st) : ConsI (st.turn i x p) := by
  unfold St.turn
  split
  · exact h
  · refine ⟨h.1, h.2.1, fun v hv q hq => ?_⟩
    rcases List.mem_append.1 (show v ∈ st.evs ++ [_] from hv) with hv | hv
    · exact h.2.2 v hv q hq
    · rw [List.mem_singleton] at hv; subst hv
      have hq' : (invQ (M := consM) st.s x).2 = .inl q := hq
      unfold invQ at hq'
      split at hq'
      · cases hq'
      · exact (cons_inv_fresh x q hq').1
theorem consI_step (st : St consM) (i : Nat) (p : Int) (e : Nat) (v : Ev consM) (h : ConsI st) (hv : st.evs[e]? = some v) : ConsI (st.step i p e v) := by
  have hws : (st.step i p e v).ws = (stepQ st.s v.q st.ws st.cn st.ticks).ws := by unfold St.step; split <;> rfl
  have hlen : (stepQ st.s v.q st.ws st.cn st.ticks).ws.length = st.ws.length := stepQ_len _ _ _ _ _
  have hfr := h.2.2 v (List.mem_of_getElem? hv)
  refine ⟨by rw [hws, hlen]; exact h.1, ?_, fun u hu q hq => ?_⟩
  · rw [hws]
    cases hvq : v.q with
    | inr er => exact h.2.1
    | inl q =>
      show ((consM.acc st.s q).run st.ws st.cn).2.1.getD 0 0 ≤ _
      by_cases hr : q.rd = true
      · have e1 : consM.acc st.s q = .rd 0 := by show (if q.rd then Acc.rd 0 else .sw 0 0 q.fresh) = _; rw [if_pos hr]
        rw [e1]; exact h.2.1
      · have e1 : consM.acc st.s q = .sw 0 0 q.fresh := by show (if q.rd then Acc.rd 0 else .sw 0 0 q.fresh) = _; rw [if_neg hr]
        rw [e1]
        simp only [Acc.run]
        split
        · have : (st.ws.set 0 q.fresh).getD 0 0 = q.fresh := by
            rw [List.getD_eq_getElem?_getD, List.getElem?_set_self (by have := h.1; omega)]; rfl
          rw [this]; exact hfr q hvq
        · exact h.2.1
  · have hu' : u ∈ st.evs.set e (midEv st v) := by
      unfold St.step at hu
      unfold midEv
      split at hu
      · next hx => rw [hx]; exact hu
      · next a hx => rw [hx]; exact hu
    obtain ⟨f, hf⟩ := List.mem_iff_getElem?.1 hu'
    by_cases hfe : f = e
    · subst hfe
      rw [List.getElem?_set_self (List.getElem?_eq_some_iff.1 hv).1] at hf
      cases hf
      have hq' : (stepQ st.s v.q st.ws st.cn st.ticks).q = .inl q := by
        unfold midEv at hq
        split at hq <;> exact hq
      cases hvq : v.q with
      | inr er => rw [hvq] at hq'; cases hq'
      | inl q0 =>
        rw [hvq] at hq'
        have hq2 : (consM.next st.s q0 ((consM.acc st.s q0).run st.ws st.cn).1 st.ticks).2.1 = q := Sum.inl.inj hq'
        have hn : ∀ r t, (consM.next st.s q0 r t).2.1.fresh = q0.fresh := fun r t => by
          show (if q0.rd then (st.s, q0, some _) else (st.s, (⟨true, q0.fresh, t⟩ : ConsQ), none)).2.1.fresh = _
          split <;> rfl
        rw [← hq2, hn]
        exact hfr q0 hvq
    · rw [List.getElem?_set_ne (fun h => hfe h.symm)] at hf
      exact h.2.2 u (List.mem_of_getElem? hf) q hq

theorem cons_inv_eq (s : consM.S) (x : CallV) : consM.inv s x = (s, if x.k = 0 then (if 4294967296 ≤ x.a then Sum.inr 10 else Sum.inl (⟨false, x.a + 1, 0⟩ : ConsQ)) else if x.k = 1 then Sum.inl ⟨true, 0, 0⟩ else Sum.inr 9) := rfl
theorem cons_ok (cs : List CallV) : MachOk consK cs ConsI where
  olen := rfl
  inv := fun st i x _ _ h0 h1 W FO _ hlt => by
    have hx0 : x.o = 0 := by have : (consM.m : Int) = 1 := rfl; omega
    have e : objOf consK.objs x.o = consObj := by rw [hx0]; rfl
    rw [e]
    refine ⟨_, _, _, rfl, consM_meth _, consM_enter, fun W' hW' => ?_⟩
    have mk : ∀ (er : Nat), er ≤ 1000 → er ≠ 0 → (consM.inv st.s x) = (st.s, .inr er) → Calls Try.prog 116 #[.agg #[.int .i64 0], callAgg x] W' (fun en w' => en = .returned (.tuple #[.nilIface, .int .i64 (er : Int)]) ∧ Below W'.heap.size W' w') →
        Calls Try.prog 116 #[.agg #[.int .i64 0], callAgg x] W' (InvRel consK (consM.inv st.s x) FO W') := fun er h1000 hne hin hc => hc.mono fun en w' ⟨hen, hb⟩ => by
      rw [hin]
      exact ⟨ButS.of_below hb, .nilIface, er, fun _ => False, FO, hen, trivial, ⟨by unfold opOf; rw [if_neg (by omega)], h1000⟩, fun b h => h.elim, fun b h => ⟨Nat.lt_of_lt_of_le (hlt b h) (Nat.le_trans hW'.size hb.size), .inl h, id⟩⟩
    have mk2 : ∀ (q : ConsQ), q.fresh ≤ 4294967296 → q.effect ≤ 70000 → (consM.inv st.s x) = (st.s, .inl q) → Calls Try.prog 116 #[.agg #[.int .i64 0], callAgg x] W' (ConsMade q W') →
        Calls Try.prog 116 #[.agg #[.int .i64 0], callAgg x] W' (InvRel consK (consM.inv st.s x) FO W') := fun q hf he hin hc => hc.mono fun en w' ⟨g, hen, hr, hg, hb⟩ => by
      rw [hin]
      have hgl := hr.lt
      exact ⟨ButS.of_below hb, _, 0, fun b => b = g, FO, hen, trivial, ⟨g, by unfold opOf; rw [if_pos rfl], rfl, hr, hf, he⟩, fun b h => by subst h; exact ⟨hg, hgl⟩, fun b h => ⟨Nat.lt_of_lt_of_le (hlt b h) (Nat.le_trans hW'.size hb.size), .inl h, fun e => by have := hlt b h; have := hW'.size; omega⟩⟩
    by_cases hk : x.k = 0
    · by_cases ha : 4294967296 ≤ x.a
      · exact mk 10 (by omega) (by omega) (by rw [cons_inv_eq, if_pos hk, if_pos ha]; rfl) (cons_range x W' 0 hk ha)
      · exact mk2 ⟨false, x.a + 1, 0⟩ (by simp only; omega) (by simp) (by rw [cons_inv_eq, if_pos hk, if_neg ha]; rfl) (cons_propose x W' hk (by omega))
    · by_cases hk1 : x.k = 1
      · exact mk2 ⟨true, 0, 0⟩ (by simp) (by simp) (by rw [cons_inv_eq, if_neg hk, if_pos hk1]; rfl) (cons_read x W' hk1)
      · exact mk 9 (by omega) (by omega) (by rw [cons_inv_eq, if_neg hk, if_neg hk1]; rfl) (cons_bad x W' 0 hk hk1)
  step := fun st p e v q hI _ hc hv hq hcn ht W opv bm bw F FO hop _ hM hs => by
    obtain ⟨g, rfl, hF, hr, hfr, hef⟩ := hop
    refine ⟨_, _, _, rfl, consStep_meth _, consStep_enter, fun W' hW' => ?_⟩
    have hM' := hM.of_blocks (hW'.block _ hM.lt1) (hW'.block _ hM.lt2)
    have hr' := hr.same (hW'.block _ hr.lt)
    have hw := hI.2.1
    have hcalls : Calls Try.prog 126 #[.pointer (some ⟨g, 0, none⟩), turnAgg bm (st.ticks : Int)] W' (ConsStepped q g bm bw st.ws st.cn st.ticks W') := by
      cases hrd : q.rd with
      | false => exact cons_swap q hrd g bm bw st.ws st.cn st.ticks W' hM' hr' hI.1 (by omega) ht
      | true => exact cons_read_step q hrd g bm bw st.ws st.cn st.ticks W' hM' hr' hI.1 (by omega) ht (by omega)
    refine hcalls.mono fun en w' ⟨h1, h2, h3, h4⟩ => ?_
    have hz := h2.size
    have hn : ∀ r, (consM.next st.s q r st.ticks).2.1.fresh = q.fresh ∧ (consM.next st.s q r st.ticks).2.1.effect ≤ 70000 := fun r => by
      show (if q.rd then (st.s, q, some _) else (st.s, (⟨true, q.fresh, st.ticks⟩ : ConsQ), none)).2.1.fresh = _ ∧ (if q.rd then (st.s, q, some _) else (st.s, (⟨true, q.fresh, st.ticks⟩ : ConsQ), none)).2.1.effect ≤ _
      split
      · exact ⟨rfl, hef⟩
      · exact ⟨rfl, ht⟩
    refine ⟨h1, h2.mono (fun k _ h => h.elim .inl (fun h => h.elim (fun h => .inr (.inl h)) (fun h => .inr (.inr (.inl (h ▸ hF)))))), F, FO, fun b h => ⟨Nat.lt_of_lt_of_le (hs.1 b h).1 (Nat.le_trans hW'.size hz), .inl h⟩, fun b h => ⟨Nat.lt_of_lt_of_le (hs.2 b h).1 (Nat.le_trans hW'.size hz), .inl h, fun h' => (hs.1 b h').2.2.2 h⟩, trivial, ⟨g, rfl, hF, h3, by rw [(hn _).1]; exact hfr, (hn _).2⟩, ?_⟩
    cases hans : (consM.next st.s q ((consM.acc st.s q).run st.ws st.cn).1 st.ticks).2.2 with
    | none =>
      have h4' : AnsOut (fun _ => False) en w' (consM.next st.s q ((consM.acc st.s q).run st.ws st.cn).1 st.ticks).2.2 := h4
      show AnsOut _ en w' (consM.next st.s q ((consM.acc st.s q).run st.ws st.cn).1 st.ticks).2.2
      rw [hans] at h4' ⊢
      exact h4'
    | some a =>
      have h4' : AnsOut (fun _ => False) en w' (consM.next st.s q ((consM.acc st.s q).run st.ws st.cn).1 st.ticks).2.2 := h4
      show AnsOut _ en w' (consM.next st.s q ((consM.acc st.s q).run st.ws st.cn).1 st.ticks).2.2
      rw [hans] at h4' ⊢
      obtain ⟨lv, h5, h6⟩ := h4'
      exact ⟨lv, h5, h6.keep (fun b _ h => h.elim)⟩
  key := fun W s q opv F FO hop _ => by
    obtain ⟨g, rfl, hF, hr, hfr, hef⟩ := hop
    exact .inr ⟨_, _, _, rfl, consKeyed _, consKey_meth _, consKey_enter, fun W' hW' => consKey_any g q W' (hr.same (hW'.block _ hr.lt)) hef⟩
  turn := fun st p i x hI _ _ _ => consI_turn st i x p hI
  stepI := fun st p i e v hI _ _ _ _ hv => consI_step st i p e v hI hv
  idle := fun st hI => hI

set_option maxHeartbeats 400000 in
theorem consSize (n : Int) (W : World) : Calls Try.prog 104 #[.agg #[], .int .i64 n] W fun e w' => e = .returned (.tuple #[.int .i64 1, .int .i64 0]) ∧ Below W.heap.size W w' := by
  go_enter Try.func104, Try.ntmps104
  go_wp2
  go_ret2
  exact ⟨rfl, (by first | exact Below.refl _ _ | exact (Below.refl _ _).alloc (Nat.le_refl _) _)⟩
set_option maxHeartbeats 400000 in
theorem consPlace (n : Int) (W : World) : Calls Try.prog 103 #[.agg #[], .int .i64 n, .int .i64 0] W fun e w' => e = .returned consObj ∧ Below W.heap.size W w' := by
  go_enter Try.func103, Try.ntmps103
  go_wp2
  go_ret
  exact ⟨rfl, (by first | exact Below.refl _ _ | exact (Below.refl _ _).alloc (Nat.le_refl _) _)⟩
theorem consSizeC (n : Int) : SizeC 70 (.agg #[]) n 1 0 := ⟨104, fun w' => by kernel_rfl, fun args w' => by kernel_rfl, fun W => consSize n W⟩
theorem consPlaceC (cs : List CallV) (n : Int) : PlaceC (M := consM) cs ConsI () 70 (.agg #[]) n := ⟨103, fun w' => by kernel_rfl, fun args w' => by kernel_rfl, fun W => (consPlace n W).mono fun e w' ⟨he, hb⟩ =>
  ⟨consObj, he, ⟨consK, fun _ => False, ⟨_, _, rfl⟩, rfl, cons_ok cs, trivial, fun b h => h.elim⟩, hb⟩⟩
theorem consNotFilled : NotFilled 70 (.agg #[]) := fun w => run_typeAssert_lacksB Try.underlying129 (by kernel_rfl) (by kernel_rfl) (.agg #[]) 55 w
theorem consI_first (cs : List CallV) : ConsI (stM (M := consM) cs (List.replicate 1 0) ()) := ⟨rfl, by simp [stM], fun v hv => by simp [stM] at hv⟩
theorem consPlay_any_new (w : World) : Calls Try.prog 23 #[] w fun e w' => e = .returned (.iface 70 (.agg #[])) ∧ w = w' := by
  go_enter Try.func23, Try.ntmps23
  go_wp2
  go_ret
  exact ⟨rfl, rfl⟩
set_option maxRecDepth 100000 in
set_option maxHeartbeats 4000000 in
theorem consPlay_any (I : St consM → Prop) (n : Int) (size er : Nat) (ao : Option Addr) (b o cap : Nat) (cs : List CallV) (ao3 : Option Addr) (b3 o3 cap3 : Nat) (picks : List Int) (w : World) (ha : 0 < cs.length → ao = some ⟨b, o, none⟩) (hb : 0 < cs.length → b < w.heap.size) (hc : CallsAt w b o cs) (hcap : ao = none → cap = 0)
    (ha3 : 0 < picks.length → ao3 = some ⟨b3, o3, none⟩) (hb3 : 0 < picks.length → b3 < w.heap.size) (hc3 : ICells w b3 o3 picks) (hnp : picks.length ≤ 9223372036854775807)
    (hS : checkL n (thr cs) picks.length = 0 → SizeC 70 (.agg #[]) n size er) (hP : checkL n (thr cs) picks.length = 0 → er = 0 → NotFilled 70 (.agg #[]) ∧ PlaceC cs I () 70 (.agg #[]) n ∧ 1 ≤ size ∧ size ≤ 65536 ∧ I (stM cs (List.replicate size 0) ())) :
    Calls Try.prog 11 #[.int .i64 n, .slice ao cs.length cap, .slice ao3 picks.length cap3] w (PlayG consM n er cs (List.replicate size 0) () picks w) := by
  have HA := Lib.hid ha
  have HB := Lib.hid hb
  have HC := Lib.hid hc
  have HA3 := Lib.hid ha3
  have HB3 := Lib.hid hb3
  have HC3 := Lib.hid hc3
  have HCP := Lib.hid hcap
  have HS := Lib.hid hS
  have HP := Lib.hid hP
  clear ha hb hc ha3 hb3 hc3 hcap hS hP
  go_enter Try.func11, Try.ntmps11
  go_wp2_with fail
  refine (consPlay_any_new _).mono ?_
  rintro e w1 ⟨rfl, rfl⟩
  go_wp2_with fail
  generalize hw2 : (w.alloc (.cells #[.slice none 0 0, .slice none 0 0, .int .i64 0, .int .i64 0, .int .i64 0, .int .i64 0, .int .i64 0, .int .i64 0, .int .i64 0] 31)).alloc (.cells #[.iface 70 (.agg #[])] 55) = w2
  have HBa : Hid (Below w.heap.size w w2) := Lib.hid (by rw [← hw2]; exact ((Below.refl w.heap.size w).alloc (Nat.le_refl _) _).alloc (by simp) _)
  have hsz2 : w2.heap.size = w.heap.size + 2 := by rw [← hw2]; simp
  have hz2 : RowBlk 31 w2 w.heap.size zeroVs := by rw [← hw2]; exact (RowBlk.new w zeroVs 31).alloc _
  have hob2 : w2.cell? ⟨w.heap.size + 1, 0, none⟩ = some (.iface 70 (.agg #[])) := by rw [← hw2, World.cell?_alloc_at _ _ _ _ (by simp)]; rfl
  have HZ2 := Lib.hid hz2
  clear hz2 hw2
  refine (play_any I () 70 (.agg #[]) n size er ao b o cap cs ao3 b3 o3 cap3 picks (w.heap.size + 1) 1 w2 HA.out (fun h => by have := HB.out h; omega) (HC.out.stays HBa.out HB.out) HCP.out HA3.out (fun h => by have := HB3.out h; omega) (HC3.out.stays HBa.out HB3.out) hnp hob2 HS.out HP.out).mono ?_
  rintro e w3 ⟨a1, n1, c1, a2, n2, c2, i0, i1, i2, i3, i4, i5, i6, v, rfl, rfl, hv1, hv2, hb3⟩
  have hz := HZ2.out.same (hb3.block _ (by omega))
  have HB3' : Hid (Below w.heap.size w w3) := Lib.hid (HBa.out.trans (hb3.mono (by omega)))
  have HV1 := Lib.hid hv1
  have HV2 := Lib.hid hv2
  have r0 := hz.cell (i := 0) rfl
  have r1 := hz.cell (i := 1) rfl
  have r2 := hz.cell (i := 2) rfl
  have r3 := hz.cell (i := 3) rfl
  have r4 := hz.cell (i := 4) rfl
  have r5 := hz.cell (i := 5) rfl
  have r6 := hz.cell (i := 6) rfl
  have r7 := hz.cell (i := 7) rfl
  have r8 := hz.cell (i := 8) rfl
  have fr : ∀ k, w3.frozen? ⟨w.heap.size, k, none⟩ = false := fun k => hz.free
  have HZ3 := Lib.hid hz
  clear hb3 hz hob2 hv1 hv2
  go_wp2_with fail
  have H7 : Hid (RowBlk 31 (((((((((w3.setCell ⟨w.heap.size, 0, none⟩ (.slice a1 n1 c1)).setCell ⟨w.heap.size, 1, none⟩ (.slice a2 n2 c2)).setCell ⟨w.heap.size, 2, none⟩ (.int .i64 i0)).setCell ⟨w.heap.size, 3, none⟩ (.int .i64 i1)).setCell ⟨w.heap.size, 4, none⟩ (.int .i64 i2)).setCell ⟨w.heap.size, 5, none⟩ (.int .i64 i3)).setCell ⟨w.heap.size, 6, none⟩ (.int .i64 i4)).setCell ⟨w.heap.size, 7, none⟩ (.int .i64 i5)).setCell ⟨w.heap.size, 8, none⟩ (.int .i64 i6)) w.heap.size [.slice a1 n1 c1, .slice a2 n2 c2, .int .i64 i0, .int .i64 i1, .int .i64 i2, .int .i64 i3, .int .i64 i4, .int .i64 i5, .int .i64 i6] ∧
      (playErr n cs picks.length er = 0 → RepG w.heap.size (((((((((w3.setCell ⟨w.heap.size, 0, none⟩ (.slice a1 n1 c1)).setCell ⟨w.heap.size, 1, none⟩ (.slice a2 n2 c2)).setCell ⟨w.heap.size, 2, none⟩ (.int .i64 i0)).setCell ⟨w.heap.size, 3, none⟩ (.int .i64 i1)).setCell ⟨w.heap.size, 4, none⟩ (.int .i64 i2)).setCell ⟨w.heap.size, 5, none⟩ (.int .i64 i3)).setCell ⟨w.heap.size, 6, none⟩ (.int .i64 i4)).setCell ⟨w.heap.size, 7, none⟩ (.int .i64 i5)).setCell ⟨w.heap.size, 8, none⟩ (.int .i64 i6)) (.agg #[.slice a1 n1 c1, .slice a2 n2 c2, .int .i64 i0, .int .i64 i1, .int .i64 i2, .int .i64 i3, .int .i64 i4, .int .i64 i5, .int .i64 i6]) (repOf (endM (M := consM) cs (List.replicate size 0) () picks))) ∧ Below w.heap.size w (((((((((w3.setCell ⟨w.heap.size, 0, none⟩ (.slice a1 n1 c1)).setCell ⟨w.heap.size, 1, none⟩ (.slice a2 n2 c2)).setCell ⟨w.heap.size, 2, none⟩ (.int .i64 i0)).setCell ⟨w.heap.size, 3, none⟩ (.int .i64 i1)).setCell ⟨w.heap.size, 4, none⟩ (.int .i64 i2)).setCell ⟨w.heap.size, 5, none⟩ (.int .i64 i3)).setCell ⟨w.heap.size, 6, none⟩ (.int .i64 i4)).setCell ⟨w.heap.size, 7, none⟩ (.int .i64 i5)).setCell ⟨w.heap.size, 8, none⟩ (.int .i64 i6))) := Lib.hid
    ⟨(((((((((HZ3.out.put 0 _).put 1 _).put 2 _).put 3 _).put 4 _).put 5 _).put 6 _).put 7 _).put 8 _),
     fun h => ((HV2.out h).mono (by omega)).other HZ3.out (fun k _ hk => by rw [heap_far hk, heap_far hk, heap_far hk, heap_far hk, heap_far hk, heap_far hk, heap_far hk, heap_far hk, heap_far hk]),
     (((((((((HB3'.out.setCell (Nat.le_refl _) _).setCell (Nat.le_refl _) _).setCell (Nat.le_refl _) _).setCell (Nat.le_refl _) _).setCell (Nat.le_refl _) _).setCell (Nat.le_refl _) _).setCell (Nat.le_refl _) _).setCell (Nat.le_refl _) _).setCell (Nat.le_refl _) _)⟩
  generalize ((((((((w3.setCell ⟨w.heap.size, 0, none⟩ (.slice a1 n1 c1)).setCell ⟨w.heap.size, 1, none⟩ (.slice a2 n2 c2)).setCell ⟨w.heap.size, 2, none⟩ (.int .i64 i0)).setCell ⟨w.heap.size, 3, none⟩ (.int .i64 i1)).setCell ⟨w.heap.size, 4, none⟩ (.int .i64 i2)).setCell ⟨w.heap.size, 5, none⟩ (.int .i64 i3)).setCell ⟨w.heap.size, 6, none⟩ (.int .i64 i4)).setCell ⟨w.heap.size, 7, none⟩ (.int .i64 i5)).setCell ⟨w.heap.size, 8, none⟩ (.int .i64 i6) = W7 at H7 ⊢
  have q0 := H7.out.1.cell (i := 0) rfl
  have q1 := H7.out.1.cell (i := 1) rfl
  have q2 := H7.out.1.cell (i := 2) rfl
  have q3 := H7.out.1.cell (i := 3) rfl
  have q4 := H7.out.1.cell (i := 4) rfl
  have q5 := H7.out.1.cell (i := 5) rfl
  have q6 := H7.out.1.cell (i := 6) rfl
  have q7 := H7.out.1.cell (i := 7) rfl
  have q8 := H7.out.1.cell (i := 8) rfl
  exact bodyPost_ret (v := .tuple #[.agg #[.slice a1 n1 c1, .slice a2 n2 c2, .int .i64 i0, .int .i64 i1, .int .i64 i2, .int .i64 i3, .int .i64 i4, .int .i64 i5, .int .i64 i6], .int .i64 (playErr n cs picks.length er : Nat)]) (by simp [results, Try.results11, go_sem, q0, q1, q2, q3, q4, q5, q6, q7, q8]) rfl
    ⟨_, _, _, _, _, _, _, _, _, _, _, _, _, _, rfl, rfl, HV1.out, H7.out.2.1, H7.out.2.2⟩
end
end Go.Proofs.Ytcedfcdhdgmelaa
