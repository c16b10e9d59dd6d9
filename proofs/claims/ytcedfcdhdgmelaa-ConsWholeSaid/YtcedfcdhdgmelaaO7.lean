/- The cons as a machine; walks of cons. -/
import Derived.Test.YtcedfcdhdgmelaaOA
namespace Go.Proofs.Ytcedfcdhdgmelaa
open Go.RowKit
set_option linter.unusedVariables false

structure ConsQ where
  rd : Bool
  fresh : Nat
  effect : Nat
def consM : Mach where
  S := Unit
  Q := ConsQ
  m := 1
  inv := fun s x => (s, if x.k = 0 then (if 4294967296 ≤ x.a then .inr 10 else .inl ⟨false, x.a + 1, 0⟩) else if x.k = 1 then .inl ⟨true, 0, 0⟩ else .inr 9)
  acc := fun _ q => if q.rd then .rd 0 else .sw 0 0 q.fresh
  next := fun s q r t => if q.rd then (s, q, some (if r = 0 then ⟨7, 0, []⟩ else ⟨0, r - 1, []⟩)) else (s, ⟨true, q.fresh, t⟩, none)
  key := fun _ q => if q.effect = 0 then [] else [2 * q.effect]
def consVs (q : ConsQ) : List Value := [.int .i64 (if q.rd then 1 else 0), .int .i64 0, .int .u64 (q.fresh : Int), .int .i64 (q.effect : Int)]
def consObj : Value := .iface 184 (.agg #[.int .i64 0])
def consK : MachRel consM where
  objs := [consObj]
  Obj := fun _ _ _ => True
  Op := fun w v q F => ∃ g, v = .iface 200 (.pointer (some ⟨g, 0, none⟩)) ∧ F g ∧ RowBlk 203 w g (consVs q) ∧ q.fresh ≤ 4294967296 ∧ q.effect ≤ 70000
  obj_keep := fun _ _ _ => trivial
  op_keep := fun h hb hG => by
    obtain ⟨g, h1, h2, h3, h4⟩ := h
    exact ⟨g, h1, hG g h2, h3.same (hb g h2), h4⟩
  op_iface := fun h => by obtain ⟨g, h1, _⟩ := h; exact ⟨_, _, h1⟩

theorem consM_meth (a : Int) (w : World) : (method 348 184 (.agg #[.int .i64 a]) "Invoke").run Try.prog w = .ok (116, .agg #[.int .i64 a]) w := by kernel_rfl
theorem consM_enter (args : Array Value) (w : World) : (callFunc 116 args).run Try.prog w = .ok (.enter 116 args) w := by kernel_rfl
theorem consStep_meth (a : Addr) (w : World) : (method 348 200 (.pointer (some a)) "Step").run Try.prog w = .ok (126, .pointer (some a)) w := by kernel_rfl
theorem consStep_enter (args : Array Value) (w : World) : (callFunc 126 args).run Try.prog w = .ok (.enter 126 args) w := by kernel_rfl
theorem consKey_meth (a : Addr) (w : World) : (method 348 200 (.pointer (some a)) "Key").run Try.prog w = .ok (125, .pointer (some a)) w := by kernel_rfl
theorem consKey_enter (args : Array Value) (w : World) : (callFunc 125 args).run Try.prog w = .ok (.enter 125 args) w := by kernel_rfl
theorem consKeyed (v : Value) (w : World) : (Instr.typeAssert (.iface 200 v) 138 161 true).run Try.prog w = .ok (.tuple #[.iface 200 v, .bool true]) w := by kernel_rfl

set_option maxRecDepth 100000 in
theorem cons_bad (x : CallV) (W : World) (k : Int) (hk : ¬ x.k = 0) (hk1 : ¬ x.k = 1) : Calls Try.prog 116 #[.agg #[.int .i64 k], callAgg x] W fun en w' => en = .returned (.tuple #[.nilIface, .int .i64 9]) ∧ Below W.heap.size W w' := by
  unfold callAgg
  go_enter Try.func116, Try.ntmps116
  go_wp2
  go_ret2
  exact ⟨rfl, ((Below.refl _ _).alloc (Nat.le_refl _) _).alloc (by simp) _⟩
set_option maxRecDepth 100000 in
theorem cons_range (x : CallV) (W : World) (k : Int) (hk : x.k = 0) (ha : 4294967296 ≤ x.a) : Calls Try.prog 116 #[.agg #[.int .i64 k], callAgg x] W fun en w' => en = .returned (.tuple #[.nilIface, .int .i64 10]) ∧ Below W.heap.size W w' := by
  unfold callAgg
  rw [hk]
  have h2 : (4294967296 : Int) ≤ (x.a : Int) := by omega
  go_enter Try.func116, Try.ntmps116
  go_wp2
  go_ret2
  exact ⟨rfl, ((Below.refl _ _).alloc (Nat.le_refl _) _).alloc (by simp) _⟩
def ConsMade (q : ConsQ) (W : World) (en : Ending) (w' : World) : Prop := ∃ g, en = .returned (.tuple #[.iface 200 (.pointer (some ⟨g, 0, none⟩)), .int .i64 0]) ∧ RowBlk 203 w' g (consVs q) ∧ W.heap.size ≤ g ∧ Below W.heap.size W w'
theorem new3 (W : World) (o1 o2 : Obj) (vs : List Value) (t : TypeId) : RowBlk t (((W.alloc o1).alloc o2).alloc (.cells vs.toArray t)) (W.heap.size + 1 + 1) vs := by
  have h := RowBlk.new ((W.alloc o1).alloc o2) vs t
  have e : ((W.alloc o1).alloc o2).heap.size = W.heap.size + 1 + 1 := by simp
  rw [e] at h; exact h
set_option maxRecDepth 100000 in
theorem cons_propose (x : CallV) (W : World) (hk : x.k = 0) (ha : x.a < 4294967296) : Calls Try.prog 116 #[.agg #[.int .i64 0], callAgg x] W (ConsMade ⟨false, x.a + 1, 0⟩ W) := by
  unfold callAgg
  rw [hk]
  have h2 : ¬ (4294967296 : Int) ≤ (x.a : Int) := by omega
  have h3 : (x.a : Int) + 1 ≤ 18446744073709551615 := by omega
  go_enter Try.func116, Try.ntmps116
  go_wp2
  go_ret2
  exact ⟨_, rfl, new3 W _ _ (consVs ⟨false, x.a + 1, 0⟩) _, by omega, (((Below.refl _ _).alloc (Nat.le_refl _) _).alloc (by simp) _).alloc (by simp; omega) _⟩
set_option maxRecDepth 100000 in
theorem cons_read (x : CallV) (W : World) (hk : x.k = 1) : Calls Try.prog 116 #[.agg #[.int .i64 0], callAgg x] W (ConsMade ⟨true, 0, 0⟩ W) := by
  unfold callAgg
  rw [hk]
  go_enter Try.func116, Try.ntmps116
  go_wp2
  go_ret2
  exact ⟨_, rfl, new3 W _ _ (consVs ⟨true, 0, 0⟩) _, by omega, (((Below.refl _ _).alloc (Nat.le_refl _) _).alloc (by simp) _).alloc (by simp; omega) _⟩

set_option maxRecDepth 100000 in
theorem decision_any (v : Nat) (W : World) (hv : v < 18446744073709551616) : Calls Try.prog 127 #[.int .u64 (v : Int)] W fun en w' => en = .returned (if v = 0 then .agg #[.int .i64 7, .int .u64 0, .slice none 0 0] else .agg #[.int .i64 0, .int .u64 ((v - 1 : Nat) : Int), .slice none 0 0]) ∧ Below W.heap.size W w' := by
  by_cases h : v = 0
  · subst h
    rw [if_pos rfl]
    go_enter Try.func127, Try.ntmps127
    go_wp2
    have hr := RowBlk.new W [.int .i64 7, .int .u64 0, .slice none 0 0] 45
    have q0 := hr.cell (i := 0) rfl
    have q1 := hr.cell (i := 1) rfl
    have q2 := hr.cell (i := 2) rfl
    exact bodyPost_ret (v := .agg #[.int .i64 7, .int .u64 0, .slice none 0 0]) (by simp only [List.toArray] at q0 q1 q2; simp [results, Try.results127, go_sem, q0, q1, q2]) rfl ⟨rfl, (Below.refl _ _).alloc (Nat.le_refl _) _⟩
  · rw [if_neg h]
    have h1 : ¬ (v : Int) = 0 := by omega
    go_enter Try.func127, Try.ntmps127
    go_wp2
    have e1 : ((v : Int) - 1) = ((v - 1 : Nat) : Int) := by omega
    rw [e1]
    have hr := RowBlk.new W [.int .i64 0, .int .u64 ((v - 1 : Nat) : Int), .slice none 0 0] 45
    have q0 := hr.cell (i := 0) rfl
    have q1 := hr.cell (i := 1) rfl
    have q2 := hr.cell (i := 2) rfl
    exact bodyPost_ret (v := .agg #[.int .i64 0, .int .u64 ((v - 1 : Nat) : Int), .slice none 0 0]) (by simp only [List.toArray] at q0 q1 q2; simp [results, Try.results127, go_sem, q0, q1, q2]) rfl ⟨rfl, (Below.refl _ _).alloc (Nat.le_refl _) _⟩

/-- what a step of a cons leaves -/
def ConsStepped (q : ConsQ) (g bm bw : Nat) (l : List Nat) (c : Cn) (t : Nat) (w : World) (en : Ending) (w' : World) : Prop :=
  MemIs 136 w' bm bw ((consM.acc () q).run l c).2.1 ((consM.acc () q).run l c).2.2 ∧ ButS (fun k => k = bm ∨ k = bw ∨ k = g) w w' ∧ RowBlk 203 w' g (consVs (consM.next () q ((consM.acc () q).run l c).1 t).2.1) ∧ AnsOut (fun _ => False) en w' (consM.next () q ((consM.acc () q).run l c).1 t).2.2

set_option maxRecDepth 100000 in
set_option maxHeartbeats 1000000 in
theorem cons_swap (q : ConsQ) (hq : q.rd = false) (g bm bw : Nat) (l : List Nat) (c : Cn) (t : Nat) (w : World) (hM : MemIs 136 w bm bw l c) (hg : RowBlk 203 w g (consVs q)) (hl : l.length = 1) (hc : c.s < 9223372036854775807) (ht : t ≤ 70000) :
    Calls Try.prog 126 #[.pointer (some ⟨g, 0, none⟩), turnAgg bm (t : Int)] w (ConsStepped q g bm bw l c t w) := by
  unfold turnAgg
  obtain ⟨rd, fresh, effect⟩ := q
  simp only at hq
  subst hq
  have hgm : g ≠ bm := by intro e; have h1 := hg; have h2 := hM.1; unfold RowBlk at h1; rw [e, h2] at h1; simp at h1
  have hgw : g ≠ bw := by intro e; have h1 := hg; have h2 := hM.2.1; unfold RowBlk at h1; rw [e, h2] at h1; simp at h1
  obtain ⟨y, hy⟩ : ∃ y, l.getD 0 0 = y := ⟨_, rfl⟩
  have HY := Lib.hid hy
  have HLL := Lib.hid hl
  clear hl hy
  have HM := Lib.hid hM
  have HG := Lib.hid hg
  have hmm := m_Swap ⟨bm, 0, none⟩
  have hbm := hM.lt1
  have hbw := hM.lt2
  have hgl := hg.lt
  have c0 : w.cell? ⟨g, 0, none⟩ = some (.int .i64 0) := hg.cell rfl
  have c1 : w.cell? ⟨g, 1, none⟩ = some (.int .i64 0) := hg.cell rfl
  have c2 : w.cell? ⟨g, 2, none⟩ = some (.int .u64 (fresh : Int)) := hg.cell rfl
  clear hM hg
  go_enter Try.func126, Try.ntmps126
  go_wp2_with fail
  have HGa : Hid (RowBlk 203 ((w.alloc (.cells #[.iface 94 (.pointer (some ⟨bm, 0, none⟩)), .int .i64 (t : Int)] 110)).alloc (.cells #[.int .i64 0, .int .u64 0, .slice none 0 0] 45)) g (consVs ⟨false, fresh, effect⟩)) := Lib.hid ((HG.out.alloc _).alloc _)
  have HMa : Hid (MemIs 136 ((w.alloc (.cells #[.iface 94 (.pointer (some ⟨bm, 0, none⟩)), .int .i64 (t : Int)] 110)).alloc (.cells #[.int .i64 0, .int .u64 0, .slice none 0 0] 45)) bm bw l c) := Lib.hid ((HM.out.alloc _).alloc _)
  have HTa : Hid (RowBlk 110 ((w.alloc (.cells #[.iface 94 (.pointer (some ⟨bm, 0, none⟩)), .int .i64 (t : Int)] 110)).alloc (.cells #[.int .i64 0, .int .u64 0, .slice none 0 0] 45)) w.heap.size [.iface 94 (.pointer (some ⟨bm, 0, none⟩)), .int .i64 (t : Int)]) := Lib.hid ((RowBlk.new _ _ _).alloc _)
  have HAa : Hid (RowBlk 45 ((w.alloc (.cells #[.iface 94 (.pointer (some ⟨bm, 0, none⟩)), .int .i64 (t : Int)] 110)).alloc (.cells #[.int .i64 0, .int .u64 0, .slice none 0 0] 45)) (w.heap.size + 1) [.int .i64 0, .int .u64 0, .slice none 0 0]) := Lib.hid (by
    have h := RowBlk.new (w.alloc (.cells #[.iface 94 (.pointer (some ⟨bm, 0, none⟩)), .int .i64 (t : Int)] 110)) [.int .i64 0, .int .u64 0, .slice none 0 0] 45
    have e : (w.alloc (.cells #[.iface 94 (.pointer (some ⟨bm, 0, none⟩)), .int .i64 (t : Int)] 110)).heap.size = w.heap.size + 1 := by simp
    rw [e] at h; exact h)
  have HBa : Hid (ButS (fun k => k = bm ∨ k = bw ∨ k = g) w ((w.alloc (.cells #[.iface 94 (.pointer (some ⟨bm, 0, none⟩)), .int .i64 (t : Int)] 110)).alloc (.cells #[.int .i64 0, .int .u64 0, .slice none 0 0] 45))) := Lib.hid (((ButS.refl _ _).alloc _).alloc _)
  generalize (w.alloc (.cells #[.iface 94 (.pointer (some ⟨bm, 0, none⟩)), .int .i64 (t : Int)] 110)).alloc (.cells #[.int .i64 0, .int .u64 0, .slice none 0 0] 45) = wa at HGa HMa HTa HAa HBa ⊢
  have d1 : wa.cell? ⟨g, 1, none⟩ = some (.int .i64 0) := HGa.out.cell rfl
  have d2 : wa.cell? ⟨g, 2, none⟩ = some (.int .u64 (fresh : Int)) := HGa.out.cell rfl
  have t0 : wa.cell? ⟨w.heap.size, 0, none⟩ = some (.iface 94 (.pointer (some ⟨bm, 0, none⟩))) := HTa.out.cell rfl
  clear c0 c1 c2
  have HSW : Hid (∀ W : World, MemIs 136 W bm bw l c → Calls Try.prog 157 #[.pointer (some ⟨bm, 0, none⟩), .int .i64 0, .int .u64 0, .int .u64 (fresh : Int)] W (AccPost (.bool (decide (y = 0))) (.sw 0 0 fresh) bm bw l c W)) := Lib.hid (fun W hW => by rw [← HY.out]; exact sw_acc (i := 0) 0 fresh hW (by have := HLL.out; omega) (by have := HLL.out; omega) hc)
  go_region_held3 (fun w' => w'.cell? ⟨g, 1, none⟩ = some (.int .i64 0) ∧ w'.cell? ⟨g, 2, none⟩ = some (.int .u64 (fresh : Int)) ∧ w'.cell? ⟨w.heap.size, 0, none⟩ = some (.iface 94 (.pointer (some ⟨bm, 0, none⟩))))
    (first | exact ⟨e1, e2, e0⟩ | go_keep)
    (first
      | (go_at_call 157
         refine (HSW.out _ HMa.out.drew).mono ?_
         rintro e w4 ⟨rfl, hM4, hB4⟩
         have hG4 := RowBlk.same HGa.out.drew (hB4.block g HGa.out.lt hgm hgw)
         have hT4 := RowBlk.same HTa.out.drew (hB4.block w.heap.size HTa.out.lt (by omega) (by omega))
         have hA4 := RowBlk.same HAa.out.drew (hB4.block (w.heap.size + 1) HAa.out.lt (by omega) (by omega))
         have e1 : w4.cell? ⟨g, 1, none⟩ = some (.int .i64 0) := hG4.cell rfl
         have e2 : w4.cell? ⟨g, 2, none⟩ = some (.int .u64 (fresh : Int)) := hG4.cell rfl
         have e0 : w4.cell? ⟨w.heap.size, 0, none⟩ = some (.iface 94 (.pointer (some ⟨bm, 0, none⟩))) := hT4.cell rfl
         have a0 := hA4.cell (i := 0) rfl
         have a1 := hA4.cell (i := 1) rfl
         have a2 := hA4.cell (i := 2) rfl
         have z0 : w4.frozen? ⟨w.heap.size + 1, 0, none⟩ = false := hA4.free
         have z1 : w4.frozen? ⟨w.heap.size + 1, 1, none⟩ = false := hA4.free
         have z2 : w4.frozen? ⟨w.heap.size + 1, 2, none⟩ = false := hA4.free
         have HG4 := Lib.hid hG4
         have HT4 := Lib.hid hT4
         have HA4 := Lib.hid hA4
         have HM4 := Lib.hid hM4
         have HB4 := Lib.hid hB4
         clear hG4 hT4 hM4 hB4 hA4))
  have t1 : w4.cell? ⟨w.heap.size, 1, none⟩ = some (.int .i64 (t : Int)) := HT4.out.cell rfl
  have g3 : w4.cell? ⟨g, 3, none⟩ = some (.int .i64 (effect : Int)) := HG4.out.cell rfl
  have g0 : w4.cell? ⟨g, 0, none⟩ = some (.int .i64 0) := HG4.out.cell rfl
  have fz : ∀ k, w4.frozen? ⟨g, k, none⟩ = false := fun k => HG4.out.free
  have n1 : w.heap.size + 1 ≠ g := by omega
  have n2 : g ≠ w.heap.size + 1 := by omega
  have n3 : w.heap.size ≠ g := by omega
  clear e1 e2 e0
  have HX : Hid (RowBlk 45 (((((w4.setCell ⟨g, 3, none⟩ (.int .i64 (t : Int))).setCell ⟨g, 0, none⟩ (.int .i64 1)).setCell ⟨w.heap.size + 1, 0, none⟩ (.int .i64 0)).setCell ⟨w.heap.size + 1, 1, none⟩ (.int .u64 0)).setCell ⟨w.heap.size + 1, 2, none⟩ (.slice none 0 0)) (w.heap.size + 1) [.int .i64 0, .int .u64 0, .slice none 0 0] ∧ RowBlk 203 (((((w4.setCell ⟨g, 3, none⟩ (.int .i64 (t : Int))).setCell ⟨g, 0, none⟩ (.int .i64 1)).setCell ⟨w.heap.size + 1, 0, none⟩ (.int .i64 0)).setCell ⟨w.heap.size + 1, 1, none⟩ (.int .u64 0)).setCell ⟨w.heap.size + 1, 2, none⟩ (.slice none 0 0)) g (consVs ⟨true, fresh, t⟩) ∧ MemIs 136 (((((w4.setCell ⟨g, 3, none⟩ (.int .i64 (t : Int))).setCell ⟨g, 0, none⟩ (.int .i64 1)).setCell ⟨w.heap.size + 1, 0, none⟩ (.int .i64 0)).setCell ⟨w.heap.size + 1, 1, none⟩ (.int .u64 0)).setCell ⟨w.heap.size + 1, 2, none⟩ (.slice none 0 0)) bm bw ((Acc.sw 0 0 fresh).run l c).2.1 ((Acc.sw 0 0 fresh).run l c).2.2 ∧ ButS (fun k => k = bm ∨ k = bw ∨ k = g) w (((((w4.setCell ⟨g, 3, none⟩ (.int .i64 (t : Int))).setCell ⟨g, 0, none⟩ (.int .i64 1)).setCell ⟨w.heap.size + 1, 0, none⟩ (.int .i64 0)).setCell ⟨w.heap.size + 1, 1, none⟩ (.int .u64 0)).setCell ⟨w.heap.size + 1, 2, none⟩ (.slice none 0 0))) := Lib.hid
    ⟨((((HA4.out.other n1 _).other n1 _).put 0 _).put 1 _).put 2 _, ((((HG4.out.put 3 _).put 0 _).other n2 _).other n2 _).other n2 _, ((((HM4.out.setNew _ _ hgm hgw).setNew _ _ hgm hgw).setNew _ _ (by omega) (by omega)).setNew _ _ (by omega) (by omega)).setNew _ _ (by omega) (by omega),
      (((((HBa.out.drew.trans (ButS.of_but HB4.out (.inl rfl) (.inr (.inl rfl)))).setCell (.inl (.inr (.inr rfl))) _).setCell (.inl (.inr (.inr rfl))) _).setCell (.inr (by show w.heap.size ≤ w.heap.size + 1; omega)) _).setCell (.inr (by show w.heap.size ≤ w.heap.size + 1; omega)) _).setCell (.inr (by show w.heap.size ≤ w.heap.size + 1; omega)) _⟩
  go_wp2_with fail
  generalize ((((w4.setCell ⟨g, 3, none⟩ (.int .i64 (t : Int))).setCell ⟨g, 0, none⟩ (.int .i64 1)).setCell ⟨w.heap.size + 1, 0, none⟩ (.int .i64 0)).setCell ⟨w.heap.size + 1, 1, none⟩ (.int .u64 0)).setCell ⟨w.heap.size + 1, 2, none⟩ (.slice none 0 0) = W5 at HX ⊢
  have q0 := HX.out.1.cell (i := 0) rfl
  have q1 := HX.out.1.cell (i := 1) rfl
  have q2 := HX.out.1.cell (i := 2) rfl
  exact bodyPost_ret (v := .tuple #[.agg #[.int .i64 0, .int .u64 0, .slice none 0 0], .bool false]) (by simp [results, Try.results126, go_sem, q0, q1, q2]) rfl ⟨HX.out.2.2.1, HX.out.2.2.2, HX.out.2.1, rfl⟩

set_option maxRecDepth 100000 in
set_option maxHeartbeats 1000000 in
theorem cons_look (q : ConsQ) (hq : q.rd = true) (g bm bw : Nat) (l : List Nat) (c : Cn) (t : Nat) (w : World) (hM : MemIs 136 w bm bw l c) (hg : RowBlk 203 w g (consVs q)) (hl : l.length = 1) (hc : c.r < 9223372036854775807) (ht : t ≤ 70000) (er vl : Nat) (hd : ∀ W : World, Calls Try.prog 127 #[.int .u64 ((l.getD 0 0 : Nat) : Int)] W fun en w' => en = .returned (.agg #[.int .i64 (er : Int), .int .u64 (vl : Int), .slice none 0 0]) ∧ Below W.heap.size W w')
    (hr : (if l.getD 0 0 = 0 then (⟨7, 0, []⟩ : Ans) else ⟨0, l.getD 0 0 - 1, []⟩) = ⟨er, vl, []⟩) :
    Calls Try.prog 126 #[.pointer (some ⟨g, 0, none⟩), turnAgg bm (t : Int)] w (ConsStepped q g bm bw l c t w) := by
  unfold turnAgg
  obtain ⟨rd, fresh, effect⟩ := q
  simp only at hq
  subst hq
  have hgm : g ≠ bm := by intro e; have h1 := hg; have h2 := hM.1; unfold RowBlk at h1; rw [e, h2] at h1; simp at h1
  have hgw : g ≠ bw := by intro e; have h1 := hg; have h2 := hM.2.1; unfold RowBlk at h1; rw [e, h2] at h1; simp at h1
  obtain ⟨y, hy⟩ : ∃ y, l.getD 0 0 = y := ⟨_, rfl⟩
  rw [hy] at hd
  have HD := Lib.hid hd
  have HR := Lib.hid hr
  clear hd hr
  have HY := Lib.hid hy
  have HLL := Lib.hid hl
  clear hl hy
  have HM := Lib.hid hM
  have HG := Lib.hid hg
  have hmm := m_Read ⟨bm, 0, none⟩
  have hbm := hM.lt1
  have hbw := hM.lt2
  have hgl := hg.lt
  have c0 : w.cell? ⟨g, 0, none⟩ = some (.int .i64 1) := hg.cell rfl
  have c1 : w.cell? ⟨g, 1, none⟩ = some (.int .i64 0) := hg.cell rfl
  have c2 : w.cell? ⟨g, 2, none⟩ = some (.int .u64 (fresh : Int)) := hg.cell rfl
  clear hM hg
  go_enter Try.func126, Try.ntmps126
  go_wp2_with fail
  have HGa : Hid (RowBlk 203 ((w.alloc (.cells #[.iface 94 (.pointer (some ⟨bm, 0, none⟩)), .int .i64 (t : Int)] 110)).alloc (.cells #[.int .i64 0, .int .u64 0, .slice none 0 0] 45)) g (consVs ⟨true, fresh, effect⟩)) := Lib.hid ((HG.out.alloc _).alloc _)
  have HMa : Hid (MemIs 136 ((w.alloc (.cells #[.iface 94 (.pointer (some ⟨bm, 0, none⟩)), .int .i64 (t : Int)] 110)).alloc (.cells #[.int .i64 0, .int .u64 0, .slice none 0 0] 45)) bm bw l c) := Lib.hid ((HM.out.alloc _).alloc _)
  have HTa : Hid (RowBlk 110 ((w.alloc (.cells #[.iface 94 (.pointer (some ⟨bm, 0, none⟩)), .int .i64 (t : Int)] 110)).alloc (.cells #[.int .i64 0, .int .u64 0, .slice none 0 0] 45)) w.heap.size [.iface 94 (.pointer (some ⟨bm, 0, none⟩)), .int .i64 (t : Int)]) := Lib.hid ((RowBlk.new _ _ _).alloc _)
  have HAa : Hid (RowBlk 45 ((w.alloc (.cells #[.iface 94 (.pointer (some ⟨bm, 0, none⟩)), .int .i64 (t : Int)] 110)).alloc (.cells #[.int .i64 0, .int .u64 0, .slice none 0 0] 45)) (w.heap.size + 1) [.int .i64 0, .int .u64 0, .slice none 0 0]) := Lib.hid (by
    have h := RowBlk.new (w.alloc (.cells #[.iface 94 (.pointer (some ⟨bm, 0, none⟩)), .int .i64 (t : Int)] 110)) [.int .i64 0, .int .u64 0, .slice none 0 0] 45
    have e : (w.alloc (.cells #[.iface 94 (.pointer (some ⟨bm, 0, none⟩)), .int .i64 (t : Int)] 110)).heap.size = w.heap.size + 1 := by simp
    rw [e] at h; exact h)
  have HBa : Hid (ButS (fun k => k = bm ∨ k = bw ∨ k = g) w ((w.alloc (.cells #[.iface 94 (.pointer (some ⟨bm, 0, none⟩)), .int .i64 (t : Int)] 110)).alloc (.cells #[.int .i64 0, .int .u64 0, .slice none 0 0] 45))) := Lib.hid (((ButS.refl _ _).alloc _).alloc _)
  generalize (w.alloc (.cells #[.iface 94 (.pointer (some ⟨bm, 0, none⟩)), .int .i64 (t : Int)] 110)).alloc (.cells #[.int .i64 0, .int .u64 0, .slice none 0 0] 45) = wa at HGa HMa HTa HAa HBa ⊢
  have d1 : wa.cell? ⟨g, 1, none⟩ = some (.int .i64 0) := HGa.out.cell rfl
  have d2 : wa.cell? ⟨g, 2, none⟩ = some (.int .u64 (fresh : Int)) := HGa.out.cell rfl
  have t0 : wa.cell? ⟨w.heap.size, 0, none⟩ = some (.iface 94 (.pointer (some ⟨bm, 0, none⟩))) := HTa.out.cell rfl
  clear c0 c1 c2
  have HSW : Hid (∀ W : World, MemIs 136 W bm bw l c → Calls Try.prog 156 #[.pointer (some ⟨bm, 0, none⟩), .int .i64 0] W (AccPost (.int .u64 (y : Int)) (.rd 0) bm bw l c W)) := Lib.hid (fun W hW => by rw [← HY.out]; exact rd_acc (i := 0) hW (by have := HLL.out; omega) (by have := HLL.out; omega) hc)
  have n1 : g ≠ w.heap.size + 1 := by omega
  have n0 : w.heap.size ≠ w.heap.size + 1 := by omega
  go_region_held3 (fun w' => w'.cell? ⟨g, 1, none⟩ = some (.int .i64 0) ∧ w'.cell? ⟨g, 2, none⟩ = some (.int .u64 (fresh : Int)) ∧ w'.cell? ⟨w.heap.size, 0, none⟩ = some (.iface 94 (.pointer (some ⟨bm, 0, none⟩))))
    (first | (simp only [cell_far n1, cell_far n0]; with_reducible exact ⟨e1, e2, e0⟩) | with_reducible exact ⟨e1, e2, e0⟩ | go_keep)
    (first
      | (go_at_call 156
         refine (HSW.out _ HMa.out.drew).mono ?_
         rintro e w4 ⟨rfl, hM4, hB4⟩
         have hG4 := RowBlk.same HGa.out.drew (hB4.block g HGa.out.lt hgm hgw)
         have hT4 := RowBlk.same HTa.out.drew (hB4.block w.heap.size HTa.out.lt (by omega) (by omega))
         have hA4 := RowBlk.same HAa.out.drew (hB4.block (w.heap.size + 1) HAa.out.lt (by omega) (by omega))
         have e1 : w4.cell? ⟨g, 1, none⟩ = some (.int .i64 0) := hG4.cell rfl
         have e2 : w4.cell? ⟨g, 2, none⟩ = some (.int .u64 (fresh : Int)) := hG4.cell rfl
         have e0 : w4.cell? ⟨w.heap.size, 0, none⟩ = some (.iface 94 (.pointer (some ⟨bm, 0, none⟩))) := hT4.cell rfl
         have a0 := hA4.cell (i := 0) rfl
         have a1 := hA4.cell (i := 1) rfl
         have a2 := hA4.cell (i := 2) rfl
         have z0 : w4.frozen? ⟨w.heap.size + 1, 0, none⟩ = false := hA4.free
         have z1 : w4.frozen? ⟨w.heap.size + 1, 1, none⟩ = false := hA4.free
         have z2 : w4.frozen? ⟨w.heap.size + 1, 2, none⟩ = false := hA4.free
         have HG4 := Lib.hid hG4
         have HT4 := Lib.hid hT4
         have HA4 := Lib.hid hA4
         have HM4 := Lib.hid hM4
         have HB4 := Lib.hid hB4
         clear hG4 hT4 hM4 hB4 hA4)
      | (go_at_call 127
         refine (HD.out w4).mono ?_
         rintro e w5 ⟨rfl, hb5⟩
         have hG5 := RowBlk.same HG4.out (hb5.block g HG4.out.lt)
         have hT5 := RowBlk.same HT4.out (hb5.block w.heap.size HT4.out.lt)
         have hA5 := RowBlk.same HA4.out (hb5.block (w.heap.size + 1) HA4.out.lt)
         have e1 : w5.cell? ⟨g, 1, none⟩ = some (.int .i64 0) := hG5.cell rfl
         have e2 : w5.cell? ⟨g, 2, none⟩ = some (.int .u64 (fresh : Int)) := hG5.cell rfl
         have e0 : w5.cell? ⟨w.heap.size, 0, none⟩ = some (.iface 94 (.pointer (some ⟨bm, 0, none⟩))) := hT5.cell rfl
         have a0 := hA5.cell (i := 0) rfl
         have a1 := hA5.cell (i := 1) rfl
         have a2 := hA5.cell (i := 2) rfl
         have z0 : w5.frozen? ⟨w.heap.size + 1, 0, none⟩ = false := hA5.free
         have z1 : w5.frozen? ⟨w.heap.size + 1, 1, none⟩ = false := hA5.free
         have z2 : w5.frozen? ⟨w.heap.size + 1, 2, none⟩ = false := hA5.free
         have HX : Hid (RowBlk 45 (((w5.setCell ⟨w.heap.size + 1, 0, none⟩ (.int .i64 (er : Int))).setCell ⟨w.heap.size + 1, 1, none⟩ (.int .u64 (vl : Int))).setCell ⟨w.heap.size + 1, 2, none⟩ (.slice none 0 0)) (w.heap.size + 1) [.int .i64 (er : Int), .int .u64 (vl : Int), .slice none 0 0] ∧ RowBlk 203 (((w5.setCell ⟨w.heap.size + 1, 0, none⟩ (.int .i64 (er : Int))).setCell ⟨w.heap.size + 1, 1, none⟩ (.int .u64 (vl : Int))).setCell ⟨w.heap.size + 1, 2, none⟩ (.slice none 0 0)) g (consVs ⟨true, fresh, effect⟩) ∧ MemIs 136 (((w5.setCell ⟨w.heap.size + 1, 0, none⟩ (.int .i64 (er : Int))).setCell ⟨w.heap.size + 1, 1, none⟩ (.int .u64 (vl : Int))).setCell ⟨w.heap.size + 1, 2, none⟩ (.slice none 0 0)) bm bw ((Acc.rd 0).run l c).2.1 ((Acc.rd 0).run l c).2.2 ∧ ButS (fun k => k = bm ∨ k = bw ∨ k = g) w (((w5.setCell ⟨w.heap.size + 1, 0, none⟩ (.int .i64 (er : Int))).setCell ⟨w.heap.size + 1, 1, none⟩ (.int .u64 (vl : Int))).setCell ⟨w.heap.size + 1, 2, none⟩ (.slice none 0 0))) := Lib.hid
           ⟨((hA5.put 0 _).put 1 _).put 2 _, ((hG5.other n1 _).other n1 _).other n1 _, (((HM4.out.of_blocks (hb5.block _ HM4.out.lt1) (hb5.block _ HM4.out.lt2)).setNew _ _ (by omega) (by omega)).setNew _ _ (by omega) (by omega)).setNew _ _ (by omega) (by omega),
             ((((HBa.out.drew.trans (ButS.of_but HB4.out (.inl rfl) (.inr (.inl rfl)))).trans (ButS.of_below hb5)).setCell (.inr (by show w.heap.size ≤ w.heap.size + 1; omega)) _).setCell (.inr (by show w.heap.size ≤ w.heap.size + 1; omega)) _).setCell (.inr (by show w.heap.size ≤ w.heap.size + 1; omega)) _⟩
         clear hG5 hT5 hA5 hb5))
  go_wp2_with fail
  generalize ((w5.setCell ⟨w.heap.size + 1, 0, none⟩ (.int .i64 (er : Int))).setCell ⟨w.heap.size + 1, 1, none⟩ (.int .u64 (vl : Int))).setCell ⟨w.heap.size + 1, 2, none⟩ (.slice none 0 0) = W5 at HX ⊢
  have q0 := HX.out.1.cell (i := 0) rfl
  have q1 := HX.out.1.cell (i := 1) rfl
  have q2 := HX.out.1.cell (i := 2) rfl
  refine bodyPost_ret (v := .tuple #[.agg #[.int .i64 (er : Int), .int .u64 (vl : Int), .slice none 0 0], .bool true]) (by simp [results, Try.results126, go_sem, q0, q1, q2]) rfl ⟨HX.out.2.2.1, HX.out.2.2.2, HX.out.2.1, ?_⟩
  show AnsOut _ _ _ (some (if l.getD 0 0 = 0 then (⟨7, 0, []⟩ : Ans) else ⟨0, l.getD 0 0 - 1, []⟩))
  rw [HR.out]
  exact ⟨_, rfl, ListAt.nil _ _ _ _⟩
theorem cons_read_step (q : ConsQ) (hq : q.rd = true) (g bm bw : Nat) (l : List Nat) (c : Cn) (t : Nat) (w : World) (hM : MemIs 136 w bm bw l c) (hg : RowBlk 203 w g (consVs q)) (hl : l.length = 1) (hc : c.r < 9223372036854775807) (ht : t ≤ 70000) (hx : l.getD 0 0 < 18446744073709551616) :
    Calls Try.prog 126 #[.pointer (some ⟨g, 0, none⟩), turnAgg bm (t : Int)] w (ConsStepped q g bm bw l c t w) := by
  by_cases h : l.getD 0 0 = 0
  · exact cons_look q hq g bm bw l c t w hM hg hl hc ht 7 0 (fun W => by have := decision_any (l.getD 0 0) W hx; rw [if_pos h] at this; exact this) (by rw [if_pos h])
  · exact cons_look q hq g bm bw l c t w hM hg hl hc ht 0 (l.getD 0 0 - 1) (fun W => by have := decision_any (l.getD 0 0) W hx; rw [if_neg h] at this; exact this) (by rw [if_neg h])
end Go.Proofs.Ytcedfcdhdgmelaa
