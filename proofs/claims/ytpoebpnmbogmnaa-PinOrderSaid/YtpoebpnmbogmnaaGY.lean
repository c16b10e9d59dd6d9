/- Walks of loom: Invoke, and the steps of single accesses. | Frames; walks of loom: key, step. | Walks of loom: Clone, report. -/
import Derived.Test.YtpoebpnmbogmnaaGU
import Derived.Test.YtpoebpnmbogmnaaGN
import Derived.Deep.RegionHeld3
import Derived.Stop.Asserts
import Derived.Test.YtpoebpnmbogmnaaGK
import Derived.Lib.SliceRun
namespace Go.Proofs.Ytpoebpnmbogmnaa
section
open Go.RowKit

def callAgg (x : CallV) : Value := .agg #[.int .i64 x.t, .int .i64 x.o, .int .i64 x.k, .int .u64 x.a, .int .u64 x.b, .int .u64 x.c]

set_option maxHeartbeats 1000000 in
theorem nowhere_any (x : CallV) (w : World) : Calls Try.prog 120 #[.agg #[], callAgg x] w fun e w' => e = .returned (.tuple #[.nilIface, .int .i64 12]) ∧ Below w.heap.size w w' := by
  unfold callAgg
  go_enter Try.func120, Try.ntmps120
  go_wp2
  go_ret2
  exact ⟨rfl, ((Below.refl _ _).alloc (Nat.le_refl _) _).alloc (by simp) _⟩

def turnAgg (bm : Nat) (tick : Int) : Value := .agg #[.iface 97 (.pointer (some ⟨bm, 0, none⟩)), .int .i64 tick]
/-- what a step that responds leaves -/
def StepEnd (err val : Int) (bm bw : Nat) (l : List Nat) (c : Cn) (w : World) (e : Ending) (w' : World) : Prop :=
  e = .returned (.tuple #[.agg #[.int .i64 err, .int .u64 val, .slice none 0 0], .bool true]) ∧ MemIs 139 w' bm bw l c ∧ But bm bw w w'

set_option maxHeartbeats 1000000 in
theorem refusal_step (r : Int) (bm bw : Nat) (tick : Int) (l : List Nat) (c : Cn) (w : World) (hM : MemIs 139 w bm bw l c) :
    Calls Try.prog 119 #[.agg #[.int .i64 r], turnAgg bm tick] w (StepEnd r 0 bm bw l c w) := by
  unfold turnAgg
  have HM := Lib.hid hM
  clear hM
  go_enter Try.func119, Try.ntmps119
  go_wp2
  exact bodyPost_ret (v := .tuple #[.agg #[.int .i64 r, .int .u64 0, .slice none 0 0], .bool true]) (by simp [results, Try.results119, go_sem]) rfl ⟨rfl, ((HM.out.alloc _).alloc _).alloc _, (((But.refl _ _ _).alloc _).alloc _).alloc _⟩

theorem answer_store {w w4 : World} {g bm bw : Nat} {l : List Nat} {c : Cn} {a b d : Value} (a' b' d' : Value) (hk : RowBlk 39 w4 g [a, b, d]) (hM : MemIs 139 w4 bm bw l c) (hB : But bm bw w w4) (hg : w.heap.size ≤ g) (h1 : g ≠ bm) (h2 : g ≠ bw) :
    RowBlk 39 (((w4.setCell ⟨g, 0, none⟩ a').setCell ⟨g, 1, none⟩ b').setCell ⟨g, 2, none⟩ d') g [a', b', d'] ∧ MemIs 139 (((w4.setCell ⟨g, 0, none⟩ a').setCell ⟨g, 1, none⟩ b').setCell ⟨g, 2, none⟩ d') bm bw l c ∧
      But bm bw w (((w4.setCell ⟨g, 0, none⟩ a').setCell ⟨g, 1, none⟩ b').setCell ⟨g, 2, none⟩ d') := by
  refine ⟨((hk.put 0 a').put 1 b').put 2 d', ((hM.setNew _ _ h1 h2).setNew _ _ h1 h2).setNew _ _ h1 h2, ((hB.setNew _ _ hg).setNew _ _ hg).setNew _ _ hg⟩

theorem m_Read (a : Addr) (w : World) : (method 369 97 (.pointer (some a)) "Read").run Try.prog w = .ok (196, .pointer (some a)) w := by kernel_rfl
theorem m_Write (a : Addr) (w : World) : (method 369 97 (.pointer (some a)) "Write").run Try.prog w = .ok (198, .pointer (some a)) w := by kernel_rfl
theorem m_Swap (a : Addr) (w : World) : (method 369 97 (.pointer (some a)) "Swap").run Try.prog w = .ok (197, .pointer (some a)) w := by kernel_rfl
theorem m_Add (a : Addr) (w : World) : (method 369 97 (.pointer (some a)) "Add").run Try.prog w = .ok (195, .pointer (some a)) w := by kernel_rfl

end
section
open Go.RowKit

/-- all blocks that there were, but those of S, are as they were -/
structure ButS (S : Nat → Prop) (w w' : World) : Prop where
  os : w'.os = w.os
  tape : w'.tape = w.tape
  output : w'.output = w.output
  size : w.heap.size ≤ w'.heap.size
  block : ∀ k, k < w.heap.size → ¬ S k → w'.heap[k]? = w.heap[k]?
section
variable {S : Nat → Prop} {a b w : World}
theorem ButS.refl (S : Nat → Prop) (w : World) : ButS S w w := ⟨rfl, rfl, rfl, Nat.le_refl _, fun _ _ _ => rfl⟩
theorem ButS.trans {c : World} (h : ButS S a b) (k : ButS S b c) : ButS S a c :=
  ⟨k.os.trans h.os, k.tape.trans h.tape, k.output.trans h.output, Nat.le_trans h.size k.size, fun i hi h1 => (k.block i (Nat.lt_of_lt_of_le hi h.size) h1).trans (h.block i hi h1)⟩
theorem ButS.alloc (h : ButS S a w) (o : Obj) : ButS S a (w.alloc o) :=
  ⟨h.os, h.tape, h.output, Nat.le_trans h.size (by simp), fun i hi h1 => (Below.heap_alloc w o i (Nat.lt_of_lt_of_le hi h.size)).trans (h.block i hi h1)⟩
theorem ButS.setCell (h : ButS S a w) {x : Addr} (hx : S x.block ∨ a.heap.size ≤ x.block) (v : Value) : ButS S a (w.setCell x v) :=
  ⟨h.os, h.tape, h.output, by simpa [World.setCell] using h.size, fun i hi h1 => (Below.heap_setCell w x v i (fun e => hx.elim (fun hx => h1 (e ▸ hx)) (fun hx => by omega))).trans (h.block i hi h1)⟩
theorem ButS.drewN (h : ButS S a w) (n : Nat) : ButS S a (w.drewN n) := ⟨h.os, h.tape, h.output, h.size, h.block⟩
theorem ButS.drew (h : ButS S a w) : ButS S a w.drew := ⟨h.os, h.tape, h.output, h.size, h.block⟩
theorem ButS.below {B : Nat} (h : ButS S a w) (hS : ∀ k, S k → B ≤ k) (hB : B ≤ a.heap.size) : Below B a w :=
  ⟨h.os, h.tape, h.output, h.size, fun k hk => h.block k (by omega) (fun hs => by have := hS k hs; omega)⟩
theorem ButS.of_but {p q : Nat} (h : But p q a w) (hp : S p) (hq : S q) : ButS S a w :=
  ⟨h.os, h.tape, h.output, h.size, fun k hk hs => h.block k hk (fun e => hs (e ▸ hp)) (fun e => hs (e ▸ hq))⟩
theorem ButS.of_below (h : Below a.heap.size a w) : ButS S a w := ⟨h.os, h.tape, h.output, h.size, fun k hk _ => h.block k hk⟩
theorem ButS.of_grown {row : Option Nat} (h : a.grownBy w row) (hr : ∀ k, row = some k → S k) : ButS S a w :=
  ⟨h.os, h.tape, h.output, h.size, fun k hk hs => h.block k hk (fun e => hs (hr k e.symm))⟩
theorem ButS.mono {S' : Nat → Prop} (h : ButS S a w) (hS : ∀ k, k < a.heap.size → S k → S' k) : ButS S' a w := ⟨h.os, h.tape, h.output, h.size, fun k hk hs => h.block k hk (fun e => hs (hS k hk e))⟩
theorem ButS.row {t : TypeId} {g : Nat} {vs : List Value} (h : ButS S a w) (hr : RowBlk t a g vs) (hg : ¬ S g) : RowBlk t w g vs := hr.same (h.block g hr.lt hg)
end
theorem row_ne {t t' : TypeId} {w : World} {g g' : Nat} {vs vs' : List Value} (h : RowBlk t w g vs) (h' : RowBlk t' w g' vs') (ht : t ≠ t') : g ≠ g' := by
  intro e
  subst e
  unfold RowBlk at h h'
  rw [h] at h'
  simp at h'
  exact ht h'.2

/-- an operation has no key of its own -/
def NoKey (op : Value) : Prop := ∀ w : World, (Instr.typeAssert op 141 165 true).run Try.prog w = .ok (.tuple #[.nilIface, .bool false]) w

set_option maxRecDepth 20000 in
set_option maxHeartbeats 1000000 in
theorem key_none (g : Nat) (op : Value) (w : World) (hc : w.cell? ⟨g, 8, none⟩ = some op) (hk : NoKey op) :
    Calls Try.prog 78 #[.pointer (some ⟨g, 0, none⟩)] w fun e w' => e = .returned (.slice none 0 0) ∧ w = w' := by
  unfold NoKey at hk
  go_enter Try.func78, Try.ntmps78
  go_wp2
  go_ret
  exact ⟨rfl, rfl⟩

theorem noKey_refusal (v : Value) : NoKey (.iface 146 v) := fun w => run_typeAssert_lacksB Try.underlying165 (by kernel_rfl) (by kernel_rfl) v 141 w

/-- an operation that responds in its one step -/
structure OneStep (op : Value) (bm bw : Nat) (tick err val : Int) (l l' : List Nat) (c c' : Cn) : Prop where
  nokey : NoKey op
  step : ∃ (tid : TypeId) (v : Value) (fid : FuncId), op = .iface tid v ∧ (∀ w : World, (method 369 tid v "Step").run Try.prog w = .ok (fid, v) w) ∧ (∀ (args : Array Value) (w : World), (callFunc fid args).run Try.prog w = .ok (.enter fid args) w) ∧
    ∀ W : World, MemIs 139 W bm bw l c → Calls Try.prog fid #[v, turnAgg bm tick] W (StepEnd err val bm bw l' c' W)

def invVs (call inv resp steps err val : Int) (lst key op : Value) : List Value := [.int .i64 call, .int .i64 inv, .int .i64 resp, .int .i64 steps, .int .i64 err, .int .u64 val, lst, key, op]

set_option maxRecDepth 100000 in
set_option maxHeartbeats 4000000 in
theorem step_one (g bm bw : Nat) (call inv tick err val : Int) (op : Value) (l l' : List Nat) (c c' : Cn) (w : World) (hO : OneStep op bm bw tick err val l l' c c') (hM : MemIs 139 w bm bw l c)
    (hg : RowBlk 148 w g (invVs call inv 0 0 0 0 (.slice none 0 0) (.slice none 0 0) op)) (ht : 0 ≤ tick ∧ tick ≤ 4294967296) :
    Calls Try.prog 55 #[.pointer (some ⟨g, 0, none⟩), turnAgg bm tick] w fun e w' => e = .returned (.bool true) ∧
      ∃ kb, RowBlk 148 w' g (invVs call inv tick 1 err val (.slice none 0 0) (.slice (some ⟨kb, 0, none⟩) 1 1) op) ∧ RowBlk 3 w' kb [.int .i64 (2 * tick)] ∧ w.heap.size ≤ kb ∧ MemIs 139 w' bm bw l' c' ∧ ButS (fun k => k = g ∨ k = bm ∨ k = bw) w w' := by
  obtain ⟨hnk, tid, v, fid, rfl, hm, hent, hcall⟩ := hO
  have HNK := Lib.hid hnk
  have HCALL := Lib.hid hcall
  have HM := Lib.hid hM
  have HG := Lib.hid hg
  have hglt := hg.lt
  have c8 : w.cell? ⟨g, 8, none⟩ = some (.iface tid v) := hg.cell rfl
  clear hnk hcall hM hg
  unfold turnAgg
  have hm2 := hm
  go_enter Try.func55, Try.ntmps55
  go_wp2_with fail
  have HMa : Hid (MemIs 139 (w.alloc (.cells #[.iface 97 (.pointer (some ⟨bm, 0, none⟩)), .int .i64 tick] 113)) bm bw l c) := Lib.hid (HM.out.alloc _)
  have HGa := Lib.hid (HG.out.alloc (.cells #[.iface 97 (.pointer (some ⟨bm, 0, none⟩)), .int .i64 tick] 113))
  have HTa : Hid (RowBlk 113 (w.alloc (.cells #[.iface 97 (.pointer (some ⟨bm, 0, none⟩)), .int .i64 tick] 113)) w.heap.size [.iface 97 (.pointer (some ⟨bm, 0, none⟩)), .int .i64 tick]) := Lib.hid (RowBlk.new _ _ _)
  have HBa : Hid (ButS (fun k => k = g ∨ k = bm ∨ k = bw) w (w.alloc (.cells #[.iface 97 (.pointer (some ⟨bm, 0, none⟩)), .int .i64 tick] 113))) := Lib.hid ((ButS.refl _ _).alloc _)
  have hsa : (w.alloc (.cells #[.iface 97 (.pointer (some ⟨bm, 0, none⟩)), .int .i64 tick] 113)).heap.size = w.heap.size + 1 := by simp
  have hgm : g ≠ bm := by intro e; have h1 := HG.out; have h2 := HM.out.1; unfold RowBlk at h1; rw [e, h2] at h1; simp at h1
  have hgw : g ≠ bw := by intro e; have h1 := HG.out; have h2 := HM.out.2.1; unfold RowBlk at h1; rw [e, h2] at h1; simp at h1
  have hbml := HM.out.lt1
  have hbwl := HM.out.lt2
  generalize w.alloc (.cells #[.iface 97 (.pointer (some ⟨bm, 0, none⟩)), .int .i64 tick] 113) = wa at HMa HGa HTa HBa hsa ⊢
  have d8 : wa.cell? ⟨g, 8, none⟩ = some (.iface tid v) := HGa.out.cell rfl
  have t0 : wa.cell? ⟨w.heap.size, 0, none⟩ = some (.iface 97 (.pointer (some ⟨bm, 0, none⟩))) := HTa.out.cell rfl
  have t1 : wa.cell? ⟨w.heap.size, 1, none⟩ = some (.int .i64 tick) := HTa.out.cell rfl
  have HSA := Lib.hid hsa
  have n1 : wa.heap.size ≠ g := by have := HGa.out.lt; omega
  have n2 : wa.heap.size ≠ w.heap.size := by omega
  have n3 : g ≠ wa.heap.size := by have := HGa.out.lt; omega
  have n4 : w.heap.size ≠ wa.heap.size := by omega
  clear c8 hsa
  go_region_held3 (fun w' => w'.cell? ⟨g, 8, none⟩ = some (.iface tid v) ∧ w'.cell? ⟨w.heap.size, 0, none⟩ = some (.iface 97 (.pointer (some ⟨bm, 0, none⟩))) ∧ w'.cell? ⟨w.heap.size, 1, none⟩ = some (.int .i64 tick))
    (first | exact ⟨e8, e0, e1⟩ | go_keep)
    (first
      | (refine (HCALL.out _ ((HMa.out.alloc _).drew)).mono ?_
         rintro e w4 ⟨rfl, hM4, hB4⟩
         have hG4 : RowBlk 148 w4 g (invVs call inv 0 0 0 0 (.slice none 0 0) (.slice none 0 0) (.iface tid v)) := RowBlk.same ((HGa.out.alloc _).drew) (hB4.block g (by show _ < (wa.alloc _).heap.size; have := HGa.out.lt; simp; omega) hgm hgw)
         have hT4 : RowBlk 113 w4 w.heap.size [.iface 97 (.pointer (some ⟨bm, 0, none⟩)), .int .i64 tick] := RowBlk.same ((HTa.out.alloc _).drew) (hB4.block w.heap.size (by show _ < (wa.alloc _).heap.size; have := HTa.out.lt; simp; omega) (by omega) (by omega))
         have e8 : w4.cell? ⟨g, 8, none⟩ = some (.iface tid v) := hG4.cell rfl
         have e0 : w4.cell? ⟨w.heap.size, 0, none⟩ = some (.iface 97 (.pointer (some ⟨bm, 0, none⟩))) := hT4.cell rfl
         have e1 : w4.cell? ⟨w.heap.size, 1, none⟩ = some (.int .i64 tick) := hT4.cell rfl
         have hA4 : RowBlk 39 w4 wa.heap.size [.int .i64 0, .int .u64 0, .slice none 0 0] := RowBlk.same (RowBlk.drew (RowBlk.new wa [.int .i64 0, .int .u64 0, .slice none 0 0] 39)) (hB4.block wa.heap.size (by show wa.heap.size < (wa.alloc _).heap.size; simp) (by have := HSA.out; omega) (by have := HSA.out; omega))
         have a0 := hA4.cell (i := 0) rfl
         have a1 := hA4.cell (i := 1) rfl
         have a2 := hA4.cell (i := 2) rfl
         have z0 : w4.frozen? ⟨wa.heap.size, 0, none⟩ = false := hA4.free
         have z1 : w4.frozen? ⟨wa.heap.size, 1, none⟩ = false := hA4.free
         have z2 : w4.frozen? ⟨wa.heap.size, 2, none⟩ = false := hA4.free
         have HA4 := Lib.hid hA4
         clear hA4
         have y1 : w4.heap.size ≠ g := by have := hG4.lt; omega
         have y2 : w4.heap.size ≠ w.heap.size := by have := hT4.lt; omega
         have y3 : g ≠ w4.heap.size := by have := hG4.lt; omega
         have y4 : w.heap.size ≠ w4.heap.size := by have := hT4.lt; omega
         have HM4 := Lib.hid hM4
         have HB4 := Lib.hid hB4
         have HG4 := Lib.hid hG4
         have HT4 := Lib.hid hT4
         clear hM4 hB4 hG4 hT4)
      | (refine (HCALL.out _ (HMa.out.drew)).mono ?_
         rintro e w4 ⟨rfl, hM4, hB4⟩
         have hG4 : RowBlk 148 w4 g (invVs call inv 0 0 0 0 (.slice none 0 0) (.slice none 0 0) (.iface tid v)) := RowBlk.same (HGa.out.drew) (hB4.block g (HGa.out.lt) hgm hgw)
         have hT4 : RowBlk 113 w4 w.heap.size [.iface 97 (.pointer (some ⟨bm, 0, none⟩)), .int .i64 tick] := RowBlk.same (HTa.out.drew) (hB4.block w.heap.size (HTa.out.lt) (by omega) (by omega))
         have e8 : w4.cell? ⟨g, 8, none⟩ = some (.iface tid v) := hG4.cell rfl
         have e0 : w4.cell? ⟨w.heap.size, 0, none⟩ = some (.iface 97 (.pointer (some ⟨bm, 0, none⟩))) := hT4.cell rfl
         have e1 : w4.cell? ⟨w.heap.size, 1, none⟩ = some (.int .i64 tick) := hT4.cell rfl
         have y1 : w4.heap.size ≠ g := by have := hG4.lt; omega
         have y2 : w4.heap.size ≠ w.heap.size := by have := hT4.lt; omega
         have y3 : g ≠ w4.heap.size := by have := hG4.lt; omega
         have y4 : w.heap.size ≠ w4.heap.size := by have := hT4.lt; omega
         have HM4 := Lib.hid hM4
         have HB4 := Lib.hid hB4
         have HG4 := Lib.hid hG4
         have HT4 := Lib.hid hT4
         clear hM4 hB4 hG4 hT4))
  · have H5 : MemIs 139 (w4.alloc (.cells #[.int .i64 err, .int .u64 val, .slice none 0 0] 39)) bm bw l' c' ∧ RowBlk 148 (w4.alloc (.cells #[.int .i64 err, .int .u64 val, .slice none 0 0] 39)) g (invVs call inv 0 0 0 0 (.slice none 0 0) (.slice none 0 0) (.iface tid v)) ∧ RowBlk 113 (w4.alloc (.cells #[.int .i64 err, .int .u64 val, .slice none 0 0] 39)) w.heap.size [.iface 97 (.pointer (some ⟨bm, 0, none⟩)), .int .i64 tick] ∧ RowBlk 39 (w4.alloc (.cells #[.int .i64 err, .int .u64 val, .slice none 0 0] 39)) (w4.heap.size) [.int .i64 err, .int .u64 val, .slice none 0 0] ∧ ButS (fun k => k = g ∨ k = bm ∨ k = bw) w (w4.alloc (.cells #[.int .i64 err, .int .u64 val, .slice none 0 0] 39)) :=
      ⟨HM4.out.alloc _, HG4.out.alloc _, HT4.out.alloc _, RowBlk.new _ _ _, (HBa.out.drew.trans (ButS.of_but HB4.out (.inr (.inl rfl)) (.inr (.inr rfl)))).alloc _⟩
    clear HM4 HB4 HG4 HT4
    generalize w4.alloc (.cells #[.int .i64 err, .int .u64 val, .slice none 0 0] 39) = W5 at H5 ⊢
    generalize w4.heap.size = ga at H5 ⊢
    obtain ⟨HM5, HG5, HT5, HA5, HB5⟩ := H5
    have HM5 := Lib.hid HM5
    have HG5 := Lib.hid HG5
    have HT5 := Lib.hid HT5
    have HB5 := Lib.hid HB5
    have nga : ga ≠ g := row_ne HA5 HG5.out (by decide)
    have ngt : w.heap.size ≠ g := by omega
    have a0 := HA5.cell (i := 0) rfl
    have a1 := HA5.cell (i := 1) rfl
    have a2 := HA5.cell (i := 2) rfl
    have t1' := HT5.out.cell (i := 1) rfl
    have g3 : W5.cell? ⟨g, 3, none⟩ = some (.int .i64 0) := HG5.out.cell rfl
    have g2 : W5.cell? ⟨g, 2, none⟩ = some (.int .i64 0) := HG5.out.cell rfl
    have g4 : W5.cell? ⟨g, 4, none⟩ = some (.int .i64 0) := HG5.out.cell rfl
    have g5 : W5.cell? ⟨g, 5, none⟩ = some (.int .u64 0) := HG5.out.cell rfl
    have g6 : W5.cell? ⟨g, 6, none⟩ = some (.slice none 0 0) := HG5.out.cell rfl
    have fz : ∀ k, W5.frozen? ⟨g, k, none⟩ = false := fun k => HG5.out.free
    have H6 : MemIs 139 (((((W5.setCell ⟨g, 3, none⟩ (.int .i64 1)).setCell ⟨g, 2, none⟩ (.int .i64 tick)).setCell ⟨g, 4, none⟩ (.int .i64 err)).setCell ⟨g, 5, none⟩ (.int .u64 val)).setCell ⟨g, 6, none⟩ (.slice none 0 0)) bm bw l' c' ∧
        RowBlk 148 (((((W5.setCell ⟨g, 3, none⟩ (.int .i64 1)).setCell ⟨g, 2, none⟩ (.int .i64 tick)).setCell ⟨g, 4, none⟩ (.int .i64 err)).setCell ⟨g, 5, none⟩ (.int .u64 val)).setCell ⟨g, 6, none⟩ (.slice none 0 0)) g (invVs call inv tick 1 err val (.slice none 0 0) (.slice none 0 0) (.iface tid v)) ∧
        RowBlk 113 (((((W5.setCell ⟨g, 3, none⟩ (.int .i64 1)).setCell ⟨g, 2, none⟩ (.int .i64 tick)).setCell ⟨g, 4, none⟩ (.int .i64 err)).setCell ⟨g, 5, none⟩ (.int .u64 val)).setCell ⟨g, 6, none⟩ (.slice none 0 0)) w.heap.size [.iface 97 (.pointer (some ⟨bm, 0, none⟩)), .int .i64 tick] ∧
        ButS (fun k => k = g ∨ k = bm ∨ k = bw) w (((((W5.setCell ⟨g, 3, none⟩ (.int .i64 1)).setCell ⟨g, 2, none⟩ (.int .i64 tick)).setCell ⟨g, 4, none⟩ (.int .i64 err)).setCell ⟨g, 5, none⟩ (.int .u64 val)).setCell ⟨g, 6, none⟩ (.slice none 0 0)) :=
      ⟨((((HM5.out.setNew _ _ hgm hgw).setNew _ _ hgm hgw).setNew _ _ hgm hgw).setNew _ _ hgm hgw).setNew _ _ hgm hgw, ((((HG5.out.put 3 _).put 2 _).put 4 _).put 5 _).put 6 _,
       ((((HT5.out.other ngt _).other ngt _).other ngt _).other ngt _).other ngt _, ((((HB5.out.setCell (.inl (.inl rfl)) _).setCell (.inl (.inl rfl)) _).setCell (.inl (.inl rfl)) _).setCell (.inl (.inl rfl)) _).setCell (.inl (.inl rfl)) _⟩
    have H6 := Lib.hid H6
    clear HM5 HG5 HT5 HB5 HA5
    go_wp2_with fail
    generalize ((((W5.setCell ⟨g, 3, none⟩ (.int .i64 1)).setCell ⟨g, 2, none⟩ (.int .i64 tick)).setCell ⟨g, 4, none⟩ (.int .i64 err)).setCell ⟨g, 5, none⟩ (.int .u64 val)).setCell ⟨g, 6, none⟩ (.slice none 0 0) = W6 at H6 ⊢
    obtain ⟨hM6, hG6, hT6, hB6⟩ := H6.out
    refine (key_none g _ W6 (hG6.cell rfl) HNK.out).mono ?_
    rintro e W7 ⟨rfl, rfl⟩
    have k7 : W6.cell? ⟨g, 7, none⟩ = some (.slice none 0 0) := hG6.cell rfl
    have f7 : W6.frozen? ⟨g, 7, none⟩ = false := hG6.free
    have t6 := hT6.cell (i := 1) rfl
    have hgl6 := hG6.lt
    have H7 : Hid (MemIs 139 (((W6.setCell ⟨g, 7, none⟩ (.slice none 0 0)).setCell ⟨g, 7, none⟩ (.slice (some ⟨W6.heap.size, 0, none⟩) 1 1)).alloc (.cells #[.int .i64 (2 * tick)] 3)) bm bw l' c' ∧
        RowBlk 148 (((W6.setCell ⟨g, 7, none⟩ (.slice none 0 0)).setCell ⟨g, 7, none⟩ (.slice (some ⟨W6.heap.size, 0, none⟩) 1 1)).alloc (.cells #[.int .i64 (2 * tick)] 3)) g (invVs call inv tick 1 err val (.slice none 0 0) (.slice (some ⟨W6.heap.size, 0, none⟩) 1 1) (.iface tid v)) ∧
        RowBlk 3 (((W6.setCell ⟨g, 7, none⟩ (.slice none 0 0)).setCell ⟨g, 7, none⟩ (.slice (some ⟨W6.heap.size, 0, none⟩) 1 1)).alloc (.cells #[.int .i64 (2 * tick)] 3)) W6.heap.size [.int .i64 (2 * tick)] ∧
        ButS (fun k => k = g ∨ k = bm ∨ k = bw) w (((W6.setCell ⟨g, 7, none⟩ (.slice none 0 0)).setCell ⟨g, 7, none⟩ (.slice (some ⟨W6.heap.size, 0, none⟩) 1 1)).alloc (.cells #[.int .i64 (2 * tick)] 3))) := Lib.hid
      ⟨((hM6.setNew _ _ hgm hgw).setNew _ _ hgm hgw).alloc _, ((hG6.put 7 _).put 7 _).alloc _, by
          have e : ((W6.setCell ⟨g, 7, none⟩ (.slice none 0 0)).setCell ⟨g, 7, none⟩ (.slice (some ⟨W6.heap.size, 0, none⟩) 1 1)).heap.size = W6.heap.size := by simp [World.setCell]
          have h := RowBlk.new ((W6.setCell ⟨g, 7, none⟩ (.slice none 0 0)).setCell ⟨g, 7, none⟩ (.slice (some ⟨W6.heap.size, 0, none⟩) 1 1)) [.int .i64 (2 * tick)] 3
          rw [e] at h
          exact h, ((hB6.setCell (.inl (.inl rfl)) _).setCell (.inl (.inl rfl)) _).alloc _⟩
    have hsz6 := hB6.size
    clear hM6 hG6 hT6 hB6 H6
    go_wp2
    go_ret
    exact ⟨rfl, _, H7.out.2.1, H7.out.2.2.1, hsz6, H7.out.1, H7.out.2.2.2⟩
  · have H5 : MemIs 139 (((w4.setCell ⟨wa.heap.size, 0, none⟩ (.int .i64 err)).setCell ⟨wa.heap.size, 1, none⟩ (.int .u64 val)).setCell ⟨wa.heap.size, 2, none⟩ (.slice none 0 0)) bm bw l' c' ∧ RowBlk 148 (((w4.setCell ⟨wa.heap.size, 0, none⟩ (.int .i64 err)).setCell ⟨wa.heap.size, 1, none⟩ (.int .u64 val)).setCell ⟨wa.heap.size, 2, none⟩ (.slice none 0 0)) g (invVs call inv 0 0 0 0 (.slice none 0 0) (.slice none 0 0) (.iface tid v)) ∧ RowBlk 113 (((w4.setCell ⟨wa.heap.size, 0, none⟩ (.int .i64 err)).setCell ⟨wa.heap.size, 1, none⟩ (.int .u64 val)).setCell ⟨wa.heap.size, 2, none⟩ (.slice none 0 0)) w.heap.size [.iface 97 (.pointer (some ⟨bm, 0, none⟩)), .int .i64 tick] ∧ RowBlk 39 (((w4.setCell ⟨wa.heap.size, 0, none⟩ (.int .i64 err)).setCell ⟨wa.heap.size, 1, none⟩ (.int .u64 val)).setCell ⟨wa.heap.size, 2, none⟩ (.slice none 0 0)) (wa.heap.size) [.int .i64 err, .int .u64 val, .slice none 0 0] ∧ ButS (fun k => k = g ∨ k = bm ∨ k = bw) w (((w4.setCell ⟨wa.heap.size, 0, none⟩ (.int .i64 err)).setCell ⟨wa.heap.size, 1, none⟩ (.int .u64 val)).setCell ⟨wa.heap.size, 2, none⟩ (.slice none 0 0)) :=
      ⟨((HM4.out.setNew _ _ (by have := HSA.out; omega) (by have := HSA.out; omega)).setNew _ _ (by have := HSA.out; omega) (by have := HSA.out; omega)).setNew _ _ (by have := HSA.out; omega) (by have := HSA.out; omega),
       ((HG4.out.other n3 _).other n3 _).other n3 _, ((HT4.out.other n4 _).other n4 _).other n4 _, ((HA4.out.put 0 _).put 1 _).put 2 _,
       ((((HBa.out.alloc _).drew.trans (ButS.of_but HB4.out (.inr (.inl rfl)) (.inr (.inr rfl)))).setCell (.inr (by show w.heap.size ≤ wa.heap.size; have := HSA.out; omega)) _).setCell (.inr (by show w.heap.size ≤ wa.heap.size; have := HSA.out; omega)) _).setCell (.inr (by show w.heap.size ≤ wa.heap.size; have := HSA.out; omega)) _⟩
    clear HA4 HM4 HB4 HG4 HT4
    generalize ((w4.setCell ⟨wa.heap.size, 0, none⟩ (.int .i64 err)).setCell ⟨wa.heap.size, 1, none⟩ (.int .u64 val)).setCell ⟨wa.heap.size, 2, none⟩ (.slice none 0 0) = W5 at H5 ⊢
    generalize wa.heap.size = ga at H5 ⊢
    obtain ⟨HM5, HG5, HT5, HA5, HB5⟩ := H5
    have HM5 := Lib.hid HM5
    have HG5 := Lib.hid HG5
    have HT5 := Lib.hid HT5
    have HB5 := Lib.hid HB5
    have nga : ga ≠ g := row_ne HA5 HG5.out (by decide)
    have ngt : w.heap.size ≠ g := by omega
    have a0 := HA5.cell (i := 0) rfl
    have a1 := HA5.cell (i := 1) rfl
    have a2 := HA5.cell (i := 2) rfl
    have t1' := HT5.out.cell (i := 1) rfl
    have g3 : W5.cell? ⟨g, 3, none⟩ = some (.int .i64 0) := HG5.out.cell rfl
    have g2 : W5.cell? ⟨g, 2, none⟩ = some (.int .i64 0) := HG5.out.cell rfl
    have g4 : W5.cell? ⟨g, 4, none⟩ = some (.int .i64 0) := HG5.out.cell rfl
    have g5 : W5.cell? ⟨g, 5, none⟩ = some (.int .u64 0) := HG5.out.cell rfl
    have g6 : W5.cell? ⟨g, 6, none⟩ = some (.slice none 0 0) := HG5.out.cell rfl
    have fz : ∀ k, W5.frozen? ⟨g, k, none⟩ = false := fun k => HG5.out.free
    have H6 : MemIs 139 (((((W5.setCell ⟨g, 3, none⟩ (.int .i64 1)).setCell ⟨g, 2, none⟩ (.int .i64 tick)).setCell ⟨g, 4, none⟩ (.int .i64 err)).setCell ⟨g, 5, none⟩ (.int .u64 val)).setCell ⟨g, 6, none⟩ (.slice none 0 0)) bm bw l' c' ∧
        RowBlk 148 (((((W5.setCell ⟨g, 3, none⟩ (.int .i64 1)).setCell ⟨g, 2, none⟩ (.int .i64 tick)).setCell ⟨g, 4, none⟩ (.int .i64 err)).setCell ⟨g, 5, none⟩ (.int .u64 val)).setCell ⟨g, 6, none⟩ (.slice none 0 0)) g (invVs call inv tick 1 err val (.slice none 0 0) (.slice none 0 0) (.iface tid v)) ∧
        RowBlk 113 (((((W5.setCell ⟨g, 3, none⟩ (.int .i64 1)).setCell ⟨g, 2, none⟩ (.int .i64 tick)).setCell ⟨g, 4, none⟩ (.int .i64 err)).setCell ⟨g, 5, none⟩ (.int .u64 val)).setCell ⟨g, 6, none⟩ (.slice none 0 0)) w.heap.size [.iface 97 (.pointer (some ⟨bm, 0, none⟩)), .int .i64 tick] ∧
        ButS (fun k => k = g ∨ k = bm ∨ k = bw) w (((((W5.setCell ⟨g, 3, none⟩ (.int .i64 1)).setCell ⟨g, 2, none⟩ (.int .i64 tick)).setCell ⟨g, 4, none⟩ (.int .i64 err)).setCell ⟨g, 5, none⟩ (.int .u64 val)).setCell ⟨g, 6, none⟩ (.slice none 0 0)) :=
      ⟨((((HM5.out.setNew _ _ hgm hgw).setNew _ _ hgm hgw).setNew _ _ hgm hgw).setNew _ _ hgm hgw).setNew _ _ hgm hgw, ((((HG5.out.put 3 _).put 2 _).put 4 _).put 5 _).put 6 _,
       ((((HT5.out.other ngt _).other ngt _).other ngt _).other ngt _).other ngt _, ((((HB5.out.setCell (.inl (.inl rfl)) _).setCell (.inl (.inl rfl)) _).setCell (.inl (.inl rfl)) _).setCell (.inl (.inl rfl)) _).setCell (.inl (.inl rfl)) _⟩
    have H6 := Lib.hid H6
    clear HM5 HG5 HT5 HB5 HA5
    go_wp2_with fail
    generalize ((((W5.setCell ⟨g, 3, none⟩ (.int .i64 1)).setCell ⟨g, 2, none⟩ (.int .i64 tick)).setCell ⟨g, 4, none⟩ (.int .i64 err)).setCell ⟨g, 5, none⟩ (.int .u64 val)).setCell ⟨g, 6, none⟩ (.slice none 0 0) = W6 at H6 ⊢
    obtain ⟨hM6, hG6, hT6, hB6⟩ := H6.out
    refine (key_none g _ W6 (hG6.cell rfl) HNK.out).mono ?_
    rintro e W7 ⟨rfl, rfl⟩
    have k7 : W6.cell? ⟨g, 7, none⟩ = some (.slice none 0 0) := hG6.cell rfl
    have f7 : W6.frozen? ⟨g, 7, none⟩ = false := hG6.free
    have t6 := hT6.cell (i := 1) rfl
    have hgl6 := hG6.lt
    have H7 : Hid (MemIs 139 (((W6.setCell ⟨g, 7, none⟩ (.slice none 0 0)).setCell ⟨g, 7, none⟩ (.slice (some ⟨W6.heap.size, 0, none⟩) 1 1)).alloc (.cells #[.int .i64 (2 * tick)] 3)) bm bw l' c' ∧
        RowBlk 148 (((W6.setCell ⟨g, 7, none⟩ (.slice none 0 0)).setCell ⟨g, 7, none⟩ (.slice (some ⟨W6.heap.size, 0, none⟩) 1 1)).alloc (.cells #[.int .i64 (2 * tick)] 3)) g (invVs call inv tick 1 err val (.slice none 0 0) (.slice (some ⟨W6.heap.size, 0, none⟩) 1 1) (.iface tid v)) ∧
        RowBlk 3 (((W6.setCell ⟨g, 7, none⟩ (.slice none 0 0)).setCell ⟨g, 7, none⟩ (.slice (some ⟨W6.heap.size, 0, none⟩) 1 1)).alloc (.cells #[.int .i64 (2 * tick)] 3)) W6.heap.size [.int .i64 (2 * tick)] ∧
        ButS (fun k => k = g ∨ k = bm ∨ k = bw) w (((W6.setCell ⟨g, 7, none⟩ (.slice none 0 0)).setCell ⟨g, 7, none⟩ (.slice (some ⟨W6.heap.size, 0, none⟩) 1 1)).alloc (.cells #[.int .i64 (2 * tick)] 3))) := Lib.hid
      ⟨((hM6.setNew _ _ hgm hgw).setNew _ _ hgm hgw).alloc _, ((hG6.put 7 _).put 7 _).alloc _, by
          have e : ((W6.setCell ⟨g, 7, none⟩ (.slice none 0 0)).setCell ⟨g, 7, none⟩ (.slice (some ⟨W6.heap.size, 0, none⟩) 1 1)).heap.size = W6.heap.size := by simp [World.setCell]
          have h := RowBlk.new ((W6.setCell ⟨g, 7, none⟩ (.slice none 0 0)).setCell ⟨g, 7, none⟩ (.slice (some ⟨W6.heap.size, 0, none⟩) 1 1)) [.int .i64 (2 * tick)] 3
          rw [e] at h
          exact h, ((hB6.setCell (.inl (.inl rfl)) _).setCell (.inl (.inl rfl)) _).alloc _⟩
    have hsz6 := hB6.size
    clear hM6 hG6 hT6 hB6 H6
    go_wp2
    go_ret
    exact ⟨rfl, _, H7.out.2.1, H7.out.2.2.1, hsz6, H7.out.1, H7.out.2.2.2⟩
end
section
open Go.ChangeShapes Go.WideShapes Go.ChangeAt Go.RowKit

theorem append_freshk {P : Program} {w : World} {ops : Array Oper} {rest : List Oper} {o : Oper} {a : Act} {Q : Exit → Act → World → Prop} (hgd : o.guard = none) (s x : Operand) (t : TypeId)
    (ho : o.op = .call { callee := .builtin .append, args := #[s, x], argTypes := #[t, t] })
    (e : TypeId) (sz : Nat) (i : TypeInfo) (z : Value) (bytes : Nat) (ht : P.underlying t = some (.slice e)) (hi : P.info? e = some i) (hz : i.zero = some z)
    (hsize : i.size = sz) (hsz : 0 < sz) (hby : i.bytes = bytes) (hzs : z.cells.size = sz) (hbs : bytes ≤ 4096)
    (g0 : Nat) (hg0 : g0 = w.heap.size) (hs : a.eval s = .slice (some ⟨g0, 0, none⟩) 0 0) (ao : Option Addr) (b off cap n : Nat) (us : List Value) (hx : a.eval x = .slice ao n cap) (hn : us.length = n * sz)
    (ha : 0 < n → ao = some ⟨b, off, none⟩) (hc : ∀ (j : Nat) (u : Value), us[j]? = some u → w.cell? ⟨b, off + j, none⟩ = some u) (hcap : ao = none → cap = 0) (h1 : us.all (fun u => u.oneCell') = true) (hle : n ≤ 4294967296)
    (h : ∀ g cap' cur w', w'.heap[g]? = some (.cells cur e (0, 0)) → (∀ (j : Nat) (u : Value), us[j]? = some u → cur[j]? = some u) → w.heap.size ≤ g → Below w.heap.size w w' →
      wpList P ops Q rest (a.put o.dst (.slice (some ⟨g, 0, none⟩) n cap')) w') : wpList P ops Q (o :: rest) a (w.alloc (.cells #[] e)) := by
  subst hg0
  have hmade : (w.alloc (.cells #[] e)).ownsRow w.heap.size e sz (.slice (some ⟨w.heap.size, 0, none⟩) 0 0) 0 [] :=
    World.ownsRow_made (base := w.heap.size) (e := e) (size := sz) w #[] 0 (Nat.le_refl _) (by unfold maxLen; omega) (by simp)
  cases ao with
  | none =>
    have hn0 : n = 0 := by
      cases n with
      | zero => rfl
      | succ n => exact absurd (ha (by omega)) (by simp)
    subst hn0
    obtain rfl : cap = 0 := hcap rfl
    refine wpList_append_own_none hgd s x t ho w.heap.size e i sz ht hi _ 0 [] hs hmade hx ?_
    exact h w.heap.size 0 #[] _ (heap_alloc_new w _) (fun j u hu => by
      have h0 : us = [] := List.eq_nil_of_length_eq_zero (by rw [hn]; simp)
      rw [h0] at hu; simp at hu) (Nat.le_refl _) ((Below.refl _ _).alloc (Nat.le_refl _) _)
  | some ad =>
    refine wpList_append_own _ hgd s x t ho w.heap.size e i z sz bytes ht hi hz hsize hby hzs hsz _ 0 [] hs hmade ad n cap us hx hn ?_ (by simpa using h1) (by unfold maxLen; omega) ?_ (by simp) ?_
    · intro j u hj
      have hl : 0 < n := by
        have := (List.getElem?_eq_some_iff.1 hj).1
        rw [hn] at this
        rcases Nat.eq_zero_or_pos n with h0 | h0
        · rw [h0] at this; omega
        · exact h0
      obtain rfl := Option.some.inj (ha hl)
      have hcj := hc j u hj
      have hlt := World.block_lt_of_cell? w ⟨b, off + j, none⟩ hcj
      rw [addr_add _ j b off rfl, World.cell?_alloc_past _ _ _ hlt]
      exact hcj
    · have : (0 + n) * bytes ≤ 4294967296 * 4096 := Nat.mul_le_mul (by omega) hbs
      omega
    · intro v' w' hown hg hnn
      have hvn : v' ≠ .slice none 0 0 := fun h => by
        have h2 := (hnn.1 h).1
        cases h2
      have hbl : Below w.heap.size w w' := ((Below.refl _ _).alloc (Nat.le_refl _) _).grown hg (by simp) (fun k hk => by simp [Value.ownBlock] at hk; omega)
      obtain ⟨_, ⟨rfl, _⟩ | ⟨g, cap', cur, rfl, hg1, hb, _, _, _, h4⟩⟩ := hown
      · exact absurd rfl hvn
      · have := h g cap' cur w' hb (fun j u hj => ?_) hg1 hbl
        · simpa using this
        · rw [List.nil_append] at h4
          rw [← h4, List.getElem?_take] at hj
          split at hj
          · simpa using hj
          · cases hj

theorem infoC : (Try.prog.info? 43).map (fun i => (i.zero.map (fun z => z.cells.size), i.size, i.bytes)) = some (some 6, 6, 48) := by kernel_rfl

set_option maxHeartbeats 400000 in
theorem clone_u64_nil (w : World) : Calls Try.prog 79 #[.slice none 0 0] w fun e w' => e = .returned (.slice none 0 0) ∧ w = w' := by
  have qT : ∀ (w : World) (a : Option Addr) (n c n' c' : Nat), (binOp .eql 28 (.slice a n c) (.slice none n' c')).run Try.prog w = .ok (.bool a.isNone) w := fun w a n c n' c' => Lib.run_eql_slice_nil w _ _ a n c n' c' Try.underlying28
  go_enter Try.func79, Try.ntmps79
  go_wp2
  go_ret
  exact ⟨rfl, rfl⟩

set_option maxHeartbeats 400000 in
/-- a copy of one number -/
theorem clone_int_one (b c : Nat) (x : Int) (w : World) (hx : w.cell? ⟨b, 0, none⟩ = some (.int .i64 x)) :
    Calls Try.prog 80 #[.slice (some ⟨b, 0, none⟩) 1 c] w fun e w' => ∃ (g cap' : Nat) (cur : Array Value), e = .returned (.slice (some ⟨g, 0, none⟩) 1 cap') ∧ w'.heap[g]? = some (.cells cur 3 (0, 0)) ∧ cur[0]? = some (.int .i64 x) ∧ w.heap.size ≤ g ∧ Below w.heap.size w w' := by
  have qT : ∀ (w : World) (a : Option Addr) (n c n' c' : Nat), (binOp .eql 24 (.slice a n c) (.slice none n' c')).run Try.prog w = .ok (.bool a.isNone) w := fun w a n c n' c' => Lib.run_eql_slice_nil w _ _ a n c n' c' Try.underlying24
  obtain ⟨iI, ia, ib, ic, id⟩ := info_parts infoIu
  have HX := Lib.hid hx
  clear hx
  go_enter Try.func80, Try.ntmps80
  go_wp2_with (at_builtin; refine append_fresh rfl _ _ 24 rfl 3 iI (.int .i64 0) 8 Try.underlying24 ia ib ic id rfl (by decide) w.heap.size rfl rfl (some ⟨b, 0, none⟩) b 0 c 1 [.int .i64 x] rfl rfl (fun _ => rfl) (fun j u hj => by
    match j, hj with
    | 0, hj => cases hj; exact HX.out) (fun h => by cases h) rfl (by omega) ?_)
  intro g cap' cur w1 hb hcur hg hbl
  have HC := Lib.hid (hcur 0 _ rfl)
  have HBB := Lib.hid hb
  have HBL := Lib.hid hbl
  clear hb hcur hbl
  go_wp2
  go_ret
  exact ⟨g, cap', cur, rfl, HBB.out, HC.out, hg, HBL.out⟩

/-- calls as cells -/
def callVs (l : List CallV) : List Value := l.flatMap fun x => [.int .i64 x.t, .int .i64 x.o, .int .i64 x.k, .int .u64 (x.a : Int), .int .u64 (x.b : Int), .int .u64 (x.c : Int)]
theorem callVs_len (l : List CallV) : (callVs l).length = l.length * 6 := by
  unfold callVs
  induction l with
  | nil => rfl
  | cons x l ih => rw [List.flatMap_cons, List.length_append, ih]; simp; omega
theorem callVs_get : ∀ (l : List CallV) (i k : Nat) (x : CallV), l[i]? = some x → k < 6 → (callVs l)[i * 6 + k]? = [.int .i64 x.t, .int .i64 x.o, .int .i64 x.k, .int .u64 (x.a : Int), .int .u64 (x.b : Int), .int .u64 (x.c : Int)][k]?
  | [], i, k, x, h, _ => by simp at h
  | y :: l, 0, k, x, h, hk => by
    simp at h; subst h
    unfold callVs
    rw [List.flatMap_cons, Nat.zero_mul, Nat.zero_add, List.getElem?_append_left (by simpa using hk)]
  | y :: l, i + 1, k, x, h, hk => by
    have h' : l[i]? = some x := by simpa using h
    have ih := callVs_get l i k x h' hk
    unfold callVs at ih ⊢
    rw [List.flatMap_cons, List.getElem?_append_right (by simp; omega)]
    have e : (i + 1) * 6 + k - [Value.int .i64 y.t, .int .i64 y.o, .int .i64 y.k, .int .u64 (y.a : Int), .int .u64 (y.b : Int), .int .u64 (y.c : Int)].length = i * 6 + k := by simp; omega
    rw [e, ih]

/-- what a copy of calls is -/
def CloneC (cs : List CallV) (w : World) (e : Ending) (w' : World) : Prop :=
  ∃ ao g cap, e = .returned (.slice ao cs.length cap) ∧ (0 < cs.length → ao = some ⟨g, 0, none⟩ ∧ w.heap.size ≤ g ∧ g < w'.heap.size) ∧ CallsAt w' g 0 cs ∧ Below w.heap.size w w'

theorem calls_one (l : List CallV) : (callVs l).all (fun u => u.oneCell') = true := by
  rw [List.all_eq_true]
  intro u hu
  unfold callVs at hu
  obtain ⟨x, _, hx⟩ := List.mem_flatMap.1 hu
  simp at hx
  rcases hx with rfl | rfl | rfl | rfl | rfl | rfl <;> rfl
theorem calls_of_cells {w w' : World} {b o g : Nat} {cs : List CallV} {cur : Array Value} {t : TypeId} {fr : Nat × Nat} (hC : CallsAt w b o cs) (hb : w'.heap[g]? = some (.cells cur t fr)) (hcur : ∀ (j : Nat) (u : Value), (callVs cs)[j]? = some u → cur[j]? = some u) : CallsAt w' g 0 cs := by
  intro i x hx
  have e : ∀ k, k < 6 → ∀ u, [Value.int .i64 x.t, .int .i64 x.o, .int .i64 x.k, .int .u64 (x.a : Int), .int .u64 (x.b : Int), .int .u64 (x.c : Int)][k]? = some u → w'.cell? ⟨g, 0 + i * 6 + k, none⟩ = some u := fun k hk u hu =>
    cell_of_heap hb (by rw [Nat.zero_add]; exact hcur _ _ (by rw [callVs_get cs i k x hx hk]; exact hu))
  exact ⟨e 0 (by omega) _ rfl, e 1 (by omega) _ rfl, e 2 (by omega) _ rfl, e 3 (by omega) _ rfl, e 4 (by omega) _ rfl, e 5 (by omega) _ rfl, (hC i x hx).2.2.2.2.2.2⟩
theorem calls_cells {w : World} {b o : Nat} {cs : List CallV} (hC : CallsAt w b o cs) : ∀ (j : Nat) (u : Value), (callVs cs)[j]? = some u → w.cell? ⟨b, o + j, none⟩ = some u := by
  intro j u hu
  have hj := (List.getElem?_eq_some_iff.1 hu).1
  rw [callVs_len] at hj
  obtain ⟨x, hx⟩ : ∃ x, cs[j / 6]? = some x := ⟨cs[j / 6]'(by omega), List.getElem?_eq_getElem _⟩
  obtain ⟨c0, c1, c2, c3, c4, c5, _⟩ := hC (j / 6) x hx
  have h6 : j % 6 < 6 := Nat.mod_lt _ (by omega)
  have hg := callVs_get cs (j / 6) (j % 6) x hx h6
  have ej : j / 6 * 6 + j % 6 = j := by omega
  rw [ej, hu] at hg
  have e2 : o + j = o + j / 6 * 6 + j % 6 := by omega
  rw [e2]
  generalize j % 6 = k at hg h6
  match k, h6 with
  | 0, _ => simp at hg; rw [hg]; exact c0
  | 1, _ => simp at hg; rw [hg]; exact c1
  | 2, _ => simp at hg; rw [hg]; exact c2
  | 3, _ => simp at hg; rw [hg]; exact c3
  | 4, _ => simp at hg; rw [hg]; exact c4
  | 5, _ => simp at hg; rw [hg]; exact c5

set_option maxHeartbeats 400000 in
theorem clone_calls (ao : Option Addr) (b o cap : Nat) (cs : List CallV) (w : World) (hl : cs.length ≤ 4294967296) (ha : 0 < cs.length → ao = some ⟨b, o, none⟩) (hc : CallsAt w b o cs) (hn : ao = none → cap = 0) :
    Calls Try.prog 52 #[.slice ao cs.length cap] w (CloneC cs w) := by
  have qT : ∀ (w : World) (a : Option Addr) (n c n' c' : Nat), (binOp .eql 23 (.slice a n c) (.slice none n' c')).run Try.prog w = .ok (.bool a.isNone) w := fun w a n c n' c' => Lib.run_eql_slice_nil w _ _ a n c n' c' Try.underlying23
  cases ao with
  | none =>
    have h0 : cs = [] := by
      cases cs with
      | nil => rfl
      | cons x l => exact absurd (ha (by simp)) (by simp)
    subst h0
    clear ha hc hn
    go_enter Try.func52, Try.ntmps52
    go_wp2
    go_ret
    exact ⟨none, 0, 0, rfl, fun h => absurd h (by simp), fun i x h => by simp at h, Below.refl _ _⟩
  | some ad =>
    obtain ⟨i0, hi, h1⟩ := Option.map_eq_some_iff.1 infoC
    simp only [Prod.mk.injEq] at h1
    obtain ⟨hz, hsz, hby⟩ := h1
    obtain ⟨z, hz0, hzs⟩ := Option.map_eq_some_iff.1 hz
    have HA := Lib.hid ha
    have HC := Lib.hid hc
    have HS := Lib.hid (calls_cells hc)
    have HONE := Lib.hid (calls_one cs)
    have HLEN := Lib.hid (callVs_len cs)
    clear ha hc hn
    go_enter Try.func52, Try.ntmps52
    go_wp2_with (at_builtin; refine append_freshk rfl _ _ 23 rfl 43 6 i0 z 48 Try.underlying23 hi hz0 hsz (by decide) hby hzs (by decide) w.heap.size rfl rfl (some ad) b o cap cs.length (callVs cs) rfl HLEN.out HA.out HS.out (fun h => by cases h) HONE.out hl ?_)
    intro g cap' cur w1 hb hcur hg hbl
    have HC1 : Hid (CallsAt w1 g 0 cs) := Lib.hid (calls_of_cells HC.out hb hcur)
    have hlt := lt_of_heap hb
    have HBL := Lib.hid hbl
    clear hb hcur hbl
    go_wp2
    go_ret
    exact ⟨_, g, cap', rfl, fun _ => ⟨rfl, hg, hlt⟩, HC1.out, HBL.out⟩
end
end Go.Proofs.Ytpoebpnmbogmnaa
