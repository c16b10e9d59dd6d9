/- Frames; walks of loom: key, step. -/
import Derived.Test.YtglpalomhhhmhaaY1
import Derived.Deep.RegionHeld3
import Derived.Stop.Asserts
namespace Go.Proofs.Ytglpalomhhhmhaa
open Go.RowKit

/-- all blocks that there were, but those of S, are as they were -/
structure ButS (S : Nat → Prop) (w w' : World) : Prop where
  os : w'.os = w.os
  tape : w'.tape = w.tape
  output : w'.output = w.output
  size : w.heap.size ≤ w'.heap.size
  block : ∀ k, k < w.heap.size → ¬ S k → w'.heap[k]? = w.heap[k]?
section
variable {S : Nat → Prop} {a b w : World}
theorem ButS.refl (S : Nat → Prop) (w : World) : ButS S w w := ⟨rfl, rfl, rfl, Nat.le_refl _, fun _ _ _ => rfl⟩
theorem ButS.trans {c : World} (h : ButS S a b) (k : ButS S b c) : ButS S a c :=
  ⟨k.os.trans h.os, k.tape.trans h.tape, k.output.trans h.output, Nat.le_trans h.size k.size, fun i hi h1 => (k.block i (Nat.lt_of_lt_of_le hi h.size) h1).trans (h.block i hi h1)⟩
theorem ButS.alloc (h : ButS S a w) (o : Obj) : ButS S a (w.alloc o) :=
  ⟨h.os, h.tape, h.output, Nat.le_trans h.size (by simp), fun i hi h1 => (Below.heap_alloc w o i (Nat.lt_of_lt_of_le hi h.size)).trans (h.block i hi h1)⟩
theorem ButS.setCell (h : ButS S a w) {x : Addr} (hx : S x.block ∨ a.heap.size ≤ x.block) (v : Value) : ButS S a (w.setCell x v) :=
  ⟨h.os, h.tape, h.output, by simpa [World.setCell] using h.size, fun i hi h1 => (Below.heap_setCell w x v i (fun e => hx.elim (fun hx => h1 (e ▸ hx)) (fun hx => by omega))).trans (h.block i hi h1)⟩
theorem ButS.drewN (h : ButS S a w) (n : Nat) : ButS S a (w.drewN n) := ⟨h.os, h.tape, h.output, h.size, h.block⟩
theorem ButS.drew (h : ButS S a w) : ButS S a w.drew := ⟨h.os, h.tape, h.output, h.size, h.block⟩
theorem ButS.below {B : Nat} (h : ButS S a w) (hS : ∀ k, S k → B ≤ k) (hB : B ≤ a.heap.size) : Below B a w :=
  ⟨h.os, h.tape, h.output, h.size, fun k hk => h.block k (by omega) (fun hs => by have := hS k hs; omega)⟩
theorem ButS.of_but {p q : Nat} (h : But p q a w) (hp : S p) (hq : S q) : ButS S a w :=
  ⟨h.os, h.tape, h.output, h.size, fun k hk hs => h.block k hk (fun e => hs (e ▸ hp)) (fun e => hs (e ▸ hq))⟩
theorem ButS.of_below (h : Below a.heap.size a w) : ButS S a w := ⟨h.os, h.tape, h.output, h.size, fun k hk _ => h.block k hk⟩
theorem ButS.of_grown {row : Option Nat} (h : a.grownBy w row) (hr : ∀ k, row = some k → S k) : ButS S a w :=
  ⟨h.os, h.tape, h.output, h.size, fun k hk hs => h.block k hk (fun e => hs (hr k e.symm))⟩
theorem ButS.mono {S' : Nat → Prop} (h : ButS S a w) (hS : ∀ k, k < a.heap.size → S k → S' k) : ButS S' a w := ⟨h.os, h.tape, h.output, h.size, fun k hk hs => h.block k hk (fun e => hs (hS k hk e))⟩
theorem ButS.row {t : TypeId} {g : Nat} {vs : List Value} (h : ButS S a w) (hr : RowBlk t a g vs) (hg : ¬ S g) : RowBlk t w g vs := hr.same (h.block g hr.lt hg)
end
theorem row_ne {t t' : TypeId} {w : World} {g g' : Nat} {vs vs' : List Value} (h : RowBlk t w g vs) (h' : RowBlk t' w g' vs') (ht : t ≠ t') : g ≠ g' := by
  intro e
  subst e
  unfold RowBlk at h h'
  rw [h] at h'
  simp at h'
  exact ht h'.2

/-- an operation has no key of its own -/
def NoKey (op : Value) : Prop := ∀ w : World, (Instr.typeAssert op 110 126 true).run Try.prog w = .ok (.tuple #[.nilIface, .bool false]) w

set_option maxRecDepth 20000 in
set_option maxHeartbeats 1000000 in
theorem key_none (g : Nat) (op : Value) (w : World) (hc : w.cell? ⟨g, 8, none⟩ = some op) (hk : NoKey op) :
    Calls Try.prog 39 #[.pointer (some ⟨g, 0, none⟩)] w fun e w' => e = .returned (.slice none 0 0) ∧ w = w' := by
  unfold NoKey at hk
  go_enter Try.func39, Try.ntmps39
  go_wp2
  go_ret
  exact ⟨rfl, rfl⟩

theorem noKey_refusal (v : Value) : NoKey (.iface 115 v) := fun w => run_typeAssert_lacksB Try.underlying126 (by kernel_rfl) (by kernel_rfl) v 110 w

/-- an operation that responds in its one step -/
structure OneStep (op : Value) (bm bw : Nat) (tick err val : Int) (l l' : List Nat) (c c' : Cn) : Prop where
  nokey : NoKey op
  step : ∃ (tid : TypeId) (v : Value) (fid : FuncId), op = .iface tid v ∧ (∀ w : World, (method 276 tid v "Step").run Try.prog w = .ok (fid, v) w) ∧ (∀ (args : Array Value) (w : World), (callFunc fid args).run Try.prog w = .ok (.enter fid args) w) ∧
    ∀ W : World, MemIs 108 W bm bw l c → Calls Try.prog fid #[v, turnAgg bm tick] W (StepEnd err val bm bw l' c' W)

def invVs (call inv resp steps err val : Int) (lst key op : Value) : List Value := [.int .i64 call, .int .i64 inv, .int .i64 resp, .int .i64 steps, .int .i64 err, .int .u64 val, lst, key, op]

set_option maxRecDepth 100000 in
set_option maxHeartbeats 4000000 in
theorem step_one (g bm bw : Nat) (call inv tick err val : Int) (op : Value) (l l' : List Nat) (c c' : Cn) (w : World) (hO : OneStep op bm bw tick err val l l' c c') (hM : MemIs 108 w bm bw l c)
    (hg : RowBlk 117 w g (invVs call inv 0 0 0 0 (.slice none 0 0) (.slice none 0 0) op)) (ht : 0 ≤ tick ∧ tick ≤ 4294967296) :
    Calls Try.prog 29 #[.pointer (some ⟨g, 0, none⟩), turnAgg bm tick] w fun e w' => e = .returned (.bool true) ∧
      ∃ kb, RowBlk 117 w' g (invVs call inv tick 1 err val (.slice none 0 0) (.slice (some ⟨kb, 0, none⟩) 1 1) op) ∧ RowBlk 3 w' kb [.int .i64 (2 * tick)] ∧ w.heap.size ≤ kb ∧ MemIs 108 w' bm bw l' c' ∧ ButS (fun k => k = g ∨ k = bm ∨ k = bw) w w' := by
  obtain ⟨hnk, tid, v, fid, rfl, hm, hent, hcall⟩ := hO
  have HNK := Lib.hid hnk
  have HCALL := Lib.hid hcall
  have HM := Lib.hid hM
  have HG := Lib.hid hg
  have hglt := hg.lt
  have c8 : w.cell? ⟨g, 8, none⟩ = some (.iface tid v) := hg.cell rfl
  clear hnk hcall hM hg
  unfold turnAgg
  have hm2 := hm
  go_enter Try.func29, Try.ntmps29
  go_wp2_with fail
  have HMa : Hid (MemIs 108 (w.alloc (.cells #[.iface 71 (.pointer (some ⟨bm, 0, none⟩)), .int .i64 tick] 87)) bm bw l c) := Lib.hid (HM.out.alloc _)
  have HGa := Lib.hid (HG.out.alloc (.cells #[.iface 71 (.pointer (some ⟨bm, 0, none⟩)), .int .i64 tick] 87))
  have HTa : Hid (RowBlk 87 (w.alloc (.cells #[.iface 71 (.pointer (some ⟨bm, 0, none⟩)), .int .i64 tick] 87)) w.heap.size [.iface 71 (.pointer (some ⟨bm, 0, none⟩)), .int .i64 tick]) := Lib.hid (RowBlk.new _ _ _)
  have HBa : Hid (ButS (fun k => k = g ∨ k = bm ∨ k = bw) w (w.alloc (.cells #[.iface 71 (.pointer (some ⟨bm, 0, none⟩)), .int .i64 tick] 87))) := Lib.hid ((ButS.refl _ _).alloc _)
  have hsa : (w.alloc (.cells #[.iface 71 (.pointer (some ⟨bm, 0, none⟩)), .int .i64 tick] 87)).heap.size = w.heap.size + 1 := by simp
  have hgm : g ≠ bm := by intro e; have h1 := HG.out; have h2 := HM.out.1; unfold RowBlk at h1; rw [e, h2] at h1; simp at h1
  have hgw : g ≠ bw := by intro e; have h1 := HG.out; have h2 := HM.out.2.1; unfold RowBlk at h1; rw [e, h2] at h1; simp at h1
  have hbml := HM.out.lt1
  have hbwl := HM.out.lt2
  generalize w.alloc (.cells #[.iface 71 (.pointer (some ⟨bm, 0, none⟩)), .int .i64 tick] 87) = wa at HMa HGa HTa HBa hsa ⊢
  have d8 : wa.cell? ⟨g, 8, none⟩ = some (.iface tid v) := HGa.out.cell rfl
  have t0 : wa.cell? ⟨w.heap.size, 0, none⟩ = some (.iface 71 (.pointer (some ⟨bm, 0, none⟩))) := HTa.out.cell rfl
  have t1 : wa.cell? ⟨w.heap.size, 1, none⟩ = some (.int .i64 tick) := HTa.out.cell rfl
  have HSA := Lib.hid hsa
  have n1 : wa.heap.size ≠ g := by have := HGa.out.lt; omega
  have n2 : wa.heap.size ≠ w.heap.size := by omega
  have n3 : g ≠ wa.heap.size := by have := HGa.out.lt; omega
  have n4 : w.heap.size ≠ wa.heap.size := by omega
  clear c8 hsa
  go_region_held3 (fun w' => w'.cell? ⟨g, 8, none⟩ = some (.iface tid v) ∧ w'.cell? ⟨w.heap.size, 0, none⟩ = some (.iface 71 (.pointer (some ⟨bm, 0, none⟩))) ∧ w'.cell? ⟨w.heap.size, 1, none⟩ = some (.int .i64 tick))
    (first | exact ⟨e8, e0, e1⟩ | go_keep)
    (first
      | (refine (HCALL.out _ ((HMa.out.alloc _).drew)).mono ?_
         rintro e w4 ⟨rfl, hM4, hB4⟩
         have hG4 : RowBlk 117 w4 g (invVs call inv 0 0 0 0 (.slice none 0 0) (.slice none 0 0) (.iface tid v)) := RowBlk.same ((HGa.out.alloc _).drew) (hB4.block g (by show _ < (wa.alloc _).heap.size; have := HGa.out.lt; simp; omega) hgm hgw)
         have hT4 : RowBlk 87 w4 w.heap.size [.iface 71 (.pointer (some ⟨bm, 0, none⟩)), .int .i64 tick] := RowBlk.same ((HTa.out.alloc _).drew) (hB4.block w.heap.size (by show _ < (wa.alloc _).heap.size; have := HTa.out.lt; simp; omega) (by omega) (by omega))
         have e8 : w4.cell? ⟨g, 8, none⟩ = some (.iface tid v) := hG4.cell rfl
         have e0 : w4.cell? ⟨w.heap.size, 0, none⟩ = some (.iface 71 (.pointer (some ⟨bm, 0, none⟩))) := hT4.cell rfl
         have e1 : w4.cell? ⟨w.heap.size, 1, none⟩ = some (.int .i64 tick) := hT4.cell rfl
         have hA4 : RowBlk 39 w4 wa.heap.size [.int .i64 0, .int .u64 0, .slice none 0 0] := RowBlk.same (RowBlk.drew (RowBlk.new wa [.int .i64 0, .int .u64 0, .slice none 0 0] 39)) (hB4.block wa.heap.size (by show wa.heap.size < (wa.alloc _).heap.size; simp) (by have := HSA.out; omega) (by have := HSA.out; omega))
         have a0 := hA4.cell (i := 0) rfl
         have a1 := hA4.cell (i := 1) rfl
         have a2 := hA4.cell (i := 2) rfl
         have z0 : w4.frozen? ⟨wa.heap.size, 0, none⟩ = false := hA4.free
         have z1 : w4.frozen? ⟨wa.heap.size, 1, none⟩ = false := hA4.free
         have z2 : w4.frozen? ⟨wa.heap.size, 2, none⟩ = false := hA4.free
         have HA4 := Lib.hid hA4
         clear hA4
         have y1 : w4.heap.size ≠ g := by have := hG4.lt; omega
         have y2 : w4.heap.size ≠ w.heap.size := by have := hT4.lt; omega
         have y3 : g ≠ w4.heap.size := by have := hG4.lt; omega
         have y4 : w.heap.size ≠ w4.heap.size := by have := hT4.lt; omega
         have HM4 := Lib.hid hM4
         have HB4 := Lib.hid hB4
         have HG4 := Lib.hid hG4
         have HT4 := Lib.hid hT4
         clear hM4 hB4 hG4 hT4)
      | (refine (HCALL.out _ (HMa.out.drew)).mono ?_
         rintro e w4 ⟨rfl, hM4, hB4⟩
         have hG4 : RowBlk 117 w4 g (invVs call inv 0 0 0 0 (.slice none 0 0) (.slice none 0 0) (.iface tid v)) := RowBlk.same (HGa.out.drew) (hB4.block g (HGa.out.lt) hgm hgw)
         have hT4 : RowBlk 87 w4 w.heap.size [.iface 71 (.pointer (some ⟨bm, 0, none⟩)), .int .i64 tick] := RowBlk.same (HTa.out.drew) (hB4.block w.heap.size (HTa.out.lt) (by omega) (by omega))
         have e8 : w4.cell? ⟨g, 8, none⟩ = some (.iface tid v) := hG4.cell rfl
         have e0 : w4.cell? ⟨w.heap.size, 0, none⟩ = some (.iface 71 (.pointer (some ⟨bm, 0, none⟩))) := hT4.cell rfl
         have e1 : w4.cell? ⟨w.heap.size, 1, none⟩ = some (.int .i64 tick) := hT4.cell rfl
         have y1 : w4.heap.size ≠ g := by have := hG4.lt; omega
         have y2 : w4.heap.size ≠ w.heap.size := by have := hT4.lt; omega
         have y3 : g ≠ w4.heap.size := by have := hG4.lt; omega
         have y4 : w.heap.size ≠ w4.heap.size := by have := hT4.lt; omega
         have HM4 := Lib.hid hM4
         have HB4 := Lib.hid hB4
         have HG4 := Lib.hid hG4
         have HT4 := Lib.hid hT4
         clear hM4 hB4 hG4 hT4))
  · have H5 : MemIs 108 (w4.alloc (.cells #[.int .i64 err, .int .u64 val, .slice none 0 0] 39)) bm bw l' c' ∧ RowBlk 117 (w4.alloc (.cells #[.int .i64 err, .int .u64 val, .slice none 0 0] 39)) g (invVs call inv 0 0 0 0 (.slice none 0 0) (.slice none 0 0) (.iface tid v)) ∧ RowBlk 87 (w4.alloc (.cells #[.int .i64 err, .int .u64 val, .slice none 0 0] 39)) w.heap.size [.iface 71 (.pointer (some ⟨bm, 0, none⟩)), .int .i64 tick] ∧ RowBlk 39 (w4.alloc (.cells #[.int .i64 err, .int .u64 val, .slice none 0 0] 39)) (w4.heap.size) [.int .i64 err, .int .u64 val, .slice none 0 0] ∧ ButS (fun k => k = g ∨ k = bm ∨ k = bw) w (w4.alloc (.cells #[.int .i64 err, .int .u64 val, .slice none 0 0] 39)) :=
      ⟨HM4.out.alloc _, HG4.out.alloc _, HT4.out.alloc _, RowBlk.new _ _ _, (HBa.out.drew.trans (ButS.of_but HB4.out (.inr (.inl rfl)) (.inr (.inr rfl)))).alloc _⟩
    clear HM4 HB4 HG4 HT4
    generalize w4.alloc (.cells #[.int .i64 err, .int .u64 val, .slice none 0 0] 39) = W5 at H5 ⊢
    generalize w4.heap.size = ga at H5 ⊢
    obtain ⟨HM5, HG5, HT5, HA5, HB5⟩ := H5
    have HM5 := Lib.hid HM5
    have HG5 := Lib.hid HG5
    have HT5 := Lib.hid HT5
    have HB5 := Lib.hid HB5
    have nga : ga ≠ g := row_ne HA5 HG5.out (by decide)
    have ngt : w.heap.size ≠ g := by omega
    have a0 := HA5.cell (i := 0) rfl
    have a1 := HA5.cell (i := 1) rfl
    have a2 := HA5.cell (i := 2) rfl
    have t1' := HT5.out.cell (i := 1) rfl
    have g3 : W5.cell? ⟨g, 3, none⟩ = some (.int .i64 0) := HG5.out.cell rfl
    have g2 : W5.cell? ⟨g, 2, none⟩ = some (.int .i64 0) := HG5.out.cell rfl
    have g4 : W5.cell? ⟨g, 4, none⟩ = some (.int .i64 0) := HG5.out.cell rfl
    have g5 : W5.cell? ⟨g, 5, none⟩ = some (.int .u64 0) := HG5.out.cell rfl
    have g6 : W5.cell? ⟨g, 6, none⟩ = some (.slice none 0 0) := HG5.out.cell rfl
    have fz : ∀ k, W5.frozen? ⟨g, k, none⟩ = false := fun k => HG5.out.free
    have H6 : MemIs 108 (((((W5.setCell ⟨g, 3, none⟩ (.int .i64 1)).setCell ⟨g, 2, none⟩ (.int .i64 tick)).setCell ⟨g, 4, none⟩ (.int .i64 err)).setCell ⟨g, 5, none⟩ (.int .u64 val)).setCell ⟨g, 6, none⟩ (.slice none 0 0)) bm bw l' c' ∧
        RowBlk 117 (((((W5.setCell ⟨g, 3, none⟩ (.int .i64 1)).setCell ⟨g, 2, none⟩ (.int .i64 tick)).setCell ⟨g, 4, none⟩ (.int .i64 err)).setCell ⟨g, 5, none⟩ (.int .u64 val)).setCell ⟨g, 6, none⟩ (.slice none 0 0)) g (invVs call inv tick 1 err val (.slice none 0 0) (.slice none 0 0) (.iface tid v)) ∧
        RowBlk 87 (((((W5.setCell ⟨g, 3, none⟩ (.int .i64 1)).setCell ⟨g, 2, none⟩ (.int .i64 tick)).setCell ⟨g, 4, none⟩ (.int .i64 err)).setCell ⟨g, 5, none⟩ (.int .u64 val)).setCell ⟨g, 6, none⟩ (.slice none 0 0)) w.heap.size [.iface 71 (.pointer (some ⟨bm, 0, none⟩)), .int .i64 tick] ∧
        ButS (fun k => k = g ∨ k = bm ∨ k = bw) w (((((W5.setCell ⟨g, 3, none⟩ (.int .i64 1)).setCell ⟨g, 2, none⟩ (.int .i64 tick)).setCell ⟨g, 4, none⟩ (.int .i64 err)).setCell ⟨g, 5, none⟩ (.int .u64 val)).setCell ⟨g, 6, none⟩ (.slice none 0 0)) :=
      ⟨((((HM5.out.setNew _ _ hgm hgw).setNew _ _ hgm hgw).setNew _ _ hgm hgw).setNew _ _ hgm hgw).setNew _ _ hgm hgw, ((((HG5.out.put 3 _).put 2 _).put 4 _).put 5 _).put 6 _,
       ((((HT5.out.other ngt _).other ngt _).other ngt _).other ngt _).other ngt _, ((((HB5.out.setCell (.inl (.inl rfl)) _).setCell (.inl (.inl rfl)) _).setCell (.inl (.inl rfl)) _).setCell (.inl (.inl rfl)) _).setCell (.inl (.inl rfl)) _⟩
    have H6 := Lib.hid H6
    clear HM5 HG5 HT5 HB5 HA5
    go_wp2_with fail
    generalize ((((W5.setCell ⟨g, 3, none⟩ (.int .i64 1)).setCell ⟨g, 2, none⟩ (.int .i64 tick)).setCell ⟨g, 4, none⟩ (.int .i64 err)).setCell ⟨g, 5, none⟩ (.int .u64 val)).setCell ⟨g, 6, none⟩ (.slice none 0 0) = W6 at H6 ⊢
    obtain ⟨hM6, hG6, hT6, hB6⟩ := H6.out
    refine (key_none g _ W6 (hG6.cell rfl) HNK.out).mono ?_
    rintro e W7 ⟨rfl, rfl⟩
    have k7 : W6.cell? ⟨g, 7, none⟩ = some (.slice none 0 0) := hG6.cell rfl
    have f7 : W6.frozen? ⟨g, 7, none⟩ = false := hG6.free
    have t6 := hT6.cell (i := 1) rfl
    have hgl6 := hG6.lt
    have H7 : Hid (MemIs 108 (((W6.setCell ⟨g, 7, none⟩ (.slice none 0 0)).setCell ⟨g, 7, none⟩ (.slice (some ⟨W6.heap.size, 0, none⟩) 1 1)).alloc (.cells #[.int .i64 (2 * tick)] 3)) bm bw l' c' ∧
        RowBlk 117 (((W6.setCell ⟨g, 7, none⟩ (.slice none 0 0)).setCell ⟨g, 7, none⟩ (.slice (some ⟨W6.heap.size, 0, none⟩) 1 1)).alloc (.cells #[.int .i64 (2 * tick)] 3)) g (invVs call inv tick 1 err val (.slice none 0 0) (.slice (some ⟨W6.heap.size, 0, none⟩) 1 1) (.iface tid v)) ∧
        RowBlk 3 (((W6.setCell ⟨g, 7, none⟩ (.slice none 0 0)).setCell ⟨g, 7, none⟩ (.slice (some ⟨W6.heap.size, 0, none⟩) 1 1)).alloc (.cells #[.int .i64 (2 * tick)] 3)) W6.heap.size [.int .i64 (2 * tick)] ∧
        ButS (fun k => k = g ∨ k = bm ∨ k = bw) w (((W6.setCell ⟨g, 7, none⟩ (.slice none 0 0)).setCell ⟨g, 7, none⟩ (.slice (some ⟨W6.heap.size, 0, none⟩) 1 1)).alloc (.cells #[.int .i64 (2 * tick)] 3))) := Lib.hid
      ⟨((hM6.setNew _ _ hgm hgw).setNew _ _ hgm hgw).alloc _, ((hG6.put 7 _).put 7 _).alloc _, by
          have e : ((W6.setCell ⟨g, 7, none⟩ (.slice none 0 0)).setCell ⟨g, 7, none⟩ (.slice (some ⟨W6.heap.size, 0, none⟩) 1 1)).heap.size = W6.heap.size := by simp [World.setCell]
          have h := RowBlk.new ((W6.setCell ⟨g, 7, none⟩ (.slice none 0 0)).setCell ⟨g, 7, none⟩ (.slice (some ⟨W6.heap.size, 0, none⟩) 1 1)) [.int .i64 (2 * tick)] 3
          rw [e] at h
          exact h, ((hB6.setCell (.inl (.inl rfl)) _).setCell (.inl (.inl rfl)) _).alloc _⟩
    have hsz6 := hB6.size
    clear hM6 hG6 hT6 hB6 H6
    go_wp2
    go_ret
    exact ⟨rfl, _, H7.out.2.1, H7.out.2.2.1, hsz6, H7.out.1, H7.out.2.2.2⟩
  · have H5 : MemIs 108 (((w4.setCell ⟨wa.heap.size, 0, none⟩ (.int .i64 err)).setCell ⟨wa.heap.size, 1, none⟩ (.int .u64 val)).setCell ⟨wa.heap.size, 2, none⟩ (.slice none 0 0)) bm bw l' c' ∧ RowBlk 117 (((w4.setCell ⟨wa.heap.size, 0, none⟩ (.int .i64 err)).setCell ⟨wa.heap.size, 1, none⟩ (.int .u64 val)).setCell ⟨wa.heap.size, 2, none⟩ (.slice none 0 0)) g (invVs call inv 0 0 0 0 (.slice none 0 0) (.slice none 0 0) (.iface tid v)) ∧ RowBlk 87 (((w4.setCell ⟨wa.heap.size, 0, none⟩ (.int .i64 err)).setCell ⟨wa.heap.size, 1, none⟩ (.int .u64 val)).setCell ⟨wa.heap.size, 2, none⟩ (.slice none 0 0)) w.heap.size [.iface 71 (.pointer (some ⟨bm, 0, none⟩)), .int .i64 tick] ∧ RowBlk 39 (((w4.setCell ⟨wa.heap.size, 0, none⟩ (.int .i64 err)).setCell ⟨wa.heap.size, 1, none⟩ (.int .u64 val)).setCell ⟨wa.heap.size, 2, none⟩ (.slice none 0 0)) (wa.heap.size) [.int .i64 err, .int .u64 val, .slice none 0 0] ∧ ButS (fun k => k = g ∨ k = bm ∨ k = bw) w (((w4.setCell ⟨wa.heap.size, 0, none⟩ (.int .i64 err)).setCell ⟨wa.heap.size, 1, none⟩ (.int .u64 val)).setCell ⟨wa.heap.size, 2, none⟩ (.slice none 0 0)) :=
      ⟨((HM4.out.setNew _ _ (by have := HSA.out; omega) (by have := HSA.out; omega)).setNew _ _ (by have := HSA.out; omega) (by have := HSA.out; omega)).setNew _ _ (by have := HSA.out; omega) (by have := HSA.out; omega),
       ((HG4.out.other n3 _).other n3 _).other n3 _, ((HT4.out.other n4 _).other n4 _).other n4 _, ((HA4.out.put 0 _).put 1 _).put 2 _,
       ((((HBa.out.alloc _).drew.trans (ButS.of_but HB4.out (.inr (.inl rfl)) (.inr (.inr rfl)))).setCell (.inr (by show w.heap.size ≤ wa.heap.size; have := HSA.out; omega)) _).setCell (.inr (by show w.heap.size ≤ wa.heap.size; have := HSA.out; omega)) _).setCell (.inr (by show w.heap.size ≤ wa.heap.size; have := HSA.out; omega)) _⟩
    clear HA4 HM4 HB4 HG4 HT4
    generalize ((w4.setCell ⟨wa.heap.size, 0, none⟩ (.int .i64 err)).setCell ⟨wa.heap.size, 1, none⟩ (.int .u64 val)).setCell ⟨wa.heap.size, 2, none⟩ (.slice none 0 0) = W5 at H5 ⊢
    generalize wa.heap.size = ga at H5 ⊢
    obtain ⟨HM5, HG5, HT5, HA5, HB5⟩ := H5
    have HM5 := Lib.hid HM5
    have HG5 := Lib.hid HG5
    have HT5 := Lib.hid HT5
    have HB5 := Lib.hid HB5
    have nga : ga ≠ g := row_ne HA5 HG5.out (by decide)
    have ngt : w.heap.size ≠ g := by omega
    have a0 := HA5.cell (i := 0) rfl
    have a1 := HA5.cell (i := 1) rfl
    have a2 := HA5.cell (i := 2) rfl
    have t1' := HT5.out.cell (i := 1) rfl
    have g3 : W5.cell? ⟨g, 3, none⟩ = some (.int .i64 0) := HG5.out.cell rfl
    have g2 : W5.cell? ⟨g, 2, none⟩ = some (.int .i64 0) := HG5.out.cell rfl
    have g4 : W5.cell? ⟨g, 4, none⟩ = some (.int .i64 0) := HG5.out.cell rfl
    have g5 : W5.cell? ⟨g, 5, none⟩ = some (.int .u64 0) := HG5.out.cell rfl
    have g6 : W5.cell? ⟨g, 6, none⟩ = some (.slice none 0 0) := HG5.out.cell rfl
    have fz : ∀ k, W5.frozen? ⟨g, k, none⟩ = false := fun k => HG5.out.free
    have H6 : MemIs 108 (((((W5.setCell ⟨g, 3, none⟩ (.int .i64 1)).setCell ⟨g, 2, none⟩ (.int .i64 tick)).setCell ⟨g, 4, none⟩ (.int .i64 err)).setCell ⟨g, 5, none⟩ (.int .u64 val)).setCell ⟨g, 6, none⟩ (.slice none 0 0)) bm bw l' c' ∧
        RowBlk 117 (((((W5.setCell ⟨g, 3, none⟩ (.int .i64 1)).setCell ⟨g, 2, none⟩ (.int .i64 tick)).setCell ⟨g, 4, none⟩ (.int .i64 err)).setCell ⟨g, 5, none⟩ (.int .u64 val)).setCell ⟨g, 6, none⟩ (.slice none 0 0)) g (invVs call inv tick 1 err val (.slice none 0 0) (.slice none 0 0) (.iface tid v)) ∧
        RowBlk 87 (((((W5.setCell ⟨g, 3, none⟩ (.int .i64 1)).setCell ⟨g, 2, none⟩ (.int .i64 tick)).setCell ⟨g, 4, none⟩ (.int .i64 err)).setCell ⟨g, 5, none⟩ (.int .u64 val)).setCell ⟨g, 6, none⟩ (.slice none 0 0)) w.heap.size [.iface 71 (.pointer (some ⟨bm, 0, none⟩)), .int .i64 tick] ∧
        ButS (fun k => k = g ∨ k = bm ∨ k = bw) w (((((W5.setCell ⟨g, 3, none⟩ (.int .i64 1)).setCell ⟨g, 2, none⟩ (.int .i64 tick)).setCell ⟨g, 4, none⟩ (.int .i64 err)).setCell ⟨g, 5, none⟩ (.int .u64 val)).setCell ⟨g, 6, none⟩ (.slice none 0 0)) :=
      ⟨((((HM5.out.setNew _ _ hgm hgw).setNew _ _ hgm hgw).setNew _ _ hgm hgw).setNew _ _ hgm hgw).setNew _ _ hgm hgw, ((((HG5.out.put 3 _).put 2 _).put 4 _).put 5 _).put 6 _,
       ((((HT5.out.other ngt _).other ngt _).other ngt _).other ngt _).other ngt _, ((((HB5.out.setCell (.inl (.inl rfl)) _).setCell (.inl (.inl rfl)) _).setCell (.inl (.inl rfl)) _).setCell (.inl (.inl rfl)) _).setCell (.inl (.inl rfl)) _⟩
    have H6 := Lib.hid H6
    clear HM5 HG5 HT5 HB5 HA5
    go_wp2_with fail
    generalize ((((W5.setCell ⟨g, 3, none⟩ (.int .i64 1)).setCell ⟨g, 2, none⟩ (.int .i64 tick)).setCell ⟨g, 4, none⟩ (.int .i64 err)).setCell ⟨g, 5, none⟩ (.int .u64 val)).setCell ⟨g, 6, none⟩ (.slice none 0 0) = W6 at H6 ⊢
    obtain ⟨hM6, hG6, hT6, hB6⟩ := H6.out
    refine (key_none g _ W6 (hG6.cell rfl) HNK.out).mono ?_
    rintro e W7 ⟨rfl, rfl⟩
    have k7 : W6.cell? ⟨g, 7, none⟩ = some (.slice none 0 0) := hG6.cell rfl
    have f7 : W6.frozen? ⟨g, 7, none⟩ = false := hG6.free
    have t6 := hT6.cell (i := 1) rfl
    have hgl6 := hG6.lt
    have H7 : Hid (MemIs 108 (((W6.setCell ⟨g, 7, none⟩ (.slice none 0 0)).setCell ⟨g, 7, none⟩ (.slice (some ⟨W6.heap.size, 0, none⟩) 1 1)).alloc (.cells #[.int .i64 (2 * tick)] 3)) bm bw l' c' ∧
        RowBlk 117 (((W6.setCell ⟨g, 7, none⟩ (.slice none 0 0)).setCell ⟨g, 7, none⟩ (.slice (some ⟨W6.heap.size, 0, none⟩) 1 1)).alloc (.cells #[.int .i64 (2 * tick)] 3)) g (invVs call inv tick 1 err val (.slice none 0 0) (.slice (some ⟨W6.heap.size, 0, none⟩) 1 1) (.iface tid v)) ∧
        RowBlk 3 (((W6.setCell ⟨g, 7, none⟩ (.slice none 0 0)).setCell ⟨g, 7, none⟩ (.slice (some ⟨W6.heap.size, 0, none⟩) 1 1)).alloc (.cells #[.int .i64 (2 * tick)] 3)) W6.heap.size [.int .i64 (2 * tick)] ∧
        ButS (fun k => k = g ∨ k = bm ∨ k = bw) w (((W6.setCell ⟨g, 7, none⟩ (.slice none 0 0)).setCell ⟨g, 7, none⟩ (.slice (some ⟨W6.heap.size, 0, none⟩) 1 1)).alloc (.cells #[.int .i64 (2 * tick)] 3))) := Lib.hid
      ⟨((hM6.setNew _ _ hgm hgw).setNew _ _ hgm hgw).alloc _, ((hG6.put 7 _).put 7 _).alloc _, by
          have e : ((W6.setCell ⟨g, 7, none⟩ (.slice none 0 0)).setCell ⟨g, 7, none⟩ (.slice (some ⟨W6.heap.size, 0, none⟩) 1 1)).heap.size = W6.heap.size := by simp [World.setCell]
          have h := RowBlk.new ((W6.setCell ⟨g, 7, none⟩ (.slice none 0 0)).setCell ⟨g, 7, none⟩ (.slice (some ⟨W6.heap.size, 0, none⟩) 1 1)) [.int .i64 (2 * tick)] 3
          rw [e] at h
          exact h, ((hB6.setCell (.inl (.inl rfl)) _).setCell (.inl (.inl rfl)) _).alloc _⟩
    have hsz6 := hB6.size
    clear hM6 hG6 hT6 hB6 H6
    go_wp2
    go_ret
    exact ⟨rfl, _, H7.out.2.1, H7.out.2.2.1, hsz6, H7.out.1, H7.out.2.2.2⟩
end Go.Proofs.Ytglpalomhhhmhaa
