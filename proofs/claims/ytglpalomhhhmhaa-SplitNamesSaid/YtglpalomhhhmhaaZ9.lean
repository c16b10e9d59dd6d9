/- Walks of loom: report, Report, for any machine. -/
import Derived.Test.YtglpalomhhhmhaaZ8
namespace Go.Proofs.Ytglpalomhhhmhaa
open Go.RowKit

structure EvR where
  i : Nat
  inv : Nat
  resp : Nat
  steps : Nat
  ans : Ans
  key : List Nat
def evVs (x : EvR) (lv kv : Value) : List Value := [.int .i64 (x.i : Int), .int .i64 (x.inv : Int), .int .i64 (x.resp : Int), .int .i64 (x.steps : Int), .int .i64 (x.ans.err : Int), .int .u64 (x.ans.val : Int), lv, kv]
def RepOne (x : EvR) (w : World) (e : Ending) (w' : World) : Prop :=
  ∃ lv kv : Value, e = .returned (.agg (evVs x lv kv).toArray) ∧ ListAt w' 37 mkU (fun b => w.heap.size ≤ b) lv x.ans.list ∧ ListAt w' 3 mkI (fun b => w.heap.size ≤ b) kv x.key ∧ Below w.heap.size w w'
theorem far_cell {w : World} {b k o : Nat} {v : Value} (h : k ≠ b) : (w.setCell ⟨b, o, none⟩ v).heap[k]? = w.heap[k]? := Below.heap_setCell _ _ _ _ h

set_option maxRecDepth 20000 in
set_option maxHeartbeats 2000000 in
theorem report_zero (g i inv steps err val : Nat) (lv kv opv : Value) (list key : List Nat) (keyp : List Nat) (pl pk : Nat → Prop) (w : World) (hrow : RowBlk 117 w g (invVs i inv 0 steps err val lv kv opv)) (hl : ListAt w 37 mkU pl lv list) (hk : ListAt w 3 mkI pk kv key)
    (hkey : ∀ W : World, Below w.heap.size w W → KeyOk opv keyp W) :
    Calls Try.prog 31 #[.pointer (some ⟨g, 0, none⟩)] w (RepOne ⟨i, inv, 0, steps, ⟨err, val, list⟩, keyp⟩ w) := by
  obtain ⟨lao, lcap, rfl⟩ := hl.isSlice
  obtain ⟨kao, kcap, rfl⟩ := hk.isSlice
  have c0 : w.cell? ⟨g, 0, none⟩ = some (.int .i64 (i : Int)) := hrow.cell rfl
  have c1 : w.cell? ⟨g, 1, none⟩ = some (.int .i64 (inv : Int)) := hrow.cell rfl
  have c2 : w.cell? ⟨g, 2, none⟩ = some (.int .i64 0) := hrow.cell rfl
  have c3 : w.cell? ⟨g, 3, none⟩ = some (.int .i64 (steps : Int)) := hrow.cell rfl
  have c4 : w.cell? ⟨g, 4, none⟩ = some (.int .i64 (err : Int)) := hrow.cell rfl
  have c5 : w.cell? ⟨g, 5, none⟩ = some (.int .u64 (val : Int)) := hrow.cell rfl
  have c6 : w.cell? ⟨g, 6, none⟩ = some (.slice lao list.length lcap) := hrow.cell rfl
  have c7 : w.cell? ⟨g, 7, none⟩ = some (.slice kao key.length kcap) := hrow.cell rfl
  have HROW := Lib.hid hrow
  have HL := Lib.hid hl
  have HK := Lib.hid hk
  have HKEY := Lib.hid hkey
  have hglt := hrow.lt
  clear hrow hl hk hkey
  go_enter Try.func31, Try.ntmps31
  go_wp2_with fail
  have HB2 : Hid (Below w.heap.size w ((w.alloc (.cells #[.int .i64 0, .int .i64 0, .int .i64 0, .int .i64 0, .int .i64 0, .int .u64 0, .slice none 0 0, .slice none 0 0] 41)).alloc (.cells #[.int .i64 (i : Int), .int .i64 (inv : Int), .int .i64 0, .int .i64 (steps : Int), .int .i64 (err : Int), .int .u64 (val : Int), .slice lao list.length lcap, .slice kao key.length kcap] 41))) := Lib.hid (((Below.refl _ _).alloc (Nat.le_refl _) _).alloc (by simp) _)
  have HZ2 : Hid (RowBlk 41 ((w.alloc (.cells #[.int .i64 0, .int .i64 0, .int .i64 0, .int .i64 0, .int .i64 0, .int .u64 0, .slice none 0 0, .slice none 0 0] 41)).alloc (.cells #[.int .i64 (i : Int), .int .i64 (inv : Int), .int .i64 0, .int .i64 (steps : Int), .int .i64 (err : Int), .int .u64 (val : Int), .slice lao list.length lcap, .slice kao key.length kcap] 41)) w.heap.size [.int .i64 0, .int .i64 0, .int .i64 0, .int .i64 0, .int .i64 0, .int .u64 0, .slice none 0 0, .slice none 0 0]) := Lib.hid ((RowBlk.new _ _ _).alloc _)
  have HV2 : Hid (RowBlk 41 ((w.alloc (.cells #[.int .i64 0, .int .i64 0, .int .i64 0, .int .i64 0, .int .i64 0, .int .u64 0, .slice none 0 0, .slice none 0 0] 41)).alloc (.cells #[.int .i64 (i : Int), .int .i64 (inv : Int), .int .i64 0, .int .i64 (steps : Int), .int .i64 (err : Int), .int .u64 (val : Int), .slice lao list.length lcap, .slice kao key.length kcap] 41)) (w.heap.size + 1) [.int .i64 (i : Int), .int .i64 (inv : Int), .int .i64 0, .int .i64 (steps : Int), .int .i64 (err : Int), .int .u64 (val : Int), .slice lao list.length lcap, .slice kao key.length kcap]) := Lib.hid (by
    have h := RowBlk.new (w.alloc (.cells #[.int .i64 0, .int .i64 0, .int .i64 0, .int .i64 0, .int .i64 0, .int .u64 0, .slice none 0 0, .slice none 0 0] 41)) [.int .i64 (i : Int), .int .i64 (inv : Int), .int .i64 0, .int .i64 (steps : Int), .int .i64 (err : Int), .int .u64 (val : Int), .slice lao list.length lcap, .slice kao key.length kcap] 41
    have e : (w.alloc (.cells #[.int .i64 0, .int .i64 0, .int .i64 0, .int .i64 0, .int .i64 0, .int .u64 0, .slice none 0 0, .slice none 0 0] 41)).heap.size = w.heap.size + 1 := by simp
    rw [e] at h
    exact h)
  have hs2 : ((w.alloc (.cells #[.int .i64 0, .int .i64 0, .int .i64 0, .int .i64 0, .int .i64 0, .int .u64 0, .slice none 0 0, .slice none 0 0] 41)).alloc (.cells #[.int .i64 (i : Int), .int .i64 (inv : Int), .int .i64 0, .int .i64 (steps : Int), .int .i64 (err : Int), .int .u64 (val : Int), .slice lao list.length lcap, .slice kao key.length kcap] 41)).heap.size = w.heap.size + 1 + 1 := by simp
  clear c0 c1 c2 c3 c4 c5 c6 c7
  generalize (w.alloc (.cells #[.int .i64 0, .int .i64 0, .int .i64 0, .int .i64 0, .int .i64 0, .int .u64 0, .slice none 0 0, .slice none 0 0] 41)).alloc (.cells #[.int .i64 (i : Int), .int .i64 (inv : Int), .int .i64 0, .int .i64 (steps : Int), .int .i64 (err : Int), .int .u64 (val : Int), .slice lao list.length lcap, .slice kao key.length kcap] 41) = W2 at HB2 HZ2 HV2 hs2 ⊢
  refine (clone_u64s _ _ list W2 (HL.out.keep (q := fun _ => True) (fun b ht _ => ⟨HB2.out.block b ht.lt, trivial⟩))).mono ?_
  rintro e w3 ⟨lv2, rfl, hlv2, hb3⟩
  obtain ⟨lao2, lcap2, rfl⟩ := hlv2.isSlice
  have hz3 := HZ2.out.same (hb3.block _ (by omega))
  have hv3 := HV2.out.same (hb3.block _ (by omega))
  have z3 := hb3.size
  have d6 : w3.cell? ⟨w.heap.size + 1, 6, none⟩ = some (.slice lao list.length lcap) := hv3.cell rfl
  have f6 : w3.frozen? ⟨w.heap.size + 1, 6, none⟩ = false := hv3.free
  have d2 : w3.cell? ⟨w.heap.size + 1, 2, none⟩ = some (.int .i64 0) := hv3.cell rfl
  have d7 : w3.cell? ⟨w.heap.size + 1, 7, none⟩ = some (.slice kao key.length kcap) := hv3.cell rfl
  have n01 : w.heap.size ≠ w.heap.size + 1 := by omega
  have HB3 : Hid (Below w.heap.size w (w3.setCell ⟨w.heap.size + 1, 6, none⟩ (.slice lao2 list.length lcap2))) := Lib.hid ((HB2.out.trans (hb3.mono (by omega))).setCell (show w.heap.size ≤ (⟨w.heap.size + 1, 6, none⟩ : Addr).block by show w.heap.size ≤ w.heap.size + 1; omega) _)
  have HZ3 := Lib.hid (hz3.other (a := ⟨w.heap.size + 1, 6, none⟩) n01 (.slice lao2 list.length lcap2))
  have HV3 : Hid (RowBlk 41 (w3.setCell ⟨w.heap.size + 1, 6, none⟩ (.slice lao2 list.length lcap2)) (w.heap.size + 1) [.int .i64 (i : Int), .int .i64 (inv : Int), .int .i64 0, .int .i64 (steps : Int), .int .i64 (err : Int), .int .u64 (val : Int), .slice lao2 list.length lcap2, .slice kao key.length kcap]) := Lib.hid (hv3.put 6 _)
  have HLV3 : Hid (ListAt (w3.setCell ⟨w.heap.size + 1, 6, none⟩ (.slice lao2 list.length lcap2)) 37 mkU (fun b => W2.heap.size ≤ b) (.slice lao2 list.length lcap2) list) := Lib.hid (hlv2.keep (fun b ht hb => ⟨Below.heap_setCell _ _ _ _ (by show b ≠ w.heap.size + 1; omega), hb⟩))
  have hs3 : W2.heap.size ≤ (w3.setCell ⟨w.heap.size + 1, 6, none⟩ (.slice lao2 list.length lcap2)).heap.size := by simp [World.setCell]; exact z3
  clear HB2 HZ2 HV2 hb3 hz3 hv3 hlv2
  go_wp2_with fail
  generalize w3.setCell ⟨w.heap.size + 1, 6, none⟩ (.slice lao2 list.length lcap2) = W3 at HB3 HZ3 HV3 HLV3 hs3 ⊢
  refine (key_any g _ keyp W3 ((HROW.out.same (HB3.out.block _ hglt)).cell rfl) (HKEY.out W3 HB3.out)).mono ?_
  rintro e w4 ⟨kv2, rfl, hkv2, hb4⟩
  obtain ⟨kao2, kcap2, rfl⟩ := hkv2.isSlice
  have hZ4 := HZ3.out.same (hb4.block _ (by omega))
  have hV4 := HV3.out.same (hb4.block _ (by omega))
  have hLV4 : ListAt w4 37 mkU (fun b => W2.heap.size ≤ b) (.slice lao2 list.length lcap2) list := HLV3.out.keep (fun b ht hb => ⟨hb4.block b ht.lt, hb⟩)
  have e0 := hV4.cell (i := 0) rfl
  have e1 := hV4.cell (i := 1) rfl
  have e2 := hV4.cell (i := 2) rfl
  have e3 := hV4.cell (i := 3) rfl
  have e4 := hV4.cell (i := 4) rfl
  have e5 := hV4.cell (i := 5) rfl
  have e6 := hV4.cell (i := 6) rfl
  have e7 := hV4.cell (i := 7) rfl
  have z0 := hZ4.cell (i := 0) rfl
  have z1 := hZ4.cell (i := 1) rfl
  have z2 := hZ4.cell (i := 2) rfl
  have z3 := hZ4.cell (i := 3) rfl
  have z4 := hZ4.cell (i := 4) rfl
  have z5 := hZ4.cell (i := 5) rfl
  have z6 := hZ4.cell (i := 6) rfl
  have z7 := hZ4.cell (i := 7) rfl
  have fz : ∀ k, w4.frozen? ⟨w.heap.size, k, none⟩ = false := fun k => hZ4.free
  have fv : ∀ k, w4.frozen? ⟨w.heap.size + 1, k, none⟩ = false := fun k => hV4.free
  have HX : Hid (RowBlk 41 (((((((((w4.setCell ⟨w.heap.size + 1, 7, none⟩ (.slice kao2 keyp.length kcap2)).setCell ⟨w.heap.size, 0, none⟩ (.int .i64 (i : Int))).setCell ⟨w.heap.size, 1, none⟩ (.int .i64 (inv : Int))).setCell ⟨w.heap.size, 2, none⟩ (.int .i64 0)).setCell ⟨w.heap.size, 3, none⟩ (.int .i64 (steps : Int))).setCell ⟨w.heap.size, 4, none⟩ (.int .i64 (err : Int))).setCell ⟨w.heap.size, 5, none⟩ (.int .u64 (val : Int))).setCell ⟨w.heap.size, 6, none⟩ (.slice lao2 list.length lcap2)).setCell ⟨w.heap.size, 7, none⟩ (.slice kao2 keyp.length kcap2)) w.heap.size (evVs ⟨i, inv, 0, steps, ⟨err, val, list⟩, keyp⟩ (.slice lao2 list.length lcap2) (.slice kao2 keyp.length kcap2)) ∧
      ListAt (((((((((w4.setCell ⟨w.heap.size + 1, 7, none⟩ (.slice kao2 keyp.length kcap2)).setCell ⟨w.heap.size, 0, none⟩ (.int .i64 (i : Int))).setCell ⟨w.heap.size, 1, none⟩ (.int .i64 (inv : Int))).setCell ⟨w.heap.size, 2, none⟩ (.int .i64 0)).setCell ⟨w.heap.size, 3, none⟩ (.int .i64 (steps : Int))).setCell ⟨w.heap.size, 4, none⟩ (.int .i64 (err : Int))).setCell ⟨w.heap.size, 5, none⟩ (.int .u64 (val : Int))).setCell ⟨w.heap.size, 6, none⟩ (.slice lao2 list.length lcap2)).setCell ⟨w.heap.size, 7, none⟩ (.slice kao2 keyp.length kcap2)) 37 mkU (fun b => w.heap.size ≤ b) (.slice lao2 list.length lcap2) list ∧ ListAt (((((((((w4.setCell ⟨w.heap.size + 1, 7, none⟩ (.slice kao2 keyp.length kcap2)).setCell ⟨w.heap.size, 0, none⟩ (.int .i64 (i : Int))).setCell ⟨w.heap.size, 1, none⟩ (.int .i64 (inv : Int))).setCell ⟨w.heap.size, 2, none⟩ (.int .i64 0)).setCell ⟨w.heap.size, 3, none⟩ (.int .i64 (steps : Int))).setCell ⟨w.heap.size, 4, none⟩ (.int .i64 (err : Int))).setCell ⟨w.heap.size, 5, none⟩ (.int .u64 (val : Int))).setCell ⟨w.heap.size, 6, none⟩ (.slice lao2 list.length lcap2)).setCell ⟨w.heap.size, 7, none⟩ (.slice kao2 keyp.length kcap2)) 3 mkI (fun b => w.heap.size ≤ b) (.slice kao2 keyp.length kcap2) keyp ∧ Below w.heap.size w (((((((((w4.setCell ⟨w.heap.size + 1, 7, none⟩ (.slice kao2 keyp.length kcap2)).setCell ⟨w.heap.size, 0, none⟩ (.int .i64 (i : Int))).setCell ⟨w.heap.size, 1, none⟩ (.int .i64 (inv : Int))).setCell ⟨w.heap.size, 2, none⟩ (.int .i64 0)).setCell ⟨w.heap.size, 3, none⟩ (.int .i64 (steps : Int))).setCell ⟨w.heap.size, 4, none⟩ (.int .i64 (err : Int))).setCell ⟨w.heap.size, 5, none⟩ (.int .u64 (val : Int))).setCell ⟨w.heap.size, 6, none⟩ (.slice lao2 list.length lcap2)).setCell ⟨w.heap.size, 7, none⟩ (.slice kao2 keyp.length kcap2))) := Lib.hid (by
    have far : ∀ b, b ≠ w.heap.size → b ≠ w.heap.size + 1 → (((((((((w4.setCell ⟨w.heap.size + 1, 7, none⟩ (.slice kao2 keyp.length kcap2)).setCell ⟨w.heap.size, 0, none⟩ (.int .i64 (i : Int))).setCell ⟨w.heap.size, 1, none⟩ (.int .i64 (inv : Int))).setCell ⟨w.heap.size, 2, none⟩ (.int .i64 0)).setCell ⟨w.heap.size, 3, none⟩ (.int .i64 (steps : Int))).setCell ⟨w.heap.size, 4, none⟩ (.int .i64 (err : Int))).setCell ⟨w.heap.size, 5, none⟩ (.int .u64 (val : Int))).setCell ⟨w.heap.size, 6, none⟩ (.slice lao2 list.length lcap2)).setCell ⟨w.heap.size, 7, none⟩ (.slice kao2 keyp.length kcap2)).heap[b]? = w4.heap[b]? := fun b h1 h2 => by
      rw [far_cell h1, far_cell h1, far_cell h1, far_cell h1, far_cell h1, far_cell h1, far_cell h1, far_cell h1, far_cell h2]
    refine ⟨((((((((hZ4.other (a := ⟨w.heap.size + 1, 7, none⟩) n01 _).put 0 _).put 1 _).put 2 _).put 3 _).put 4 _).put 5 _).put 6 _).put 7 _, hLV4.keep (fun b ht hb => ⟨far b (by omega) (by omega), by omega⟩), hkv2.keep (fun b ht hb => ⟨far b (by omega) (by omega), by omega⟩), ?_⟩
    exact (((((((((HB3.out.trans (hb4.mono (by omega))).setCell (show w.heap.size ≤ (⟨w.heap.size + 1, 7, none⟩ : Addr).block by show w.heap.size ≤ w.heap.size + 1; omega) _).setCell (Nat.le_refl _) _).setCell (Nat.le_refl _) _).setCell (Nat.le_refl _) _).setCell (Nat.le_refl _) _).setCell (Nat.le_refl _) _).setCell (Nat.le_refl _) _).setCell (Nat.le_refl _) _).setCell (Nat.le_refl _) _)
  clear hkv2 hLV4 hb4 hZ4 hV4 HB3 HZ3 HV3 HLV3
  go_wp2
  generalize ((((((((w4.setCell ⟨w.heap.size + 1, 7, none⟩ (.slice kao2 keyp.length kcap2)).setCell ⟨w.heap.size, 0, none⟩ (.int .i64 (i : Int))).setCell ⟨w.heap.size, 1, none⟩ (.int .i64 (inv : Int))).setCell ⟨w.heap.size, 2, none⟩ (.int .i64 0)).setCell ⟨w.heap.size, 3, none⟩ (.int .i64 (steps : Int))).setCell ⟨w.heap.size, 4, none⟩ (.int .i64 (err : Int))).setCell ⟨w.heap.size, 5, none⟩ (.int .u64 (val : Int))).setCell ⟨w.heap.size, 6, none⟩ (.slice lao2 list.length lcap2)).setCell ⟨w.heap.size, 7, none⟩ (.slice kao2 keyp.length kcap2) = W6 at HX ⊢
  have q0 := HX.out.1.cell (i := 0) rfl
  have q1 := HX.out.1.cell (i := 1) rfl
  have q2 := HX.out.1.cell (i := 2) rfl
  have q3 := HX.out.1.cell (i := 3) rfl
  have q4 := HX.out.1.cell (i := 4) rfl
  have q5 := HX.out.1.cell (i := 5) rfl
  have q6 := HX.out.1.cell (i := 6) rfl
  have q7 := HX.out.1.cell (i := 7) rfl
  exact bodyPost_ret (v := .agg (evVs ⟨i, inv, 0, steps, ⟨err, val, list⟩, keyp⟩ (.slice lao2 list.length lcap2) (.slice kao2 keyp.length kcap2)).toArray) (by simp [results, Try.results31, go_sem, q0, q1, q2, q3, q4, q5, q6, q7, evVs]) rfl ⟨_, _, rfl, HX.out.2.1, HX.out.2.2.1, HX.out.2.2.2⟩

set_option maxRecDepth 20000 in
set_option maxHeartbeats 2000000 in
theorem report_done (g i inv resp steps err val : Nat) (lv kv opv : Value) (list key : List Nat) (pl pk : Nat → Prop) (w : World) (hrow : RowBlk 117 w g (invVs i inv resp steps err val lv kv opv)) (hl : ListAt w 37 mkU pl lv list) (hk : ListAt w 3 mkI pk kv key)
    (hresp : ¬ resp = 0) :
    Calls Try.prog 31 #[.pointer (some ⟨g, 0, none⟩)] w (RepOne ⟨i, inv, resp, steps, ⟨err, val, list⟩, key⟩ w) := by
  obtain ⟨lao, lcap, rfl⟩ := hl.isSlice
  obtain ⟨kao, kcap, rfl⟩ := hk.isSlice
  have c0 : w.cell? ⟨g, 0, none⟩ = some (.int .i64 (i : Int)) := hrow.cell rfl
  have c1 : w.cell? ⟨g, 1, none⟩ = some (.int .i64 (inv : Int)) := hrow.cell rfl
  have c2 : w.cell? ⟨g, 2, none⟩ = some (.int .i64 (resp : Int)) := hrow.cell rfl
  have c3 : w.cell? ⟨g, 3, none⟩ = some (.int .i64 (steps : Int)) := hrow.cell rfl
  have c4 : w.cell? ⟨g, 4, none⟩ = some (.int .i64 (err : Int)) := hrow.cell rfl
  have c5 : w.cell? ⟨g, 5, none⟩ = some (.int .u64 (val : Int)) := hrow.cell rfl
  have c6 : w.cell? ⟨g, 6, none⟩ = some (.slice lao list.length lcap) := hrow.cell rfl
  have c7 : w.cell? ⟨g, 7, none⟩ = some (.slice kao key.length kcap) := hrow.cell rfl
  have HROW := Lib.hid hrow
  have HL := Lib.hid hl
  have HK := Lib.hid hk
  have hglt := hrow.lt
  clear hrow hl hk
  go_enter Try.func31, Try.ntmps31
  go_wp2_with fail
  have HB2 : Hid (Below w.heap.size w ((w.alloc (.cells #[.int .i64 0, .int .i64 0, .int .i64 0, .int .i64 0, .int .i64 0, .int .u64 0, .slice none 0 0, .slice none 0 0] 41)).alloc (.cells #[.int .i64 (i : Int), .int .i64 (inv : Int), .int .i64 (resp : Int), .int .i64 (steps : Int), .int .i64 (err : Int), .int .u64 (val : Int), .slice lao list.length lcap, .slice kao key.length kcap] 41))) := Lib.hid (((Below.refl _ _).alloc (Nat.le_refl _) _).alloc (by simp) _)
  have HZ2 : Hid (RowBlk 41 ((w.alloc (.cells #[.int .i64 0, .int .i64 0, .int .i64 0, .int .i64 0, .int .i64 0, .int .u64 0, .slice none 0 0, .slice none 0 0] 41)).alloc (.cells #[.int .i64 (i : Int), .int .i64 (inv : Int), .int .i64 (resp : Int), .int .i64 (steps : Int), .int .i64 (err : Int), .int .u64 (val : Int), .slice lao list.length lcap, .slice kao key.length kcap] 41)) w.heap.size [.int .i64 0, .int .i64 0, .int .i64 0, .int .i64 0, .int .i64 0, .int .u64 0, .slice none 0 0, .slice none 0 0]) := Lib.hid ((RowBlk.new _ _ _).alloc _)
  have HV2 : Hid (RowBlk 41 ((w.alloc (.cells #[.int .i64 0, .int .i64 0, .int .i64 0, .int .i64 0, .int .i64 0, .int .u64 0, .slice none 0 0, .slice none 0 0] 41)).alloc (.cells #[.int .i64 (i : Int), .int .i64 (inv : Int), .int .i64 (resp : Int), .int .i64 (steps : Int), .int .i64 (err : Int), .int .u64 (val : Int), .slice lao list.length lcap, .slice kao key.length kcap] 41)) (w.heap.size + 1) [.int .i64 (i : Int), .int .i64 (inv : Int), .int .i64 (resp : Int), .int .i64 (steps : Int), .int .i64 (err : Int), .int .u64 (val : Int), .slice lao list.length lcap, .slice kao key.length kcap]) := Lib.hid (by
    have h := RowBlk.new (w.alloc (.cells #[.int .i64 0, .int .i64 0, .int .i64 0, .int .i64 0, .int .i64 0, .int .u64 0, .slice none 0 0, .slice none 0 0] 41)) [.int .i64 (i : Int), .int .i64 (inv : Int), .int .i64 (resp : Int), .int .i64 (steps : Int), .int .i64 (err : Int), .int .u64 (val : Int), .slice lao list.length lcap, .slice kao key.length kcap] 41
    have e : (w.alloc (.cells #[.int .i64 0, .int .i64 0, .int .i64 0, .int .i64 0, .int .i64 0, .int .u64 0, .slice none 0 0, .slice none 0 0] 41)).heap.size = w.heap.size + 1 := by simp
    rw [e] at h
    exact h)
  have hs2 : ((w.alloc (.cells #[.int .i64 0, .int .i64 0, .int .i64 0, .int .i64 0, .int .i64 0, .int .u64 0, .slice none 0 0, .slice none 0 0] 41)).alloc (.cells #[.int .i64 (i : Int), .int .i64 (inv : Int), .int .i64 (resp : Int), .int .i64 (steps : Int), .int .i64 (err : Int), .int .u64 (val : Int), .slice lao list.length lcap, .slice kao key.length kcap] 41)).heap.size = w.heap.size + 1 + 1 := by simp
  clear c0 c1 c2 c3 c4 c5 c6 c7
  generalize (w.alloc (.cells #[.int .i64 0, .int .i64 0, .int .i64 0, .int .i64 0, .int .i64 0, .int .u64 0, .slice none 0 0, .slice none 0 0] 41)).alloc (.cells #[.int .i64 (i : Int), .int .i64 (inv : Int), .int .i64 (resp : Int), .int .i64 (steps : Int), .int .i64 (err : Int), .int .u64 (val : Int), .slice lao list.length lcap, .slice kao key.length kcap] 41) = W2 at HB2 HZ2 HV2 hs2 ⊢
  refine (clone_u64s _ _ list W2 (HL.out.keep (q := fun _ => True) (fun b ht _ => ⟨HB2.out.block b ht.lt, trivial⟩))).mono ?_
  rintro e w3 ⟨lv2, rfl, hlv2, hb3⟩
  obtain ⟨lao2, lcap2, rfl⟩ := hlv2.isSlice
  have hz3 := HZ2.out.same (hb3.block _ (by omega))
  have hv3 := HV2.out.same (hb3.block _ (by omega))
  have z3 := hb3.size
  have d6 : w3.cell? ⟨w.heap.size + 1, 6, none⟩ = some (.slice lao list.length lcap) := hv3.cell rfl
  have f6 : w3.frozen? ⟨w.heap.size + 1, 6, none⟩ = false := hv3.free
  have d2 : w3.cell? ⟨w.heap.size + 1, 2, none⟩ = some (.int .i64 (resp : Int)) := hv3.cell rfl
  have d7 : w3.cell? ⟨w.heap.size + 1, 7, none⟩ = some (.slice kao key.length kcap) := hv3.cell rfl
  have n01 : w.heap.size ≠ w.heap.size + 1 := by omega
  have HB3 : Hid (Below w.heap.size w (w3.setCell ⟨w.heap.size + 1, 6, none⟩ (.slice lao2 list.length lcap2))) := Lib.hid ((HB2.out.trans (hb3.mono (by omega))).setCell (show w.heap.size ≤ (⟨w.heap.size + 1, 6, none⟩ : Addr).block by show w.heap.size ≤ w.heap.size + 1; omega) _)
  have HZ3 := Lib.hid (hz3.other (a := ⟨w.heap.size + 1, 6, none⟩) n01 (.slice lao2 list.length lcap2))
  have HV3 : Hid (RowBlk 41 (w3.setCell ⟨w.heap.size + 1, 6, none⟩ (.slice lao2 list.length lcap2)) (w.heap.size + 1) [.int .i64 (i : Int), .int .i64 (inv : Int), .int .i64 (resp : Int), .int .i64 (steps : Int), .int .i64 (err : Int), .int .u64 (val : Int), .slice lao2 list.length lcap2, .slice kao key.length kcap]) := Lib.hid (hv3.put 6 _)
  have HLV3 : Hid (ListAt (w3.setCell ⟨w.heap.size + 1, 6, none⟩ (.slice lao2 list.length lcap2)) 37 mkU (fun b => W2.heap.size ≤ b) (.slice lao2 list.length lcap2) list) := Lib.hid (hlv2.keep (fun b ht hb => ⟨Below.heap_setCell _ _ _ _ (by show b ≠ w.heap.size + 1; omega), hb⟩))
  have hs3 : W2.heap.size ≤ (w3.setCell ⟨w.heap.size + 1, 6, none⟩ (.slice lao2 list.length lcap2)).heap.size := by simp [World.setCell]; exact z3
  clear HB2 HZ2 HV2 hb3 hz3 hv3 hlv2
  go_wp2_with fail
  generalize w3.setCell ⟨w.heap.size + 1, 6, none⟩ (.slice lao2 list.length lcap2) = W3 at HB3 HZ3 HV3 HLV3 hs3 ⊢
  refine (clone_ints _ _ key W3 (HK.out.keep (q := fun _ => True) (fun b ht _ => ⟨HB3.out.block b ht.lt, trivial⟩))).mono ?_
  rintro e w4 ⟨kv2, rfl, hkv2, hb4⟩
  obtain ⟨kao2, kcap2, rfl⟩ := hkv2.isSlice
  have hZ4 := HZ3.out.same (hb4.block _ (by omega))
  have hV4 := HV3.out.same (hb4.block _ (by omega))
  have hLV4 : ListAt w4 37 mkU (fun b => W2.heap.size ≤ b) (.slice lao2 list.length lcap2) list := HLV3.out.keep (fun b ht hb => ⟨hb4.block b ht.lt, hb⟩)
  have e0 := hV4.cell (i := 0) rfl
  have e1 := hV4.cell (i := 1) rfl
  have e2 := hV4.cell (i := 2) rfl
  have e3 := hV4.cell (i := 3) rfl
  have e4 := hV4.cell (i := 4) rfl
  have e5 := hV4.cell (i := 5) rfl
  have e6 := hV4.cell (i := 6) rfl
  have e7 := hV4.cell (i := 7) rfl
  have z0 := hZ4.cell (i := 0) rfl
  have z1 := hZ4.cell (i := 1) rfl
  have z2 := hZ4.cell (i := 2) rfl
  have z3 := hZ4.cell (i := 3) rfl
  have z4 := hZ4.cell (i := 4) rfl
  have z5 := hZ4.cell (i := 5) rfl
  have z6 := hZ4.cell (i := 6) rfl
  have z7 := hZ4.cell (i := 7) rfl
  have fz : ∀ k, w4.frozen? ⟨w.heap.size, k, none⟩ = false := fun k => hZ4.free
  have fv : ∀ k, w4.frozen? ⟨w.heap.size + 1, k, none⟩ = false := fun k => hV4.free
  have HX : Hid (RowBlk 41 (((((((((w4.setCell ⟨w.heap.size + 1, 7, none⟩ (.slice kao2 key.length kcap2)).setCell ⟨w.heap.size, 0, none⟩ (.int .i64 (i : Int))).setCell ⟨w.heap.size, 1, none⟩ (.int .i64 (inv : Int))).setCell ⟨w.heap.size, 2, none⟩ (.int .i64 (resp : Int))).setCell ⟨w.heap.size, 3, none⟩ (.int .i64 (steps : Int))).setCell ⟨w.heap.size, 4, none⟩ (.int .i64 (err : Int))).setCell ⟨w.heap.size, 5, none⟩ (.int .u64 (val : Int))).setCell ⟨w.heap.size, 6, none⟩ (.slice lao2 list.length lcap2)).setCell ⟨w.heap.size, 7, none⟩ (.slice kao2 key.length kcap2)) w.heap.size (evVs ⟨i, inv, resp, steps, ⟨err, val, list⟩, key⟩ (.slice lao2 list.length lcap2) (.slice kao2 key.length kcap2)) ∧
      ListAt (((((((((w4.setCell ⟨w.heap.size + 1, 7, none⟩ (.slice kao2 key.length kcap2)).setCell ⟨w.heap.size, 0, none⟩ (.int .i64 (i : Int))).setCell ⟨w.heap.size, 1, none⟩ (.int .i64 (inv : Int))).setCell ⟨w.heap.size, 2, none⟩ (.int .i64 (resp : Int))).setCell ⟨w.heap.size, 3, none⟩ (.int .i64 (steps : Int))).setCell ⟨w.heap.size, 4, none⟩ (.int .i64 (err : Int))).setCell ⟨w.heap.size, 5, none⟩ (.int .u64 (val : Int))).setCell ⟨w.heap.size, 6, none⟩ (.slice lao2 list.length lcap2)).setCell ⟨w.heap.size, 7, none⟩ (.slice kao2 key.length kcap2)) 37 mkU (fun b => w.heap.size ≤ b) (.slice lao2 list.length lcap2) list ∧ ListAt (((((((((w4.setCell ⟨w.heap.size + 1, 7, none⟩ (.slice kao2 key.length kcap2)).setCell ⟨w.heap.size, 0, none⟩ (.int .i64 (i : Int))).setCell ⟨w.heap.size, 1, none⟩ (.int .i64 (inv : Int))).setCell ⟨w.heap.size, 2, none⟩ (.int .i64 (resp : Int))).setCell ⟨w.heap.size, 3, none⟩ (.int .i64 (steps : Int))).setCell ⟨w.heap.size, 4, none⟩ (.int .i64 (err : Int))).setCell ⟨w.heap.size, 5, none⟩ (.int .u64 (val : Int))).setCell ⟨w.heap.size, 6, none⟩ (.slice lao2 list.length lcap2)).setCell ⟨w.heap.size, 7, none⟩ (.slice kao2 key.length kcap2)) 3 mkI (fun b => w.heap.size ≤ b) (.slice kao2 key.length kcap2) key ∧ Below w.heap.size w (((((((((w4.setCell ⟨w.heap.size + 1, 7, none⟩ (.slice kao2 key.length kcap2)).setCell ⟨w.heap.size, 0, none⟩ (.int .i64 (i : Int))).setCell ⟨w.heap.size, 1, none⟩ (.int .i64 (inv : Int))).setCell ⟨w.heap.size, 2, none⟩ (.int .i64 (resp : Int))).setCell ⟨w.heap.size, 3, none⟩ (.int .i64 (steps : Int))).setCell ⟨w.heap.size, 4, none⟩ (.int .i64 (err : Int))).setCell ⟨w.heap.size, 5, none⟩ (.int .u64 (val : Int))).setCell ⟨w.heap.size, 6, none⟩ (.slice lao2 list.length lcap2)).setCell ⟨w.heap.size, 7, none⟩ (.slice kao2 key.length kcap2))) := Lib.hid (by
    have far : ∀ b, b ≠ w.heap.size → b ≠ w.heap.size + 1 → (((((((((w4.setCell ⟨w.heap.size + 1, 7, none⟩ (.slice kao2 key.length kcap2)).setCell ⟨w.heap.size, 0, none⟩ (.int .i64 (i : Int))).setCell ⟨w.heap.size, 1, none⟩ (.int .i64 (inv : Int))).setCell ⟨w.heap.size, 2, none⟩ (.int .i64 (resp : Int))).setCell ⟨w.heap.size, 3, none⟩ (.int .i64 (steps : Int))).setCell ⟨w.heap.size, 4, none⟩ (.int .i64 (err : Int))).setCell ⟨w.heap.size, 5, none⟩ (.int .u64 (val : Int))).setCell ⟨w.heap.size, 6, none⟩ (.slice lao2 list.length lcap2)).setCell ⟨w.heap.size, 7, none⟩ (.slice kao2 key.length kcap2)).heap[b]? = w4.heap[b]? := fun b h1 h2 => by
      rw [far_cell h1, far_cell h1, far_cell h1, far_cell h1, far_cell h1, far_cell h1, far_cell h1, far_cell h1, far_cell h2]
    refine ⟨((((((((hZ4.other (a := ⟨w.heap.size + 1, 7, none⟩) n01 _).put 0 _).put 1 _).put 2 _).put 3 _).put 4 _).put 5 _).put 6 _).put 7 _, hLV4.keep (fun b ht hb => ⟨far b (by omega) (by omega), by omega⟩), hkv2.keep (fun b ht hb => ⟨far b (by omega) (by omega), by omega⟩), ?_⟩
    exact (((((((((HB3.out.trans (hb4.mono (by omega))).setCell (show w.heap.size ≤ (⟨w.heap.size + 1, 7, none⟩ : Addr).block by show w.heap.size ≤ w.heap.size + 1; omega) _).setCell (Nat.le_refl _) _).setCell (Nat.le_refl _) _).setCell (Nat.le_refl _) _).setCell (Nat.le_refl _) _).setCell (Nat.le_refl _) _).setCell (Nat.le_refl _) _).setCell (Nat.le_refl _) _).setCell (Nat.le_refl _) _)
  clear hkv2 hLV4 hb4 hZ4 hV4 HB3 HZ3 HV3 HLV3
  go_wp2
  generalize ((((((((w4.setCell ⟨w.heap.size + 1, 7, none⟩ (.slice kao2 key.length kcap2)).setCell ⟨w.heap.size, 0, none⟩ (.int .i64 (i : Int))).setCell ⟨w.heap.size, 1, none⟩ (.int .i64 (inv : Int))).setCell ⟨w.heap.size, 2, none⟩ (.int .i64 (resp : Int))).setCell ⟨w.heap.size, 3, none⟩ (.int .i64 (steps : Int))).setCell ⟨w.heap.size, 4, none⟩ (.int .i64 (err : Int))).setCell ⟨w.heap.size, 5, none⟩ (.int .u64 (val : Int))).setCell ⟨w.heap.size, 6, none⟩ (.slice lao2 list.length lcap2)).setCell ⟨w.heap.size, 7, none⟩ (.slice kao2 key.length kcap2) = W6 at HX ⊢
  have q0 := HX.out.1.cell (i := 0) rfl
  have q1 := HX.out.1.cell (i := 1) rfl
  have q2 := HX.out.1.cell (i := 2) rfl
  have q3 := HX.out.1.cell (i := 3) rfl
  have q4 := HX.out.1.cell (i := 4) rfl
  have q5 := HX.out.1.cell (i := 5) rfl
  have q6 := HX.out.1.cell (i := 6) rfl
  have q7 := HX.out.1.cell (i := 7) rfl
  exact bodyPost_ret (v := .agg (evVs ⟨i, inv, resp, steps, ⟨err, val, list⟩, key⟩ (.slice lao2 list.length lcap2) (.slice kao2 key.length kcap2)).toArray) (by simp [results, Try.results31, go_sem, q0, q1, q2, q3, q4, q5, q6, q7, evVs]) rfl ⟨_, _, rfl, HX.out.2.1, HX.out.2.2.1, HX.out.2.2.2⟩
end Go.Proofs.Ytglpalomhhhmhaa
