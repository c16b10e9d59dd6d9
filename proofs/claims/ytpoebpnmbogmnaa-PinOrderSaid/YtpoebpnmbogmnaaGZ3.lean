/- Walks of loom: report, Report, for any machine. | Walk of loom: Report, for any machine. | Walks of loom: sizesOf, place, New, check, Play, for one object of any machine. | Walk of loom: Play, for one object of any machine. | Walks for laws on plays: what reports hold; Many, None. | The memory's accesses, as a machine makes them. | The memory's Add, as a machine makes it. -/
import Derived.Test.YtpoebpnmbogmnaaGZ2
import Derived.Test.YtpoebpnmbogmnaaGN
import Derived.Lib.AppendZeros
namespace Go.Proofs.Ytpoebpnmbogmnaa
section
open Go.RowKit

structure EvR where
  i : Nat
  inv : Nat
  resp : Nat
  steps : Nat
  ans : Ans
  key : List Nat
def evVs (x : EvR) (lv kv : Value) : List Value := [.int .i64 (x.i : Int), .int .i64 (x.inv : Int), .int .i64 (x.resp : Int), .int .i64 (x.steps : Int), .int .i64 (x.ans.err : Int), .int .u64 (x.ans.val : Int), lv, kv]
def RepOne (x : EvR) (w : World) (e : Ending) (w' : World) : Prop :=
  ∃ lv kv : Value, e = .returned (.agg (evVs x lv kv).toArray) ∧ ListAt w' 37 mkU (fun b => w.heap.size ≤ b) lv x.ans.list ∧ ListAt w' 3 mkI (fun b => w.heap.size ≤ b) kv x.key ∧ Below w.heap.size w w'
theorem far_cell {w : World} {b k o : Nat} {v : Value} (h : k ≠ b) : (w.setCell ⟨b, o, none⟩ v).heap[k]? = w.heap[k]? := Below.heap_setCell _ _ _ _ h

set_option maxRecDepth 20000 in
set_option maxHeartbeats 2000000 in
theorem report_zero (g i inv steps err val : Nat) (lv kv opv : Value) (list key : List Nat) (keyp : List Nat) (pl pk : Nat → Prop) (w : World) (hrow : RowBlk 148 w g (invVs i inv 0 steps err val lv kv opv)) (hl : ListAt w 37 mkU pl lv list) (hk : ListAt w 3 mkI pk kv key)
    (hkey : ∀ W : World, Below w.heap.size w W → KeyOk opv keyp W) :
    Calls Try.prog 57 #[.pointer (some ⟨g, 0, none⟩)] w (RepOne ⟨i, inv, 0, steps, ⟨err, val, list⟩, keyp⟩ w) := by
  obtain ⟨lao, lcap, rfl⟩ := hl.isSlice
  obtain ⟨kao, kcap, rfl⟩ := hk.isSlice
  have c0 : w.cell? ⟨g, 0, none⟩ = some (.int .i64 (i : Int)) := hrow.cell rfl
  have c1 : w.cell? ⟨g, 1, none⟩ = some (.int .i64 (inv : Int)) := hrow.cell rfl
  have c2 : w.cell? ⟨g, 2, none⟩ = some (.int .i64 0) := hrow.cell rfl
  have c3 : w.cell? ⟨g, 3, none⟩ = some (.int .i64 (steps : Int)) := hrow.cell rfl
  have c4 : w.cell? ⟨g, 4, none⟩ = some (.int .i64 (err : Int)) := hrow.cell rfl
  have c5 : w.cell? ⟨g, 5, none⟩ = some (.int .u64 (val : Int)) := hrow.cell rfl
  have c6 : w.cell? ⟨g, 6, none⟩ = some (.slice lao list.length lcap) := hrow.cell rfl
  have c7 : w.cell? ⟨g, 7, none⟩ = some (.slice kao key.length kcap) := hrow.cell rfl
  have HROW := Lib.hid hrow
  have HL := Lib.hid hl
  have HK := Lib.hid hk
  have HKEY := Lib.hid hkey
  have hglt := hrow.lt
  clear hrow hl hk hkey
  go_enter Try.func57, Try.ntmps57
  go_wp2_with fail
  have HB2 : Hid (Below w.heap.size w ((w.alloc (.cells #[.int .i64 0, .int .i64 0, .int .i64 0, .int .i64 0, .int .i64 0, .int .u64 0, .slice none 0 0, .slice none 0 0] 41)).alloc (.cells #[.int .i64 (i : Int), .int .i64 (inv : Int), .int .i64 0, .int .i64 (steps : Int), .int .i64 (err : Int), .int .u64 (val : Int), .slice lao list.length lcap, .slice kao key.length kcap] 41))) := Lib.hid (((Below.refl _ _).alloc (Nat.le_refl _) _).alloc (by simp) _)
  have HZ2 : Hid (RowBlk 41 ((w.alloc (.cells #[.int .i64 0, .int .i64 0, .int .i64 0, .int .i64 0, .int .i64 0, .int .u64 0, .slice none 0 0, .slice none 0 0] 41)).alloc (.cells #[.int .i64 (i : Int), .int .i64 (inv : Int), .int .i64 0, .int .i64 (steps : Int), .int .i64 (err : Int), .int .u64 (val : Int), .slice lao list.length lcap, .slice kao key.length kcap] 41)) w.heap.size [.int .i64 0, .int .i64 0, .int .i64 0, .int .i64 0, .int .i64 0, .int .u64 0, .slice none 0 0, .slice none 0 0]) := Lib.hid ((RowBlk.new _ _ _).alloc _)
  have HV2 : Hid (RowBlk 41 ((w.alloc (.cells #[.int .i64 0, .int .i64 0, .int .i64 0, .int .i64 0, .int .i64 0, .int .u64 0, .slice none 0 0, .slice none 0 0] 41)).alloc (.cells #[.int .i64 (i : Int), .int .i64 (inv : Int), .int .i64 0, .int .i64 (steps : Int), .int .i64 (err : Int), .int .u64 (val : Int), .slice lao list.length lcap, .slice kao key.length kcap] 41)) (w.heap.size + 1) [.int .i64 (i : Int), .int .i64 (inv : Int), .int .i64 0, .int .i64 (steps : Int), .int .i64 (err : Int), .int .u64 (val : Int), .slice lao list.length lcap, .slice kao key.length kcap]) := Lib.hid (by
    have h := RowBlk.new (w.alloc (.cells #[.int .i64 0, .int .i64 0, .int .i64 0, .int .i64 0, .int .i64 0, .int .u64 0, .slice none 0 0, .slice none 0 0] 41)) [.int .i64 (i : Int), .int .i64 (inv : Int), .int .i64 0, .int .i64 (steps : Int), .int .i64 (err : Int), .int .u64 (val : Int), .slice lao list.length lcap, .slice kao key.length kcap] 41
    have e : (w.alloc (.cells #[.int .i64 0, .int .i64 0, .int .i64 0, .int .i64 0, .int .i64 0, .int .u64 0, .slice none 0 0, .slice none 0 0] 41)).heap.size = w.heap.size + 1 := by simp
    rw [e] at h
    exact h)
  have hs2 : ((w.alloc (.cells #[.int .i64 0, .int .i64 0, .int .i64 0, .int .i64 0, .int .i64 0, .int .u64 0, .slice none 0 0, .slice none 0 0] 41)).alloc (.cells #[.int .i64 (i : Int), .int .i64 (inv : Int), .int .i64 0, .int .i64 (steps : Int), .int .i64 (err : Int), .int .u64 (val : Int), .slice lao list.length lcap, .slice kao key.length kcap] 41)).heap.size = w.heap.size + 1 + 1 := by simp
  clear c0 c1 c2 c3 c4 c5 c6 c7
  generalize (w.alloc (.cells #[.int .i64 0, .int .i64 0, .int .i64 0, .int .i64 0, .int .i64 0, .int .u64 0, .slice none 0 0, .slice none 0 0] 41)).alloc (.cells #[.int .i64 (i : Int), .int .i64 (inv : Int), .int .i64 0, .int .i64 (steps : Int), .int .i64 (err : Int), .int .u64 (val : Int), .slice lao list.length lcap, .slice kao key.length kcap] 41) = W2 at HB2 HZ2 HV2 hs2 ⊢
  refine (clone_u64s _ _ list W2 (HL.out.keep (q := fun _ => True) (fun b ht _ => ⟨HB2.out.block b ht.lt, trivial⟩))).mono ?_
  rintro e w3 ⟨lv2, rfl, hlv2, hb3⟩
  obtain ⟨lao2, lcap2, rfl⟩ := hlv2.isSlice
  have hz3 := HZ2.out.same (hb3.block _ (by omega))
  have hv3 := HV2.out.same (hb3.block _ (by omega))
  have z3 := hb3.size
  have d6 : w3.cell? ⟨w.heap.size + 1, 6, none⟩ = some (.slice lao list.length lcap) := hv3.cell rfl
  have f6 : w3.frozen? ⟨w.heap.size + 1, 6, none⟩ = false := hv3.free
  have d2 : w3.cell? ⟨w.heap.size + 1, 2, none⟩ = some (.int .i64 0) := hv3.cell rfl
  have d7 : w3.cell? ⟨w.heap.size + 1, 7, none⟩ = some (.slice kao key.length kcap) := hv3.cell rfl
  have n01 : w.heap.size ≠ w.heap.size + 1 := by omega
  have HB3 : Hid (Below w.heap.size w (w3.setCell ⟨w.heap.size + 1, 6, none⟩ (.slice lao2 list.length lcap2))) := Lib.hid ((HB2.out.trans (hb3.mono (by omega))).setCell (show w.heap.size ≤ (⟨w.heap.size + 1, 6, none⟩ : Addr).block by show w.heap.size ≤ w.heap.size + 1; omega) _)
  have HZ3 := Lib.hid (hz3.other (a := ⟨w.heap.size + 1, 6, none⟩) n01 (.slice lao2 list.length lcap2))
  have HV3 : Hid (RowBlk 41 (w3.setCell ⟨w.heap.size + 1, 6, none⟩ (.slice lao2 list.length lcap2)) (w.heap.size + 1) [.int .i64 (i : Int), .int .i64 (inv : Int), .int .i64 0, .int .i64 (steps : Int), .int .i64 (err : Int), .int .u64 (val : Int), .slice lao2 list.length lcap2, .slice kao key.length kcap]) := Lib.hid (hv3.put 6 _)
  have HLV3 : Hid (ListAt (w3.setCell ⟨w.heap.size + 1, 6, none⟩ (.slice lao2 list.length lcap2)) 37 mkU (fun b => W2.heap.size ≤ b) (.slice lao2 list.length lcap2) list) := Lib.hid (hlv2.keep (fun b ht hb => ⟨Below.heap_setCell _ _ _ _ (by show b ≠ w.heap.size + 1; omega), hb⟩))
  have hs3 : W2.heap.size ≤ (w3.setCell ⟨w.heap.size + 1, 6, none⟩ (.slice lao2 list.length lcap2)).heap.size := by simp [World.setCell]; exact z3
  clear HB2 HZ2 HV2 hb3 hz3 hv3 hlv2
  go_wp2_with fail
  generalize w3.setCell ⟨w.heap.size + 1, 6, none⟩ (.slice lao2 list.length lcap2) = W3 at HB3 HZ3 HV3 HLV3 hs3 ⊢
  refine (key_any g _ keyp W3 ((HROW.out.same (HB3.out.block _ hglt)).cell rfl) (HKEY.out W3 HB3.out)).mono ?_
  rintro e w4 ⟨kv2, rfl, hkv2, hb4⟩
  obtain ⟨kao2, kcap2, rfl⟩ := hkv2.isSlice
  have hZ4 := HZ3.out.same (hb4.block _ (by omega))
  have hV4 := HV3.out.same (hb4.block _ (by omega))
  have hLV4 : ListAt w4 37 mkU (fun b => W2.heap.size ≤ b) (.slice lao2 list.length lcap2) list := HLV3.out.keep (fun b ht hb => ⟨hb4.block b ht.lt, hb⟩)
  have e0 := hV4.cell (i := 0) rfl
  have e1 := hV4.cell (i := 1) rfl
  have e2 := hV4.cell (i := 2) rfl
  have e3 := hV4.cell (i := 3) rfl
  have e4 := hV4.cell (i := 4) rfl
  have e5 := hV4.cell (i := 5) rfl
  have e6 := hV4.cell (i := 6) rfl
  have e7 := hV4.cell (i := 7) rfl
  have z0 := hZ4.cell (i := 0) rfl
  have z1 := hZ4.cell (i := 1) rfl
  have z2 := hZ4.cell (i := 2) rfl
  have z3 := hZ4.cell (i := 3) rfl
  have z4 := hZ4.cell (i := 4) rfl
  have z5 := hZ4.cell (i := 5) rfl
  have z6 := hZ4.cell (i := 6) rfl
  have z7 := hZ4.cell (i := 7) rfl
  have fz : ∀ k, w4.frozen? ⟨w.heap.size, k, none⟩ = false := fun k => hZ4.free
  have fv : ∀ k, w4.frozen? ⟨w.heap.size + 1, k, none⟩ = false := fun k => hV4.free
  have HX : Hid (RowBlk 41 (((((((((w4.setCell ⟨w.heap.size + 1, 7, none⟩ (.slice kao2 keyp.length kcap2)).setCell ⟨w.heap.size, 0, none⟩ (.int .i64 (i : Int))).setCell ⟨w.heap.size, 1, none⟩ (.int .i64 (inv : Int))).setCell ⟨w.heap.size, 2, none⟩ (.int .i64 0)).setCell ⟨w.heap.size, 3, none⟩ (.int .i64 (steps : Int))).setCell ⟨w.heap.size, 4, none⟩ (.int .i64 (err : Int))).setCell ⟨w.heap.size, 5, none⟩ (.int .u64 (val : Int))).setCell ⟨w.heap.size, 6, none⟩ (.slice lao2 list.length lcap2)).setCell ⟨w.heap.size, 7, none⟩ (.slice kao2 keyp.length kcap2)) w.heap.size (evVs ⟨i, inv, 0, steps, ⟨err, val, list⟩, keyp⟩ (.slice lao2 list.length lcap2) (.slice kao2 keyp.length kcap2)) ∧
      ListAt (((((((((w4.setCell ⟨w.heap.size + 1, 7, none⟩ (.slice kao2 keyp.length kcap2)).setCell ⟨w.heap.size, 0, none⟩ (.int .i64 (i : Int))).setCell ⟨w.heap.size, 1, none⟩ (.int .i64 (inv : Int))).setCell ⟨w.heap.size, 2, none⟩ (.int .i64 0)).setCell ⟨w.heap.size, 3, none⟩ (.int .i64 (steps : Int))).setCell ⟨w.heap.size, 4, none⟩ (.int .i64 (err : Int))).setCell ⟨w.heap.size, 5, none⟩ (.int .u64 (val : Int))).setCell ⟨w.heap.size, 6, none⟩ (.slice lao2 list.length lcap2)).setCell ⟨w.heap.size, 7, none⟩ (.slice kao2 keyp.length kcap2)) 37 mkU (fun b => w.heap.size ≤ b) (.slice lao2 list.length lcap2) list ∧ ListAt (((((((((w4.setCell ⟨w.heap.size + 1, 7, none⟩ (.slice kao2 keyp.length kcap2)).setCell ⟨w.heap.size, 0, none⟩ (.int .i64 (i : Int))).setCell ⟨w.heap.size, 1, none⟩ (.int .i64 (inv : Int))).setCell ⟨w.heap.size, 2, none⟩ (.int .i64 0)).setCell ⟨w.heap.size, 3, none⟩ (.int .i64 (steps : Int))).setCell ⟨w.heap.size, 4, none⟩ (.int .i64 (err : Int))).setCell ⟨w.heap.size, 5, none⟩ (.int .u64 (val : Int))).setCell ⟨w.heap.size, 6, none⟩ (.slice lao2 list.length lcap2)).setCell ⟨w.heap.size, 7, none⟩ (.slice kao2 keyp.length kcap2)) 3 mkI (fun b => w.heap.size ≤ b) (.slice kao2 keyp.length kcap2) keyp ∧ Below w.heap.size w (((((((((w4.setCell ⟨w.heap.size + 1, 7, none⟩ (.slice kao2 keyp.length kcap2)).setCell ⟨w.heap.size, 0, none⟩ (.int .i64 (i : Int))).setCell ⟨w.heap.size, 1, none⟩ (.int .i64 (inv : Int))).setCell ⟨w.heap.size, 2, none⟩ (.int .i64 0)).setCell ⟨w.heap.size, 3, none⟩ (.int .i64 (steps : Int))).setCell ⟨w.heap.size, 4, none⟩ (.int .i64 (err : Int))).setCell ⟨w.heap.size, 5, none⟩ (.int .u64 (val : Int))).setCell ⟨w.heap.size, 6, none⟩ (.slice lao2 list.length lcap2)).setCell ⟨w.heap.size, 7, none⟩ (.slice kao2 keyp.length kcap2))) := Lib.hid (by
    have far : ∀ b, b ≠ w.heap.size → b ≠ w.heap.size + 1 → (((((((((w4.setCell ⟨w.heap.size + 1, 7, none⟩ (.slice kao2 keyp.length kcap2)).setCell ⟨w.heap.size, 0, none⟩ (.int .i64 (i : Int))).setCell ⟨w.heap.size, 1, none⟩ (.int .i64 (inv : Int))).setCell ⟨w.heap.size, 2, none⟩ (.int .i64 0)).setCell ⟨w.heap.size, 3, none⟩ (.int .i64 (steps : Int))).setCell ⟨w.heap.size, 4, none⟩ (.int .i64 (err : Int))).setCell ⟨w.heap.size, 5, none⟩ (.int .u64 (val : Int))).setCell ⟨w.heap.size, 6, none⟩ (.slice lao2 list.length lcap2)).setCell ⟨w.heap.size, 7, none⟩ (.slice kao2 keyp.length kcap2)).heap[b]? = w4.heap[b]? := fun b h1 h2 => by
      rw [far_cell h1, far_cell h1, far_cell h1, far_cell h1, far_cell h1, far_cell h1, far_cell h1, far_cell h1, far_cell h2]
    refine ⟨((((((((hZ4.other (a := ⟨w.heap.size + 1, 7, none⟩) n01 _).put 0 _).put 1 _).put 2 _).put 3 _).put 4 _).put 5 _).put 6 _).put 7 _, hLV4.keep (fun b ht hb => ⟨far b (by omega) (by omega), by omega⟩), hkv2.keep (fun b ht hb => ⟨far b (by omega) (by omega), by omega⟩), ?_⟩
    exact (((((((((HB3.out.trans (hb4.mono (by omega))).setCell (show w.heap.size ≤ (⟨w.heap.size + 1, 7, none⟩ : Addr).block by show w.heap.size ≤ w.heap.size + 1; omega) _).setCell (Nat.le_refl _) _).setCell (Nat.le_refl _) _).setCell (Nat.le_refl _) _).setCell (Nat.le_refl _) _).setCell (Nat.le_refl _) _).setCell (Nat.le_refl _) _).setCell (Nat.le_refl _) _).setCell (Nat.le_refl _) _)
  clear hkv2 hLV4 hb4 hZ4 hV4 HB3 HZ3 HV3 HLV3
  go_wp2
  generalize ((((((((w4.setCell ⟨w.heap.size + 1, 7, none⟩ (.slice kao2 keyp.length kcap2)).setCell ⟨w.heap.size, 0, none⟩ (.int .i64 (i : Int))).setCell ⟨w.heap.size, 1, none⟩ (.int .i64 (inv : Int))).setCell ⟨w.heap.size, 2, none⟩ (.int .i64 0)).setCell ⟨w.heap.size, 3, none⟩ (.int .i64 (steps : Int))).setCell ⟨w.heap.size, 4, none⟩ (.int .i64 (err : Int))).setCell ⟨w.heap.size, 5, none⟩ (.int .u64 (val : Int))).setCell ⟨w.heap.size, 6, none⟩ (.slice lao2 list.length lcap2)).setCell ⟨w.heap.size, 7, none⟩ (.slice kao2 keyp.length kcap2) = W6 at HX ⊢
  have q0 := HX.out.1.cell (i := 0) rfl
  have q1 := HX.out.1.cell (i := 1) rfl
  have q2 := HX.out.1.cell (i := 2) rfl
  have q3 := HX.out.1.cell (i := 3) rfl
  have q4 := HX.out.1.cell (i := 4) rfl
  have q5 := HX.out.1.cell (i := 5) rfl
  have q6 := HX.out.1.cell (i := 6) rfl
  have q7 := HX.out.1.cell (i := 7) rfl
  exact bodyPost_ret (v := .agg (evVs ⟨i, inv, 0, steps, ⟨err, val, list⟩, keyp⟩ (.slice lao2 list.length lcap2) (.slice kao2 keyp.length kcap2)).toArray) (by simp [results, Try.results57, go_sem, q0, q1, q2, q3, q4, q5, q6, q7, evVs]) rfl ⟨_, _, rfl, HX.out.2.1, HX.out.2.2.1, HX.out.2.2.2⟩

set_option maxRecDepth 20000 in
set_option maxHeartbeats 2000000 in
theorem report_done (g i inv resp steps err val : Nat) (lv kv opv : Value) (list key : List Nat) (pl pk : Nat → Prop) (w : World) (hrow : RowBlk 148 w g (invVs i inv resp steps err val lv kv opv)) (hl : ListAt w 37 mkU pl lv list) (hk : ListAt w 3 mkI pk kv key)
    (hresp : ¬ resp = 0) :
    Calls Try.prog 57 #[.pointer (some ⟨g, 0, none⟩)] w (RepOne ⟨i, inv, resp, steps, ⟨err, val, list⟩, key⟩ w) := by
  obtain ⟨lao, lcap, rfl⟩ := hl.isSlice
  obtain ⟨kao, kcap, rfl⟩ := hk.isSlice
  have c0 : w.cell? ⟨g, 0, none⟩ = some (.int .i64 (i : Int)) := hrow.cell rfl
  have c1 : w.cell? ⟨g, 1, none⟩ = some (.int .i64 (inv : Int)) := hrow.cell rfl
  have c2 : w.cell? ⟨g, 2, none⟩ = some (.int .i64 (resp : Int)) := hrow.cell rfl
  have c3 : w.cell? ⟨g, 3, none⟩ = some (.int .i64 (steps : Int)) := hrow.cell rfl
  have c4 : w.cell? ⟨g, 4, none⟩ = some (.int .i64 (err : Int)) := hrow.cell rfl
  have c5 : w.cell? ⟨g, 5, none⟩ = some (.int .u64 (val : Int)) := hrow.cell rfl
  have c6 : w.cell? ⟨g, 6, none⟩ = some (.slice lao list.length lcap) := hrow.cell rfl
  have c7 : w.cell? ⟨g, 7, none⟩ = some (.slice kao key.length kcap) := hrow.cell rfl
  have HROW := Lib.hid hrow
  have HL := Lib.hid hl
  have HK := Lib.hid hk
  have hglt := hrow.lt
  clear hrow hl hk
  go_enter Try.func57, Try.ntmps57
  go_wp2_with fail
  have HB2 : Hid (Below w.heap.size w ((w.alloc (.cells #[.int .i64 0, .int .i64 0, .int .i64 0, .int .i64 0, .int .i64 0, .int .u64 0, .slice none 0 0, .slice none 0 0] 41)).alloc (.cells #[.int .i64 (i : Int), .int .i64 (inv : Int), .int .i64 (resp : Int), .int .i64 (steps : Int), .int .i64 (err : Int), .int .u64 (val : Int), .slice lao list.length lcap, .slice kao key.length kcap] 41))) := Lib.hid (((Below.refl _ _).alloc (Nat.le_refl _) _).alloc (by simp) _)
  have HZ2 : Hid (RowBlk 41 ((w.alloc (.cells #[.int .i64 0, .int .i64 0, .int .i64 0, .int .i64 0, .int .i64 0, .int .u64 0, .slice none 0 0, .slice none 0 0] 41)).alloc (.cells #[.int .i64 (i : Int), .int .i64 (inv : Int), .int .i64 (resp : Int), .int .i64 (steps : Int), .int .i64 (err : Int), .int .u64 (val : Int), .slice lao list.length lcap, .slice kao key.length kcap] 41)) w.heap.size [.int .i64 0, .int .i64 0, .int .i64 0, .int .i64 0, .int .i64 0, .int .u64 0, .slice none 0 0, .slice none 0 0]) := Lib.hid ((RowBlk.new _ _ _).alloc _)
  have HV2 : Hid (RowBlk 41 ((w.alloc (.cells #[.int .i64 0, .int .i64 0, .int .i64 0, .int .i64 0, .int .i64 0, .int .u64 0, .slice none 0 0, .slice none 0 0] 41)).alloc (.cells #[.int .i64 (i : Int), .int .i64 (inv : Int), .int .i64 (resp : Int), .int .i64 (steps : Int), .int .i64 (err : Int), .int .u64 (val : Int), .slice lao list.length lcap, .slice kao key.length kcap] 41)) (w.heap.size + 1) [.int .i64 (i : Int), .int .i64 (inv : Int), .int .i64 (resp : Int), .int .i64 (steps : Int), .int .i64 (err : Int), .int .u64 (val : Int), .slice lao list.length lcap, .slice kao key.length kcap]) := Lib.hid (by
    have h := RowBlk.new (w.alloc (.cells #[.int .i64 0, .int .i64 0, .int .i64 0, .int .i64 0, .int .i64 0, .int .u64 0, .slice none 0 0, .slice none 0 0] 41)) [.int .i64 (i : Int), .int .i64 (inv : Int), .int .i64 (resp : Int), .int .i64 (steps : Int), .int .i64 (err : Int), .int .u64 (val : Int), .slice lao list.length lcap, .slice kao key.length kcap] 41
    have e : (w.alloc (.cells #[.int .i64 0, .int .i64 0, .int .i64 0, .int .i64 0, .int .i64 0, .int .u64 0, .slice none 0 0, .slice none 0 0] 41)).heap.size = w.heap.size + 1 := by simp
    rw [e] at h
    exact h)
  have hs2 : ((w.alloc (.cells #[.int .i64 0, .int .i64 0, .int .i64 0, .int .i64 0, .int .i64 0, .int .u64 0, .slice none 0 0, .slice none 0 0] 41)).alloc (.cells #[.int .i64 (i : Int), .int .i64 (inv : Int), .int .i64 (resp : Int), .int .i64 (steps : Int), .int .i64 (err : Int), .int .u64 (val : Int), .slice lao list.length lcap, .slice kao key.length kcap] 41)).heap.size = w.heap.size + 1 + 1 := by simp
  clear c0 c1 c2 c3 c4 c5 c6 c7
  generalize (w.alloc (.cells #[.int .i64 0, .int .i64 0, .int .i64 0, .int .i64 0, .int .i64 0, .int .u64 0, .slice none 0 0, .slice none 0 0] 41)).alloc (.cells #[.int .i64 (i : Int), .int .i64 (inv : Int), .int .i64 (resp : Int), .int .i64 (steps : Int), .int .i64 (err : Int), .int .u64 (val : Int), .slice lao list.length lcap, .slice kao key.length kcap] 41) = W2 at HB2 HZ2 HV2 hs2 ⊢
  refine (clone_u64s _ _ list W2 (HL.out.keep (q := fun _ => True) (fun b ht _ => ⟨HB2.out.block b ht.lt, trivial⟩))).mono ?_
  rintro e w3 ⟨lv2, rfl, hlv2, hb3⟩
  obtain ⟨lao2, lcap2, rfl⟩ := hlv2.isSlice
  have hz3 := HZ2.out.same (hb3.block _ (by omega))
  have hv3 := HV2.out.same (hb3.block _ (by omega))
  have z3 := hb3.size
  have d6 : w3.cell? ⟨w.heap.size + 1, 6, none⟩ = some (.slice lao list.length lcap) := hv3.cell rfl
  have f6 : w3.frozen? ⟨w.heap.size + 1, 6, none⟩ = false := hv3.free
  have d2 : w3.cell? ⟨w.heap.size + 1, 2, none⟩ = some (.int .i64 (resp : Int)) := hv3.cell rfl
  have d7 : w3.cell? ⟨w.heap.size + 1, 7, none⟩ = some (.slice kao key.length kcap) := hv3.cell rfl
  have n01 : w.heap.size ≠ w.heap.size + 1 := by omega
  have HB3 : Hid (Below w.heap.size w (w3.setCell ⟨w.heap.size + 1, 6, none⟩ (.slice lao2 list.length lcap2))) := Lib.hid ((HB2.out.trans (hb3.mono (by omega))).setCell (show w.heap.size ≤ (⟨w.heap.size + 1, 6, none⟩ : Addr).block by show w.heap.size ≤ w.heap.size + 1; omega) _)
  have HZ3 := Lib.hid (hz3.other (a := ⟨w.heap.size + 1, 6, none⟩) n01 (.slice lao2 list.length lcap2))
  have HV3 : Hid (RowBlk 41 (w3.setCell ⟨w.heap.size + 1, 6, none⟩ (.slice lao2 list.length lcap2)) (w.heap.size + 1) [.int .i64 (i : Int), .int .i64 (inv : Int), .int .i64 (resp : Int), .int .i64 (steps : Int), .int .i64 (err : Int), .int .u64 (val : Int), .slice lao2 list.length lcap2, .slice kao key.length kcap]) := Lib.hid (hv3.put 6 _)
  have HLV3 : Hid (ListAt (w3.setCell ⟨w.heap.size + 1, 6, none⟩ (.slice lao2 list.length lcap2)) 37 mkU (fun b => W2.heap.size ≤ b) (.slice lao2 list.length lcap2) list) := Lib.hid (hlv2.keep (fun b ht hb => ⟨Below.heap_setCell _ _ _ _ (by show b ≠ w.heap.size + 1; omega), hb⟩))
  have hs3 : W2.heap.size ≤ (w3.setCell ⟨w.heap.size + 1, 6, none⟩ (.slice lao2 list.length lcap2)).heap.size := by simp [World.setCell]; exact z3
  clear HB2 HZ2 HV2 hb3 hz3 hv3 hlv2
  go_wp2_with fail
  generalize w3.setCell ⟨w.heap.size + 1, 6, none⟩ (.slice lao2 list.length lcap2) = W3 at HB3 HZ3 HV3 HLV3 hs3 ⊢
  refine (clone_ints _ _ key W3 (HK.out.keep (q := fun _ => True) (fun b ht _ => ⟨HB3.out.block b ht.lt, trivial⟩))).mono ?_
  rintro e w4 ⟨kv2, rfl, hkv2, hb4⟩
  obtain ⟨kao2, kcap2, rfl⟩ := hkv2.isSlice
  have hZ4 := HZ3.out.same (hb4.block _ (by omega))
  have hV4 := HV3.out.same (hb4.block _ (by omega))
  have hLV4 : ListAt w4 37 mkU (fun b => W2.heap.size ≤ b) (.slice lao2 list.length lcap2) list := HLV3.out.keep (fun b ht hb => ⟨hb4.block b ht.lt, hb⟩)
  have e0 := hV4.cell (i := 0) rfl
  have e1 := hV4.cell (i := 1) rfl
  have e2 := hV4.cell (i := 2) rfl
  have e3 := hV4.cell (i := 3) rfl
  have e4 := hV4.cell (i := 4) rfl
  have e5 := hV4.cell (i := 5) rfl
  have e6 := hV4.cell (i := 6) rfl
  have e7 := hV4.cell (i := 7) rfl
  have z0 := hZ4.cell (i := 0) rfl
  have z1 := hZ4.cell (i := 1) rfl
  have z2 := hZ4.cell (i := 2) rfl
  have z3 := hZ4.cell (i := 3) rfl
  have z4 := hZ4.cell (i := 4) rfl
  have z5 := hZ4.cell (i := 5) rfl
  have z6 := hZ4.cell (i := 6) rfl
  have z7 := hZ4.cell (i := 7) rfl
  have fz : ∀ k, w4.frozen? ⟨w.heap.size, k, none⟩ = false := fun k => hZ4.free
  have fv : ∀ k, w4.frozen? ⟨w.heap.size + 1, k, none⟩ = false := fun k => hV4.free
  have HX : Hid (RowBlk 41 (((((((((w4.setCell ⟨w.heap.size + 1, 7, none⟩ (.slice kao2 key.length kcap2)).setCell ⟨w.heap.size, 0, none⟩ (.int .i64 (i : Int))).setCell ⟨w.heap.size, 1, none⟩ (.int .i64 (inv : Int))).setCell ⟨w.heap.size, 2, none⟩ (.int .i64 (resp : Int))).setCell ⟨w.heap.size, 3, none⟩ (.int .i64 (steps : Int))).setCell ⟨w.heap.size, 4, none⟩ (.int .i64 (err : Int))).setCell ⟨w.heap.size, 5, none⟩ (.int .u64 (val : Int))).setCell ⟨w.heap.size, 6, none⟩ (.slice lao2 list.length lcap2)).setCell ⟨w.heap.size, 7, none⟩ (.slice kao2 key.length kcap2)) w.heap.size (evVs ⟨i, inv, resp, steps, ⟨err, val, list⟩, key⟩ (.slice lao2 list.length lcap2) (.slice kao2 key.length kcap2)) ∧
      ListAt (((((((((w4.setCell ⟨w.heap.size + 1, 7, none⟩ (.slice kao2 key.length kcap2)).setCell ⟨w.heap.size, 0, none⟩ (.int .i64 (i : Int))).setCell ⟨w.heap.size, 1, none⟩ (.int .i64 (inv : Int))).setCell ⟨w.heap.size, 2, none⟩ (.int .i64 (resp : Int))).setCell ⟨w.heap.size, 3, none⟩ (.int .i64 (steps : Int))).setCell ⟨w.heap.size, 4, none⟩ (.int .i64 (err : Int))).setCell ⟨w.heap.size, 5, none⟩ (.int .u64 (val : Int))).setCell ⟨w.heap.size, 6, none⟩ (.slice lao2 list.length lcap2)).setCell ⟨w.heap.size, 7, none⟩ (.slice kao2 key.length kcap2)) 37 mkU (fun b => w.heap.size ≤ b) (.slice lao2 list.length lcap2) list ∧ ListAt (((((((((w4.setCell ⟨w.heap.size + 1, 7, none⟩ (.slice kao2 key.length kcap2)).setCell ⟨w.heap.size, 0, none⟩ (.int .i64 (i : Int))).setCell ⟨w.heap.size, 1, none⟩ (.int .i64 (inv : Int))).setCell ⟨w.heap.size, 2, none⟩ (.int .i64 (resp : Int))).setCell ⟨w.heap.size, 3, none⟩ (.int .i64 (steps : Int))).setCell ⟨w.heap.size, 4, none⟩ (.int .i64 (err : Int))).setCell ⟨w.heap.size, 5, none⟩ (.int .u64 (val : Int))).setCell ⟨w.heap.size, 6, none⟩ (.slice lao2 list.length lcap2)).setCell ⟨w.heap.size, 7, none⟩ (.slice kao2 key.length kcap2)) 3 mkI (fun b => w.heap.size ≤ b) (.slice kao2 key.length kcap2) key ∧ Below w.heap.size w (((((((((w4.setCell ⟨w.heap.size + 1, 7, none⟩ (.slice kao2 key.length kcap2)).setCell ⟨w.heap.size, 0, none⟩ (.int .i64 (i : Int))).setCell ⟨w.heap.size, 1, none⟩ (.int .i64 (inv : Int))).setCell ⟨w.heap.size, 2, none⟩ (.int .i64 (resp : Int))).setCell ⟨w.heap.size, 3, none⟩ (.int .i64 (steps : Int))).setCell ⟨w.heap.size, 4, none⟩ (.int .i64 (err : Int))).setCell ⟨w.heap.size, 5, none⟩ (.int .u64 (val : Int))).setCell ⟨w.heap.size, 6, none⟩ (.slice lao2 list.length lcap2)).setCell ⟨w.heap.size, 7, none⟩ (.slice kao2 key.length kcap2))) := Lib.hid (by
    have far : ∀ b, b ≠ w.heap.size → b ≠ w.heap.size + 1 → (((((((((w4.setCell ⟨w.heap.size + 1, 7, none⟩ (.slice kao2 key.length kcap2)).setCell ⟨w.heap.size, 0, none⟩ (.int .i64 (i : Int))).setCell ⟨w.heap.size, 1, none⟩ (.int .i64 (inv : Int))).setCell ⟨w.heap.size, 2, none⟩ (.int .i64 (resp : Int))).setCell ⟨w.heap.size, 3, none⟩ (.int .i64 (steps : Int))).setCell ⟨w.heap.size, 4, none⟩ (.int .i64 (err : Int))).setCell ⟨w.heap.size, 5, none⟩ (.int .u64 (val : Int))).setCell ⟨w.heap.size, 6, none⟩ (.slice lao2 list.length lcap2)).setCell ⟨w.heap.size, 7, none⟩ (.slice kao2 key.length kcap2)).heap[b]? = w4.heap[b]? := fun b h1 h2 => by
      rw [far_cell h1, far_cell h1, far_cell h1, far_cell h1, far_cell h1, far_cell h1, far_cell h1, far_cell h1, far_cell h2]
    refine ⟨((((((((hZ4.other (a := ⟨w.heap.size + 1, 7, none⟩) n01 _).put 0 _).put 1 _).put 2 _).put 3 _).put 4 _).put 5 _).put 6 _).put 7 _, hLV4.keep (fun b ht hb => ⟨far b (by omega) (by omega), by omega⟩), hkv2.keep (fun b ht hb => ⟨far b (by omega) (by omega), by omega⟩), ?_⟩
    exact (((((((((HB3.out.trans (hb4.mono (by omega))).setCell (show w.heap.size ≤ (⟨w.heap.size + 1, 7, none⟩ : Addr).block by show w.heap.size ≤ w.heap.size + 1; omega) _).setCell (Nat.le_refl _) _).setCell (Nat.le_refl _) _).setCell (Nat.le_refl _) _).setCell (Nat.le_refl _) _).setCell (Nat.le_refl _) _).setCell (Nat.le_refl _) _).setCell (Nat.le_refl _) _).setCell (Nat.le_refl _) _)
  clear hkv2 hLV4 hb4 hZ4 hV4 HB3 HZ3 HV3 HLV3
  go_wp2
  generalize ((((((((w4.setCell ⟨w.heap.size + 1, 7, none⟩ (.slice kao2 key.length kcap2)).setCell ⟨w.heap.size, 0, none⟩ (.int .i64 (i : Int))).setCell ⟨w.heap.size, 1, none⟩ (.int .i64 (inv : Int))).setCell ⟨w.heap.size, 2, none⟩ (.int .i64 (resp : Int))).setCell ⟨w.heap.size, 3, none⟩ (.int .i64 (steps : Int))).setCell ⟨w.heap.size, 4, none⟩ (.int .i64 (err : Int))).setCell ⟨w.heap.size, 5, none⟩ (.int .u64 (val : Int))).setCell ⟨w.heap.size, 6, none⟩ (.slice lao2 list.length lcap2)).setCell ⟨w.heap.size, 7, none⟩ (.slice kao2 key.length kcap2) = W6 at HX ⊢
  have q0 := HX.out.1.cell (i := 0) rfl
  have q1 := HX.out.1.cell (i := 1) rfl
  have q2 := HX.out.1.cell (i := 2) rfl
  have q3 := HX.out.1.cell (i := 3) rfl
  have q4 := HX.out.1.cell (i := 4) rfl
  have q5 := HX.out.1.cell (i := 5) rfl
  have q6 := HX.out.1.cell (i := 6) rfl
  have q7 := HX.out.1.cell (i := 7) rfl
  exact bodyPost_ret (v := .agg (evVs ⟨i, inv, resp, steps, ⟨err, val, list⟩, key⟩ (.slice lao2 list.length lcap2) (.slice kao2 key.length kcap2)).toArray) (by simp [results, Try.results57, go_sem, q0, q1, q2, q3, q4, q5, q6, q7, evVs]) rfl ⟨_, _, rfl, HX.out.2.1, HX.out.2.2.1, HX.out.2.2.2⟩
end
section
open Go.RowKit
/-- append of one element of several cells, where it must be known what stays -/
theorem append_atk {P : Program} {w : World} {ops : Array Oper} {rest : List Oper} {o : Oper} {a : Act} {Q : Exit → Act → World → Prop} (hgd : o.guard = none) (s x : Operand) (t : TypeId)
    (ho : o.op = .call { callee := .builtin .append, args := #[s, x], argTypes := #[t, t] })
    (base : Nat) (e : TypeId) (i : TypeInfo) (z : Value) (size bytes : Nat) (ht : P.underlying t = some (.slice e)) (hi : P.info? e = some i) (hz : i.zero = some z)
    (hsize : i.size = size) (hby : i.bytes = bytes) (hzs : z.cells.size = size) (hsz : 0 < size) (hbs : bytes ≤ 4096)
    (v : Value) (n : Nat) (xs : List Value) (hs : a.eval s = v) (hown : w.ownsRow base e size v n xs)
    (us : List Value) (g0 : Nat) (hg0 : g0 = w.heap.size) (hx : a.eval x = .slice (some ⟨g0, 0, none⟩) 1 1) (hl : us.length = size) (h1 : us.all (fun u => u.oneCell') = true)
    (hn : n ≤ 4294967296) (hbase : base ≤ w.heap.size)
    (h : ∀ v' w', w'.ownsRow base e size v' (n + 1) (xs ++ us) → (w.alloc (.cells us.toArray e)).grownBy w' v.ownBlock → wpList P ops Q rest (a.put o.dst v') w') :
    wpList P ops Q (o :: rest) a (w.alloc (.cells us.toArray e)) := by
  subst hg0
  refine wpList_append_own_at _ hgd s x t ho base e i z size bytes ht hi hz hsize hby hzs hsz v n xs hs (hown.alloc _) ⟨w.heap.size, 0, none⟩ 1 1 us hx (by rw [hl, Nat.one_mul]) ?_ (by simpa using h1) (by unfold maxLen; omega) ?_ (by simp; omega) ?_
  · intro j y hj
    rw [addr_add _ j w.heap.size 0 rfl, World.cell?_alloc_at _ _ _ _ rfl]
    simpa using hj
  · have : (n + 1) * bytes ≤ 4294967297 * 4096 := Nat.mul_le_mul (by omega) hbs
    omega
  · intro v' w' h2 h3 _ _
    exact h v' w' h2 h3

theorem infoEv : (Try.prog.info? 41).map (fun i => (i.zero.map (fun z => z.cells.size), i.size, i.bytes)) = some (some 8, 8, 96) := by kernel_rfl


abbrev EvK := EvR × Value × Value
def evCells (y : EvK) : List Value := evVs y.1 y.2.1 y.2.2
/-- events of a report, as they lie -/
def EvsG (B : Nat) (w : World) (v : Value) (evs : List EvR) : Prop :=
  ∃ ek : List EvK, w.ownsRow B 41 8 v evs.length (ek.flatMap evCells) ∧ ek.map (·.1) = evs ∧ ∀ y ∈ ek, ListAt w 37 mkU (fun b => B ≤ b) y.2.1 y.1.ans.list ∧ ListAt w 3 mkI (fun b => B ≤ b) y.2.2 y.1.key
theorem EvsG.snoc {B : Nat} {w1 w2 : World} {v v1 : Value} {evs : List EvR} {x : EvR} {lv kv : Value} {n : Nat} {ek : List EvK} (hn : n = evs.length) (ho : w1.ownsRow B 41 8 v n (ek.flatMap evCells)) (hm : ek.map (·.1) = evs)
    (hk : ∀ y ∈ ek, ListAt w1 37 mkU (fun b => B ≤ b) y.2.1 y.1.ans.list ∧ ListAt w1 3 mkI (fun b => B ≤ b) y.2.2 y.1.key)
    (hl : ListAt w1 37 mkU (fun b => B ≤ b) lv x.ans.list) (hx : ListAt w1 3 mkI (fun b => B ≤ b) kv x.key) {o : Obj} (hg : (w1.alloc o).grownBy w2 v.ownBlock) (h2 : w2.ownsRow B 41 8 v1 (n + 1) (ek.flatMap evCells ++ evVs x lv kv)) : EvsG B w2 v1 (evs ++ [x]) := by
  have keep : ∀ (t : TypeId) (mk : Nat → Value) (v' : Value) (l : List Nat), t ≠ 41 → ListAt w1 t mk (fun b => B ≤ b) v' l → ListAt w2 t mk (fun b => B ≤ b) v' l := fun t mk v' l ht h => h.keep (fun b hb hB => ⟨(hg.block b (by have := hb.lt; simp; omega) (fun e => BlkT.ne_owns hb ho ht e.symm)).trans (Below.heap_alloc _ _ _ hb.lt), hB⟩)
  refine ⟨ek ++ [(x, lv, kv)], ?_, by simp [hm], fun y hy => ?_⟩
  · rw [List.length_append, List.flatMap_append, ← hn]
    simpa [evCells] using h2
  · rcases List.mem_append.1 hy with hy | hy
    · exact ⟨keep _ _ _ _ (by decide) (hk y hy).1, keep _ _ _ _ (by decide) (hk y hy).2⟩
    · simp at hy; subst hy; exact ⟨keep _ _ _ _ (by decide) hl, keep _ _ _ _ (by decide) hx⟩
theorem EvsG.below {B : Nat} {w w' : World} {v : Value} {evs : List EvR} (h : EvsG B w v evs) (hb : Below w.heap.size w w') : EvsG B w' v evs := by
  obtain ⟨ek, h1, h2, h3⟩ := h
  exact ⟨ek, owns_below h1 hb, h2, fun y hy => ⟨(h3 y hy).1.keep (fun b ht hB => ⟨hb.block b ht.lt, hB⟩), (h3 y hy).2.keep (fun b ht hB => ⟨hb.block b ht.lt, hB⟩)⟩⟩
theorem EvsG.mono {B B' : Nat} {w : World} {v : Value} {evs : List EvR} (h : EvsG B w v evs) (hB : B' ≤ B) : EvsG B' w v evs := by
  obtain ⟨ek, h1, h2, h3⟩ := h
  exact ⟨ek, owns_mono h1 hB, h2, fun y hy => ⟨(h3 y hy).1.keep (fun b _ h => ⟨rfl, Nat.le_trans hB h⟩), (h3 y hy).2.keep (fun b _ h => ⟨rfl, Nat.le_trans hB h⟩)⟩⟩
theorem EvsG.other {B : Nat} {w w' : World} {v : Value} {evs : List EvR} (h : EvsG B w v evs) {g : Nat} {t : TypeId} {vs : List Value} (hr : RowBlk t w g vs) (h1 : t ≠ 41) (h2 : t ≠ 3) (h3 : t ≠ 37) (hb : ∀ k, k < w.heap.size → k ≠ g → w'.heap[k]? = w.heap[k]?) : EvsG B w' v evs := by
  obtain ⟨ek, ho, hm, hk⟩ := h
  refine ⟨ek, owns_sameB ho (fun k hk => hb k (ho.lt k hk).2 (fun e => row_owns_ne hr ho h1 (e ▸ hk))), hm, fun y hy => ⟨(hk y hy).1.keep (fun b ht hB => ⟨hb b ht.lt (BlkT.ne ht (BlkT.of_row hr) h3.symm), hB⟩), (hk y hy).2.keep (fun b ht hB => ⟨hb b ht.lt (BlkT.ne ht (BlkT.of_row hr) h2.symm), hB⟩)⟩⟩

structure RepR where
  evs : List EvR
  ws : List Nat
  cn : Cn
  ticks : Nat
  idle : Nat
def repVs (ev : Value) (gw : Nat) (st : RepR) : List Value := [ev, .slice (some ⟨gw, 0, none⟩) st.ws.length st.ws.length, .int .i64 (st.cn.r : Int), .int .i64 (st.cn.w : Int), .int .i64 (st.cn.s : Int), .int .i64 (st.cn.a : Int), .int .i64 (st.cn.f : Int), .int .i64 (st.ticks : Int), .int .i64 (st.idle : Int)]
/-- a report, as it lies -/
def RepG (B : Nat) (w : World) (v : Value) (st : RepR) : Prop :=
  ∃ ev gw, v = .agg (repVs ev gw st).toArray ∧ EvsG B w ev st.evs ∧ RowBlk 37 w gw (u64s st.ws) ∧ B ≤ gw
theorem RepG.below {B : Nat} {w w' : World} {v : Value} {st : RepR} (h : RepG B w v st) (hb : Below w.heap.size w w') : RepG B w' v st := by
  obtain ⟨ev, gw, h1, h2, h3, h4⟩ := h
  exact ⟨ev, gw, h1, h2.below hb, h3.same (hb.block _ h3.lt), h4⟩
section
variable {M : Mach}
def evR (s : M.S) (v : Ev M) : EvR := ⟨v.i, v.inv, v.resp, v.steps, v.ans, if v.resp = 0 then keyQ s v.q else v.key⟩
def repOf (st : St M) : RepR := ⟨st.evs.map (evR st.s), st.ws, st.cn, st.ticks, st.idle⟩

/-- the loom's own part, for a report -/
def RPre (L bm bw b0 : Nat) (lv : List Value) (st : RepR) (B : Nat) (ev : Value) (w : World) : Prop :=
  RowBlk 104 w L lv ∧ MemIs 139 w bm bw st.ws st.cn ∧ EvsG B w ev st.evs ∧ ∃ zs, RowBlk 32 w b0 zs ∧ zs.length = 9 ∧ B ≤ b0
theorem RPre.below {L bm bw b0 : Nat} {lv : List Value} {st : RepR} {B : Nat} {ev : Value} {w w' : World} (h : RPre L bm bw b0 lv st B ev w) (hb : Below w.heap.size w w') : RPre L bm bw b0 lv st B ev w' := by
  obtain ⟨h1, h2, h3, zs, h4, h5⟩ := h
  exact ⟨h1.same (hb.block _ h1.lt), h2.of_blocks (hb.block _ h2.lt1) (hb.block _ h2.lt2), h3.below hb, zs, h4.same (hb.block _ h4.lt), h5⟩
theorem RPre.drew {L bm bw b0 : Nat} {lv : List Value} {st : RepR} {B : Nat} {ev : Value} {w : World} (h : RPre L bm bw b0 lv st B ev w) : RPre L bm bw b0 lv st B ev w.drew := h

theorem cell_far {w : World} {b c o k : Nat} {v : Value} (h : c ≠ b) : (w.setCell ⟨b, o, none⟩ v).cell? ⟨c, k, none⟩ = w.cell? ⟨c, k, none⟩ := by
  unfold World.cell?; rw [Below.heap_setCell _ _ _ _ h]
theorem set9 {zs : List Value} (h : zs.length = 9) (a0 a1 a2 a3 a4 a5 a6 a7 a8 : Value) : ((((((((zs.set 0 a0).set 1 a1).set 2 a2).set 3 a3).set 4 a4).set 5 a5).set 6 a6).set 7 a7).set 8 a8 = [a0, a1, a2, a3, a4, a5, a6, a7, a8] := by
  match zs, h with
  | [_, _, _, _, _, _, _, _, _], _ => rfl
theorem heap_far {w : World} {b k o : Nat} {v : Value} (h : k ≠ b) : (w.setCell ⟨b, o, none⟩ v).heap[k]? = w.heap[k]? := Below.heap_setCell _ _ _ _ h
theorem words_ex (bm bw : Nat) (l : List Nat) (c : Cn) (w : World) (hM : MemIs 139 w bm bw l c) (hn : l.length ≤ 65536) :
    Calls Try.prog 58 #[.pointer (some ⟨bm, 0, none⟩)] w fun e w' => ∃ gw, e = .returned (.slice (some ⟨gw, 0, none⟩) l.length l.length) ∧ RowBlk 37 w' gw (u64s l) ∧ w.heap.size ≤ gw ∧ Below w.heap.size w w' :=
  (words_ok bm bw l c w hM hn).mono fun _ _ ⟨h1, h2, h3⟩ => ⟨_, h1, h2, Nat.le_refl _, h3⟩

set_option maxRecDepth 100000 in
set_option maxHeartbeats 4000000 in
theorem reportG {K : MachRel M} {cs : List CallV} {I : St M → Prop} (hK : MachOk K cs I) (a : LA) (j : Nat) (col : Nat → Nat) (w : World) (st0 : St M) (h : LoomG K cs a j col w st0) (hws0 : st0.ws.length ≤ 65536) :
    Calls Try.prog 38 #[.pointer (some ⟨a.L, 0, none⟩)] w fun e w' => ∃ v, e = .returned v ∧ RepG w.heap.size w' v (repOf st0) ∧ Below w.heap.size w w' := by
  obtain ⟨vb, ps, hL, ho, hpl, hnd, hvb, hR, nc, hcur, hnc⟩ := h.blk
  have hone : ∀ (k : Nat) (x : EvR), (repOf st0).evs[k]? = some x → ∃ g : Nat, ps[k]? = some g ∧ ∀ W, Below w.heap.size w W → Calls Try.prog 57 #[.pointer (some ⟨g, 0, none⟩)] W (RepOne x W) := by
    intro k x hx
    have hx' : (st0.evs.map (evR st0.s))[k]? = some x := hx
    rw [List.getElem?_map] at hx'
    obtain ⟨v, hv, rfl⟩ := Option.map_eq_some_iff.1 hx'
    obtain ⟨g, hg, _, _, lv, kv, opv, hrow, hpend, hlv, hkv⟩ := hR.invs k v hv
    refine ⟨g, hg, fun W hW => ?_⟩
    have hrow' := hrow.same (hW.block _ hrow.lt)
    have hlv' := hlv.keep (w' := W) (q := fun _ => True) (fun b ht _ => ⟨hW.block b ht.lt, trivial⟩)
    have hkv' := hkv.keep (w' := W) (q := fun _ => True) (fun b ht _ => ⟨hW.block b ht.lt, trivial⟩)
    unfold evR
    by_cases hr : v.resp = 0
    · rw [if_pos hr]
      have hop := (hpend hr).2.2.2.2
      rw [hr] at hrow' ⊢
      exact report_zero g v.i v.inv v.steps v.ans.err v.ans.val lv kv opv v.ans.list v.key (keyQ st0.s v.q) _ _ W hrow' hlv' hkv' (fun W2 hW2 => by
        have hbW : Below w.heap.size w W2 := hW.trans (hW2.mono hW.size)
        exact keyOk_any hK W2 st0.s v.q opv (fun b => col b = k + 2) (fun b => col b = 1) (K.obj_keep hR.obj (fun b hb => hbW.block b (h.lays.cT b (by omega)).2.1) (fun _ h => h)) (hop.keep (fun b hb => hbW.block b (h.lays.cT b (by omega)).2.1) (fun _ h => h)))
    · rw [if_neg hr]
      exact report_done g v.i v.inv v.resp v.steps v.ans.err v.ans.val lv kv opv v.ans.list v.key _ _ W hrow' hlv' hkv' hr
  obtain ⟨st, hst⟩ : ∃ st, repOf st0 = st := ⟨_, rfl⟩
  have hel0 : st.evs.length = st0.evs.length := by rw [← hst]; show (st0.evs.map _).length = _; rw [List.length_map]
  have hws : st.ws.length ≤ 65536 := by rw [← hst]; exact hws0
  have hM0 : MemIs 139 w a.bm a.bw st.ws st.cn := by rw [← hst]; exact hR.mem
  have hel : st.evs.length ≤ 65536 := by have := h.evl; have := h.tj; have := h.jl; omega
  rw [hst] at hone ⊢
  have hL0 : RowBlk 104 w a.L (loomVs (.slice a.aoC cs.length a.capC) a.lb a.bm (.slice (some ⟨a.go, 0, none⟩) K.objs.length a.capo) vb a.mc st.ticks st.idle) := by rw [← hst]; exact hL
  rw [← hel0] at ho
  clear hL hR hcur hnc hnd hvb
  obtain ⟨i0, hi, h1⟩ := Option.map_eq_some_iff.1 infoEv
  simp only [Prod.mk.injEq] at h1
  obtain ⟨hz, hsz, hby⟩ := h1
  obtain ⟨z, hz0, hzs⟩ := Option.map_eq_some_iff.1 hz
  obtain ⟨ao, gb, cap, rfl, hao, _, hgb, hgc⟩ := owns_open ho
  have HAO := Lib.hid hao
  have HGC := Lib.hid hgc
  have HGB := Lib.hid hgb
  have HONE := Lib.hid hone
  have HL := Lib.hid hL0
  have HM := Lib.hid hM0
  have l4 : w.cell? ⟨a.L, 4, none⟩ = some (.slice ao st.evs.length cap) := hL0.cell rfl
  have hLlt := hL0.lt
  clear h hL0 hM0 ho hone hao hgc hgb hK hst hpl hel0 hws0
  go_enter Try.func38, Try.ntmps38
  go_wp2_with fail
  have HB0 : Hid (Below w.heap.size w (w.alloc (.cells #[.slice none 0 0, .slice none 0 0, .int .i64 0, .int .i64 0, .int .i64 0, .int .i64 0, .int .i64 0, .int .i64 0, .int .i64 0] 32))) := Lib.hid ((Below.refl _ _).alloc (Nat.le_refl _) _)
  have HZ0 : Hid (RowBlk 32 (w.alloc (.cells #[.slice none 0 0, .slice none 0 0, .int .i64 0, .int .i64 0, .int .i64 0, .int .i64 0, .int .i64 0, .int .i64 0, .int .i64 0] 32)) w.heap.size [.slice none 0 0, .slice none 0 0, .int .i64 0, .int .i64 0, .int .i64 0, .int .i64 0, .int .i64 0, .int .i64 0, .int .i64 0]) := Lib.hid (RowBlk.new _ _ _)
  have hs0 : w.heap.size < (w.alloc (.cells #[.slice none 0 0, .slice none 0 0, .int .i64 0, .int .i64 0, .int .i64 0, .int .i64 0, .int .i64 0, .int .i64 0, .int .i64 0] 32)).heap.size := by simp
  generalize w.alloc (.cells #[.slice none 0 0, .slice none 0 0, .int .i64 0, .int .i64 0, .int .i64 0, .int .i64 0, .int .i64 0, .int .i64 0, .int .i64 0] 32) = w0 at HB0 HZ0 hs0 ⊢
  go_loopw [3, 11] (fun v k wr => ∃ j : Nat, j ≤ st.evs.length ∧ k = .int .i64 j ∧ Hid (EvsG w.heap.size wr v (st.evs.take j)) ∧ Hid (Below w.heap.size w wr) ∧ Hid (RowBlk 32 wr w.heap.size [.slice none 0 0, .slice none 0 0, .int .i64 0, .int .i64 0, .int .i64 0, .int .i64 0, .int .i64 0, .int .i64 0, .int .i64 0])) (fun _ k _ => st.evs.length - (intOf k).toNat)
  case atStart => exact ⟨0, Nat.zero_le _, rfl, Lib.hid ⟨[], World.ownsRow_nil _ _ _ _, rfl, fun y hy => by simp at hy⟩, HB0, HZ0⟩
  case round =>
    obtain ⟨j, hj, rfl, hE, hB, hZ⟩ := hrel
    have hwr := hB.out.size
    by_cases hlt : j < st.evs.length
    · obtain rfl := HAO.out (by omega)
      obtain ⟨x, hx⟩ : ∃ x, st.evs[j]? = some x := ⟨st.evs[j], List.getElem?_eq_getElem (by omega)⟩
      obtain ⟨g, hg, hI⟩ := HONE.out j x hx
      have hc := HGC.out j (ptr g) (by rw [List.getElem?_map, hg]; rfl)
      have hc1 : wr.cell? ⟨gb, j, none⟩ = some (.pointer (some ⟨g, 0, none⟩)) := (hB.out.cell (p := ⟨gb, j, none⟩) (HGB.out (by omega))).trans hc
      have hi0 : (0 : Int) ≤ (j : Int) := Int.natCast_nonneg _
      have hi1 : (j : Int) < (st.evs.length : Int) := by omega
      have HI := Lib.hid (hI wr hB.out)
      have HT := Lib.hid (take_snoc hx)
      have hjl : (st.evs.take j).length = j := by rw [List.length_take]; omega
      have HJL := Lib.hid hjl
      clear hx hg hI hc hjl
      go_wp2_with fail
      refine HI.out.mono ?_
      rintro e w1 ⟨lv, kv, rfl, hlv, hkv, hb1⟩
      obtain ⟨lao, lcap, rfl⟩ := hlv.isSlice
      obtain ⟨kao, kcap, rfl⟩ := hkv.isSlice
      obtain ⟨ek, ho1, hm1, hk1'⟩ := hE.out.below hb1
      rw [HJL.out] at ho1
      have HO1 := Lib.hid ho1
      have HM1 := Lib.hid hm1
      have HK1' := Lib.hid hk1'
      have HLV1 : Hid (ListAt w1 37 mkU (fun b => w.heap.size ≤ b) (.slice lao x.ans.list.length lcap) x.ans.list) := Lib.hid (hlv.keep (fun b _ hb => ⟨rfl, by omega⟩))
      have HKV1 : Hid (ListAt w1 3 mkI (fun b => w.heap.size ≤ b) (.slice kao x.key.length kcap) x.key) := Lib.hid (hkv.keep (fun b _ hb => ⟨rfl, by omega⟩))
      have HB1 := Lib.hid (hB.out.trans (hb1.mono hwr))
      have HZ1 := Lib.hid (hZ.out.same (hb1.block _ hZ.out.lt))
      have hs1 := hb1.size
      have hjb : j ≤ 4294967296 := by omega
      clear ho1 hm1 hk1' hlv hkv hb1 hc1
      rw [show (evVs x (.slice lao x.ans.list.length lcap) (.slice kao x.key.length kcap)).toArray = #[.int .i64 (x.i : Int), .int .i64 (x.inv : Int), .int .i64 (x.resp : Int), .int .i64 (x.steps : Int), .int .i64 (x.ans.err : Int), .int .u64 (x.ans.val : Int), .slice lao x.ans.list.length lcap, .slice kao x.key.length kcap] from rfl]
      go_wp2_with (at_builtin; refine append_atk rfl _ _ 27 rfl w.heap.size 41 i0 z 8 96 Try.underlying27 hi hz0 hsz hby hzs (by decide) (by decide) _ j (ek.flatMap evCells) rfl HO1.out [.int .i64 (x.i : Int), .int .i64 (x.inv : Int), .int .i64 (x.resp : Int), .int .i64 (x.steps : Int), .int .i64 (x.ans.err : Int), .int .u64 (x.ans.val : Int), .slice lao x.ans.list.length lcap, .slice kao x.key.length kcap] w1.heap.size rfl rfl rfl rfl hjb (by omega) ?_)
      intro v2 w2 ho2 hg2
      have HE2 : Hid (EvsG w.heap.size w2 v2 (st.evs.take (j + 1))) := Lib.hid (by
        rw [HT.out]
        exact EvsG.snoc HJL.out.symm HO1.out HM1.out HK1'.out HLV1.out HKV1.out hg2 ho2)
      have HB2 : Hid (Below w.heap.size w w2) := Lib.hid ((HB1.out.alloc (by omega) _).grown hg2 (by simp; omega) (fun k hk => (HO1.out.lt k hk).1))
      have HZ2 : Hid (RowBlk 32 w2 w.heap.size [.slice none 0 0, .slice none 0 0, .int .i64 0, .int .i64 0, .int .i64 0, .int .i64 0, .int .i64 0, .int .i64 0, .int .i64 0]) := Lib.hid ((HZ1.out.alloc _).same (hg2.block _ (by have := HZ1.out.lt; simp; omega) (fun e => row_owns_ne HZ1.out HO1.out (by decide) e.symm)))
      clear ho2 hg2
      go_wp2
      go_roundw
      case rel => exact ⟨j + 1, by omega, by go_num, HE2, HB2, HZ2⟩
      case measure => simp [intOf]; omega
    · have hjn : j = st.evs.length := by omega
      subst hjn
      have hEV : EvsG w.heap.size wr u3 st.evs := by have := hE.out; rw [List.take_length] at this; exact this
      obtain ⟨ekk, hoo, hmm, hkk⟩ := hEV
      obtain ⟨aoE, gE, capE, hu3, _⟩ := owns_open hoo
      have HEV : Hid (EvsG w.heap.size wr (.slice aoE st.evs.length capE) st.evs) := Lib.hid (by rw [← hu3]; exact ⟨ekk, hoo, hmm, hkk⟩)
      subst hu3
      clear hoo hmm hkk hE
      have HP : Hid (RPre a.L a.bm a.bw w.heap.size (loomVs (.slice a.aoC cs.length a.capC) a.lb a.bm (.slice (some ⟨a.go, 0, none⟩) K.objs.length a.capo) (.slice ao st.evs.length cap) a.mc st.ticks st.idle) st w.heap.size (.slice aoE st.evs.length capE) wr) := Lib.hid
        ⟨HL.out.same (hB.out.block _ HL.out.lt), HM.out.of_blocks (hB.out.block _ HM.out.lt1) (hB.out.block _ HM.out.lt2), HEV.out, _, hZ.out, rfl, Nat.le_refl _⟩
      have u2 := HP.out.1.cell (i := 2) rfl
      have u6 := HP.out.1.cell (i := 6) rfl
      have u7 := HP.out.1.cell (i := 7) rfl
      have nL1 : a.L ≠ w.heap.size := by omega
      have nL2 : w.heap.size ≠ a.L := by omega
      go_wp2_with fail
      go_region_held3 (fun w' => w'.cell? ⟨a.L, 2, none⟩ = some (.pointer (some ⟨a.bm, 0, none⟩)) ∧ w'.cell? ⟨a.L, 6, none⟩ = some (.int .i64 (st.ticks : Int)) ∧ w'.cell? ⟨a.L, 7, none⟩ = some (.int .i64 (st.idle : Int)))
        (first | (simp only [cell_far nL1]; with_reducible exact ⟨s2, s6, s7⟩) | with_reducible exact ⟨s2, s6, s7⟩ | exact ⟨u2, u6, u7⟩)
        (first
          | (go_at_call 58
             refine (words_ex a.bm a.bw st.ws st.cn _ (by first | exact HP5.out.2.1 | exact HP.out.drew.2.1) hws).mono ?_
             rintro e w5 ⟨gw, rfl, hw5, hgl5, hb5⟩
             have hsz5 : w.heap.size ≤ gw := Nat.le_trans (by first | exact HBT.out.size | exact hB.out.size) hgl5
             have HBT : Hid (Below w.heap.size w w5) := Lib.hid (Below.trans (by first | exact HBT.out | exact below_drew hB.out) (hb5.mono (by first | exact HBT.out.size | exact hB.out.size)))
             have HP5 : Hid (RPre a.L a.bm a.bw w.heap.size (loomVs (.slice a.aoC cs.length a.capC) a.lb a.bm (.slice (some ⟨a.go, 0, none⟩) K.objs.length a.capo) (.slice ao st.evs.length cap) a.mc st.ticks st.idle) st w.heap.size (.slice aoE st.evs.length capE) w5) := Lib.hid (RPre.below (by first | exact HP5.out | exact HP.out.drew) hb5)
             have HW5 := Lib.hid hw5
             have s2 := HP5.out.1.cell (i := 2) rfl
             have s6 := HP5.out.1.cell (i := 6) rfl
             have s7 := HP5.out.1.cell (i := 7) rfl
             clear hw5 hgl5 hb5)
          | (go_at_call 59
             refine (counts_ok a.bm a.bw st.ws st.cn _ (by first | exact HP5.out.2.1 | exact HP.out.drew.2.1)).mono ?_
             rintro e w6 ⟨rfl, hb6⟩
             have HBT : Hid (Below w.heap.size w w6) := Lib.hid (Below.trans (by first | exact HBT.out | exact below_drew hB.out) (hb6.mono (by first | exact HBT.out.size | exact hB.out.size)))
             have HP5 : Hid (RPre a.L a.bm a.bw w.heap.size (loomVs (.slice a.aoC cs.length a.capC) a.lb a.bm (.slice (some ⟨a.go, 0, none⟩) K.objs.length a.capo) (.slice ao st.evs.length cap) a.mc st.ticks st.idle) st w.heap.size (.slice aoE st.evs.length capE) w6) := Lib.hid (RPre.below (by first | exact HP5.out | exact HP.out.drew) hb6)
             try have HW5 := Lib.hid (HW5.out.same (hb6.block _ HW5.out.lt))
             have s2 := HP5.out.1.cell (i := 2) rfl
             have s6 := HP5.out.1.cell (i := 6) rfl
             have s7 := HP5.out.1.cell (i := 7) rfl
             obtain ⟨zs, hz5, hz9, _⟩ := HP5.out.2.2.2
             obtain ⟨y0, r0⟩ : ∃ y, w6.cell? ⟨w.heap.size, 0, none⟩ = some y := ⟨_, hz5.cell (i := 0) (List.getElem?_eq_getElem (by omega))⟩
             obtain ⟨y1, r1⟩ : ∃ y, w6.cell? ⟨w.heap.size, 1, none⟩ = some y := ⟨_, hz5.cell (i := 1) (List.getElem?_eq_getElem (by omega))⟩
             obtain ⟨y2, r2⟩ : ∃ y, w6.cell? ⟨w.heap.size, 2, none⟩ = some y := ⟨_, hz5.cell (i := 2) (List.getElem?_eq_getElem (by omega))⟩
             obtain ⟨y3, r3⟩ : ∃ y, w6.cell? ⟨w.heap.size, 3, none⟩ = some y := ⟨_, hz5.cell (i := 3) (List.getElem?_eq_getElem (by omega))⟩
             obtain ⟨y4, r4⟩ : ∃ y, w6.cell? ⟨w.heap.size, 4, none⟩ = some y := ⟨_, hz5.cell (i := 4) (List.getElem?_eq_getElem (by omega))⟩
             obtain ⟨y5, r5⟩ : ∃ y, w6.cell? ⟨w.heap.size, 5, none⟩ = some y := ⟨_, hz5.cell (i := 5) (List.getElem?_eq_getElem (by omega))⟩
             obtain ⟨y6, r6⟩ : ∃ y, w6.cell? ⟨w.heap.size, 6, none⟩ = some y := ⟨_, hz5.cell (i := 6) (List.getElem?_eq_getElem (by omega))⟩
             obtain ⟨y7, r7⟩ : ∃ y, w6.cell? ⟨w.heap.size, 7, none⟩ = some y := ⟨_, hz5.cell (i := 7) (List.getElem?_eq_getElem (by omega))⟩
             obtain ⟨y8, r8⟩ : ∃ y, w6.cell? ⟨w.heap.size, 8, none⟩ = some y := ⟨_, hz5.cell (i := 8) (List.getElem?_eq_getElem (by omega))⟩
             have fr : ∀ k, w6.frozen? ⟨w.heap.size, k, none⟩ = false := fun k => hz5.free
             have HZ5 := Lib.hid hz5
             have HZ9 := Lib.hid hz9
             clear hz5 hz9
             clear hb6))
      have hgb0 : gw ≠ w.heap.size := row_ne HW5.out HZ5.out (by decide)
      have H7 : Hid (RowBlk 32 (((((((((w6.setCell ⟨w.heap.size, 0, none⟩ (.slice aoE st.evs.length capE)).setCell ⟨w.heap.size, 1, none⟩ (.slice (some ⟨gw, 0, none⟩) st.ws.length st.ws.length)).setCell ⟨w.heap.size, 2, none⟩ (.int .i64 (st.cn.r : Int))).setCell ⟨w.heap.size, 3, none⟩ (.int .i64 (st.cn.w : Int))).setCell ⟨w.heap.size, 4, none⟩ (.int .i64 (st.cn.s : Int))).setCell ⟨w.heap.size, 5, none⟩ (.int .i64 (st.cn.a : Int))).setCell ⟨w.heap.size, 6, none⟩ (.int .i64 (st.cn.f : Int))).setCell ⟨w.heap.size, 7, none⟩ (.int .i64 (st.ticks : Int))).setCell ⟨w.heap.size, 8, none⟩ (.int .i64 (st.idle : Int))) w.heap.size (repVs (.slice aoE st.evs.length capE) gw st) ∧ RowBlk 37 (((((((((w6.setCell ⟨w.heap.size, 0, none⟩ (.slice aoE st.evs.length capE)).setCell ⟨w.heap.size, 1, none⟩ (.slice (some ⟨gw, 0, none⟩) st.ws.length st.ws.length)).setCell ⟨w.heap.size, 2, none⟩ (.int .i64 (st.cn.r : Int))).setCell ⟨w.heap.size, 3, none⟩ (.int .i64 (st.cn.w : Int))).setCell ⟨w.heap.size, 4, none⟩ (.int .i64 (st.cn.s : Int))).setCell ⟨w.heap.size, 5, none⟩ (.int .i64 (st.cn.a : Int))).setCell ⟨w.heap.size, 6, none⟩ (.int .i64 (st.cn.f : Int))).setCell ⟨w.heap.size, 7, none⟩ (.int .i64 (st.ticks : Int))).setCell ⟨w.heap.size, 8, none⟩ (.int .i64 (st.idle : Int))) gw (u64s st.ws) ∧ EvsG w.heap.size (((((((((w6.setCell ⟨w.heap.size, 0, none⟩ (.slice aoE st.evs.length capE)).setCell ⟨w.heap.size, 1, none⟩ (.slice (some ⟨gw, 0, none⟩) st.ws.length st.ws.length)).setCell ⟨w.heap.size, 2, none⟩ (.int .i64 (st.cn.r : Int))).setCell ⟨w.heap.size, 3, none⟩ (.int .i64 (st.cn.w : Int))).setCell ⟨w.heap.size, 4, none⟩ (.int .i64 (st.cn.s : Int))).setCell ⟨w.heap.size, 5, none⟩ (.int .i64 (st.cn.a : Int))).setCell ⟨w.heap.size, 6, none⟩ (.int .i64 (st.cn.f : Int))).setCell ⟨w.heap.size, 7, none⟩ (.int .i64 (st.ticks : Int))).setCell ⟨w.heap.size, 8, none⟩ (.int .i64 (st.idle : Int))) (.slice aoE st.evs.length capE) st.evs ∧ Below w.heap.size w (((((((((w6.setCell ⟨w.heap.size, 0, none⟩ (.slice aoE st.evs.length capE)).setCell ⟨w.heap.size, 1, none⟩ (.slice (some ⟨gw, 0, none⟩) st.ws.length st.ws.length)).setCell ⟨w.heap.size, 2, none⟩ (.int .i64 (st.cn.r : Int))).setCell ⟨w.heap.size, 3, none⟩ (.int .i64 (st.cn.w : Int))).setCell ⟨w.heap.size, 4, none⟩ (.int .i64 (st.cn.s : Int))).setCell ⟨w.heap.size, 5, none⟩ (.int .i64 (st.cn.a : Int))).setCell ⟨w.heap.size, 6, none⟩ (.int .i64 (st.cn.f : Int))).setCell ⟨w.heap.size, 7, none⟩ (.int .i64 (st.ticks : Int))).setCell ⟨w.heap.size, 8, none⟩ (.int .i64 (st.idle : Int)))) := Lib.hid
        ⟨by
          have e : repVs (.slice aoE st.evs.length capE) gw st = _ := (set9 HZ9.out (.slice aoE st.evs.length capE) (.slice (some ⟨gw, 0, none⟩) st.ws.length st.ws.length) (.int .i64 (st.cn.r : Int)) (.int .i64 (st.cn.w : Int)) (.int .i64 (st.cn.s : Int)) (.int .i64 (st.cn.a : Int)) (.int .i64 (st.cn.f : Int)) (.int .i64 (st.ticks : Int)) (.int .i64 (st.idle : Int))).symm
          rw [e]
          exact (((((((((HZ5.out.put 0 _).put 1 _).put 2 _).put 3 _).put 4 _).put 5 _).put 6 _).put 7 _).put 8 _), (((((((((HW5.out.other hgb0 _).other hgb0 _).other hgb0 _).other hgb0 _).other hgb0 _).other hgb0 _).other hgb0 _).other hgb0 _).other hgb0 _), HP5.out.2.2.1.other HZ5.out (by decide) (by decide) (by decide) (fun k _ hk => by rw [heap_far hk, heap_far hk, heap_far hk, heap_far hk, heap_far hk, heap_far hk, heap_far hk, heap_far hk, heap_far hk]), (((((((((HBT.out.setCell (Nat.le_refl _) _).setCell (Nat.le_refl _) _).setCell (Nat.le_refl _) _).setCell (Nat.le_refl _) _).setCell (Nat.le_refl _) _).setCell (Nat.le_refl _) _).setCell (Nat.le_refl _) _).setCell (Nat.le_refl _) _).setCell (Nat.le_refl _) _)⟩
      generalize ((((((((w6.setCell ⟨w.heap.size, 0, none⟩ (.slice aoE st.evs.length capE)).setCell ⟨w.heap.size, 1, none⟩ (.slice (some ⟨gw, 0, none⟩) st.ws.length st.ws.length)).setCell ⟨w.heap.size, 2, none⟩ (.int .i64 (st.cn.r : Int))).setCell ⟨w.heap.size, 3, none⟩ (.int .i64 (st.cn.w : Int))).setCell ⟨w.heap.size, 4, none⟩ (.int .i64 (st.cn.s : Int))).setCell ⟨w.heap.size, 5, none⟩ (.int .i64 (st.cn.a : Int))).setCell ⟨w.heap.size, 6, none⟩ (.int .i64 (st.cn.f : Int))).setCell ⟨w.heap.size, 7, none⟩ (.int .i64 (st.ticks : Int))).setCell ⟨w.heap.size, 8, none⟩ (.int .i64 (st.idle : Int)) = W7 at H7 ⊢
      go_wp2_with fail
      have q0 := H7.out.1.cell (i := 0) rfl
      have q1 := H7.out.1.cell (i := 1) rfl
      have q2 := H7.out.1.cell (i := 2) rfl
      have q3 := H7.out.1.cell (i := 3) rfl
      have q4 := H7.out.1.cell (i := 4) rfl
      have q5 := H7.out.1.cell (i := 5) rfl
      have q6 := H7.out.1.cell (i := 6) rfl
      have q7 := H7.out.1.cell (i := 7) rfl
      have q8 := H7.out.1.cell (i := 8) rfl
      exact bodyPost_ret (v := .agg (repVs (.slice aoE st.evs.length capE) gw st).toArray) (by simp [results, Try.results38, go_sem, q0, q1, q2, q3, q4, q5, q6, q7, q8, repVs]) rfl ⟨_, rfl, ⟨_, gw, rfl, H7.out.2.2.1, H7.out.2.1, hsz5⟩, H7.out.2.2.2⟩
end
end
section
open Go.RowKit
theorem infoOb : (Try.prog.info? 135).map (fun i => (i.zero, i.size, i.bytes)) = some (some .nilIface, 1, 16) := by kernel_rfl

section
variable {M : Mach}
/-- an object, and what its Size tells -/
def SizeC (tid : TypeId) (u : Value) (n size err : Int) : Prop :=
  ∃ fid : FuncId, (∀ w' : World, (method 369 tid u "Size").run Try.prog w' = .ok (fid, u) w') ∧ (∀ (args : Array Value) (w' : World), (callFunc fid args).run Try.prog w' = .ok (.enter fid args) w') ∧
    ∀ W : World, Calls Try.prog fid #[u, .int .i64 n] W fun e w' => e = .returned (.tuple #[.int .i64 size, .int .i64 err]) ∧ Below W.heap.size W w'
def NotFilled (tid : TypeId) (u : Value) : Prop := ∀ w : World, (Instr.typeAssert (.iface tid u) 56 132 true).run Try.prog w = .ok (.tuple #[.nilIface, .bool false]) w
/-- what comes of Place -/
def Placed (cs : List CallV) (I : St M → Prop) (s0 : M.S) (W : World) (pv : Value) (w' : World) : Prop :=
  ∃ (K : MachRel M) (FO : Nat → Prop), (∃ t u, pv = .iface t u) ∧ K.objs = [pv] ∧ MachOk K cs I ∧ K.Obj w' s0 FO ∧ ∀ b, FO b → W.heap.size ≤ b ∧ b < w'.heap.size
def PlaceC (cs : List CallV) (I : St M → Prop) (s0 : M.S) (tid : TypeId) (u : Value) (n : Int) : Prop :=
  ∃ fid : FuncId, (∀ w' : World, (method 369 tid u "Place").run Try.prog w' = .ok (fid, u) w') ∧ (∀ (args : Array Value) (w' : World), (callFunc fid args).run Try.prog w' = .ok (.enter fid args) w') ∧
    ∀ W : World, Calls Try.prog fid #[u, .int .i64 n, .int .i64 0] W fun e w' => ∃ pv, e = .returned pv ∧ Placed cs I s0 W pv w' ∧ Below W.heap.size W w'
theorem Placed.below {cs : List CallV} {I : St M → Prop} {s0 : M.S} {W w1 w2 : World} {pv : Value} (h : Placed cs I s0 W pv w1) (hb : Below w1.heap.size w1 w2) : Placed cs I s0 W pv w2 := by
  obtain ⟨K, FO, h1, h2, h3, h4, h5⟩ := h
  exact ⟨K, FO, h1, h2, h3, K.obj_keep h4 (fun b hk => hb.block b (h5 b hk).2) (fun _ h => h), fun b hk => ⟨(h5 b hk).1, Nat.lt_of_lt_of_le (h5 b hk).2 hb.size⟩⟩
set_option maxRecDepth 100000 in
set_option maxHeartbeats 2000000 in
theorem sizes_bad (tid : TypeId) (u : Value) (n sz er : Int) (ob co : Nat) (w : World) (hb : w.cell? ⟨ob, 0, none⟩ = some (.iface tid u)) (hS : SizeC tid u n sz er) (her : er ≠ 0) :
    Calls Try.prog 75 #[.int .i64 n, .slice (some ⟨ob, 0, none⟩) 1 co] w fun e w' => e = .returned (.tuple #[.slice none 0 0, .int .i64 er]) ∧ Below w.heap.size w w' := by
  obtain ⟨fid, hm, hent, hcall⟩ := hS
  have HC := Lib.hid hcall
  clear hcall
  go_enter Try.func75, Try.ntmps75
  go_wp2_with fail
  refine wp_loop_rounds 1 ?_
  rw [rounds_succ]
  go_wp2_with fail
  refine (HC.out w).mono ?_
  rintro e w1 ⟨rfl, hb1⟩
  go_wp2_with fail
  go_ret2
  exact ⟨rfl, hb1⟩

def SizesPost (size : Int) (w : World) (e : Ending) (w' : World) : Prop := ∃ g cap, e = .returned (.tuple #[.slice (some ⟨g, 0, none⟩) 1 cap, .int .i64 0]) ∧ w'.cell? ⟨g, 0, none⟩ = some (.int .i64 size) ∧ w.heap.size ≤ g ∧ g < w'.heap.size ∧ Below w.heap.size w w'

set_option maxRecDepth 100000 in
set_option maxHeartbeats 2000000 in
theorem sizes_ok (tid : TypeId) (u : Value) (n size : Int) (ob co : Nat) (w : World) (hb : w.cell? ⟨ob, 0, none⟩ = some (.iface tid u)) (hS : SizeC tid u n size 0) (h1 : 0 ≤ size) (h2 : size ≤ 65536) :
    Calls Try.prog 75 #[.int .i64 n, .slice (some ⟨ob, 0, none⟩) 1 co] w (SizesPost size w) := by
  obtain ⟨fid, hm, hent, hcall⟩ := hS
  have HC := Lib.hid hcall
  clear hcall
  obtain ⟨iI, ia, ib, ic, id⟩ := info_parts infoIu
  go_enter Try.func75, Try.ntmps75
  go_wp2_with fail
  refine wp_loop_rounds 2 ?_
  rw [rounds_succ]
  go_wp2_with fail
  refine (HC.out w).mono ?_
  rintro e w1 ⟨rfl, hb1⟩
  have HB1 := Lib.hid hb1
  have hs1 := hb1.size
  clear hb1
  go_wp2_with (at_builtin; refine append_new rfl _ _ 24 rfl w.heap.size 3 iI (.int .i64 0) 1 8 Try.underlying24 ia ib ic id rfl (by decide) (by decide) _ 0 _ rfl (World.ownsRow_nil _ _ _ _) [.int .i64 size] rfl rfl rfl (by omega) hs1 ?_)
  intro v2 w2 ho2 hb2 _ _
  obtain ⟨ao, g, cap, rfl, hao, hg1, hg2, hgc⟩ := owns_open ho2
  obtain rfl := hao (by decide)
  have c0 := hgc 0 _ rfl
  have hgl := hg2 (by decide)
  have hgs := hg1 (by decide)
  have HB2 := Lib.hid (HB1.out.trans hb2)
  clear ho2 hb2 hgc hao hg1 hg2 HB1
  go_wp2_with fail
  rw [rounds_succ]
  go_wp2_with fail
  refine wp_loop_rounds 2 ?_
  rw [rounds_succ]
  go_wp2_with fail
  rw [rounds_succ]
  go_wp2_with fail
  go_ret2
  exact ⟨g, cap, rfl, c0, hgs, hgl, HB2.out⟩

/-- what place gives -/
def PlacePost (cs : List CallV) (I : St M → Prop) (s0 : M.S) (size : Nat) (w : World) (e : Ending) (w' : World) : Prop :=
  ∃ (gw capw go capo : Nat) (pv : Value) (K : MachRel M) (FO : Nat → Prop), e = .returned (.tuple #[.slice (some ⟨gw, 0, none⟩) size capw, .slice (some ⟨go, 0, none⟩) 1 capo, .int .i64 0]) ∧ UCells w' gw 0 (List.replicate size 0) ∧ w'.cell? ⟨go, 0, none⟩ = some pv ∧
    K.objs = [pv] ∧ MachOk K cs I ∧ K.Obj w' s0 FO ∧ (∀ b, FO b → w.heap.size ≤ b ∧ b < go) ∧ w.heap.size ≤ gw ∧ gw < w'.heap.size ∧ w.heap.size ≤ go ∧ go < w'.heap.size ∧ Below w.heap.size w w'
set_option maxRecDepth 100000 in
set_option maxHeartbeats 2000000 in
theorem place_bad (tid : TypeId) (u : Value) (n sz er : Int) (ob co : Nat) (w : World) (hb : w.cell? ⟨ob, 0, none⟩ = some (.iface tid u)) (hS : SizeC tid u n sz er) (her : er ≠ 0) :
    Calls Try.prog 50 #[.int .i64 n, .slice (some ⟨ob, 0, none⟩) 1 co] w fun e w' => e = .returned (.tuple #[.slice none 0 0, .slice none 0 0, .int .i64 er]) ∧ Below w.heap.size w w' := by
  go_enter Try.func50, Try.ntmps50
  go_wp2_with fail
  refine (sizes_bad tid u n sz er ob co w hb hS her).mono ?_
  rintro e w1 ⟨rfl, hb1⟩
  go_wp2_with fail
  go_ret3
  exact ⟨rfl, hb1⟩

theorem zero_get {z : Value} {n i : Nat} (h : i < n) : (Builtin.zeroCells #[z] n)[i]? = some z := by
  unfold Builtin.zeroCells
  have e : (Array.range (n * (#[z] : Array Value).size))[i]? = some i := by
    rw [Array.getElem?_eq_getElem (by simpa using h)]; simp
  rw [Array.getElem?_map, e]
  simp [Nat.mod_one]
theorem zeros_append {w : World} {n : Nat} (h0 : 0 < n) (hn : n ≤ 65536) : ∃ cap w', (∀ ty, (Builtin.append_ #[28, 3] ty #[.slice none 0 0, .int .i64 (n : Int)]).run Try.prog w = .ok (.slice (some ⟨w.heap.size, 0, none⟩) n cap) w') ∧ UCells w' w.heap.size 0 (List.replicate n 0) ∧ Below w.heap.size w w' ∧ w.heap.size < w'.heap.size := by
  obtain ⟨i0, hi, hz0, hz1, hz2⟩ := info_parts info22
  refine ⟨grownCap w n 0 37, _, fun ty => Lib.run_append_nil_zeros w 28 3 ty 37 i0 (.int .u64 0) .i64 .i64 Try.underlying28 Try.underlying3 hi hz0 n h0 (by omega) (by omega) (by rw [hz2]; omega), ?_, (below_drew (Below.refl _ _)).alloc (Nat.le_refl _) _, by simp⟩
  intro i x hx
  have hin : i < n := by have := (List.getElem?_eq_some_iff.1 hx).1; simpa using this
  rw [List.getElem?_replicate, if_pos hin] at hx
  cases hx
  have h : (w.drew.alloc (.cells (Builtin.zeroCells (Value.int .u64 0).cells n ++ Builtin.zeroCells (Value.int .u64 0).cells (grownCap w n 0 37 - n)) 37)).heap[w.heap.size]? = some (.cells (Builtin.zeroCells (Value.int .u64 0).cells n ++ Builtin.zeroCells (Value.int .u64 0).cells (grownCap w n 0 37 - n)) 37 (0, 0)) := heap_alloc_new w.drew _
  rw [Nat.zero_add]
  refine cell_of_heap h ?_
  show (Builtin.zeroCells #[Value.int .u64 0] n ++ Builtin.zeroCells #[Value.int .u64 0] (grownCap w n 0 37 - n))[i]? = _
  rw [Array.getElem?_append_left (by rw [size_zeroCells]; simpa using hin), zero_get hin]
  rfl

set_option maxRecDepth 100000 in
set_option maxHeartbeats 2000000 in
theorem place_ok (cs : List CallV) (I : St M → Prop) (s0 : M.S) (tid : TypeId) (u : Value) (n : Int) (size ob co : Nat) (w : World) (hb : w.cell? ⟨ob, 0, none⟩ = some (.iface tid u)) (hS : SizeC tid u n size 0) (hnf : NotFilled tid u) (hP : PlaceC cs I s0 tid u n) (h1 : 1 ≤ size) (h2 : size ≤ 65536) :
    Calls Try.prog 50 #[.int .i64 n, .slice (some ⟨ob, 0, none⟩) 1 co] w (PlacePost cs I s0 size w) := by
  obtain ⟨fid, hm, hent, hcall⟩ := hP
  have HC := Lib.hid hcall
  unfold NotFilled at hnf
  clear hcall
  have hob := World.block_lt_of_cell? w ⟨ob, 0, none⟩ hb
  obtain ⟨iI, ia, ib, ic, id⟩ := info_parts infoOb
  go_enter Try.func50, Try.ntmps50
  go_wp2_with fail
  refine (sizes_ok tid u n size ob co w hb hS (by omega) (by omega)).mono ?_
  rintro e w1 ⟨gs, cs, rfl, hcs, hgs, hgs2, hb1⟩
  have HB1 := Lib.hid hb1
  have hs1 := hb1.size
  have hob1 : w1.cell? ⟨ob, 0, none⟩ = some (.iface tid u) := (hb1.cell (p := ⟨ob, 0, none⟩) hob).trans hb
  obtain ⟨capw, w2, hap, hu, hb2, hlt2⟩ := zeros_append (w := w1) (n := size) (by omega) h2
  have HU := Lib.hid hu
  have HB2 := Lib.hid (HB1.out.trans (hb2.mono hs1))
  have hs2 := hb2.size
  have hob2 : w2.cell? ⟨ob, 0, none⟩ = some (.iface tid u) := (hb2.cell (p := ⟨ob, 0, none⟩) (by show ob < w1.heap.size; omega)).trans hob1
  clear hb hb1 hu hb2
  go_wp2_with fail
  refine wp_loop_rounds 2 ?_
  rw [rounds_succ]
  go_wp2_with (at_builtin; refine Lib.wpList_append_run _ rfl _ _ 28 3 rfl _ _ rfl rfl _ _ (hap _) ?_)
  go_wp2_with fail
  refine (HC.out w2).mono ?_
  rintro e w3 ⟨pv, rfl, ⟨K, FO, ⟨pt, pu, rfl⟩, hobjs, hmok, hob, hFO⟩, hb3⟩
  have HOBJS := Lib.hid hobjs
  have HMOK := Lib.hid hmok
  have HOB := Lib.hid hob
  have HFO := Lib.hid hFO
  clear hobjs hmok hob hFO
  have HB3 := Lib.hid (HB2.out.trans (hb3.mono (by omega)))
  have HU3 : Hid (UCells w3 w1.heap.size 0 (List.replicate size 0)) := Lib.hid (HU.out.stays hb3 (fun _ => hlt2))
  have hs3 := hb3.size
  clear hb3 hap hob1 hob2 hcs
  have hs30 : w.heap.size ≤ w3.heap.size := by omega
  go_wp2_with (at_builtin; refine append_new rfl _ _ 94 rfl w3.heap.size 135 iI .nilIface 1 16 Try.underlying94 ia ib ic id rfl (by decide) (by decide) _ 0 _ rfl (World.ownsRow_nil _ _ _ _) [.iface pt pu] rfl rfl rfl (by omega) (Nat.le_refl _) ?_)
  intro v4 w4 ho4 hb4 hk4 _
  obtain ⟨ao, g, cap, rfl, hao, hg1, hg2, hgc⟩ := owns_open ho4
  obtain rfl := hao (by decide)
  have HC0 := Lib.hid (hgc 0 _ rfl)
  have hgl := hg2 (by decide)
  have hgs' := hg1 (by decide)
  have HB4 := Lib.hid (HB3.out.trans (hb4.mono hs30))
  have hs4 := hb4.size
  have HOB4 : Hid (K.Obj w4 s0 FO) := Lib.hid (K.obj_keep HOB.out (fun b hk => hb4.block b (HFO.out b hk).2) (fun _ h => h))
  have HFO4 : Hid (∀ b, FO b → w.heap.size ≤ b ∧ b < g) := Lib.hid (fun b hk => by have := HFO.out b hk; omega)
  have HU4 : Hid (UCells w4 w1.heap.size 0 (List.replicate size 0)) := Lib.hid (HU3.out.stays hb4 (fun _ => by omega))
  clear ho4 hb4 hgc hao hg1 hg2
  go_wp2_with fail
  rw [rounds_succ]
  go_wp2_with fail
  go_ret3
  exact ⟨w1.heap.size, capw, g, cap, _, K, FO, rfl, HU4.out, HC0.out, HOBJS.out, HMOK.out, HOB4.out, HFO4.out, hs1, by omega, by omega, hgl, HB4.out⟩
set_option maxRecDepth 100000 in
set_option maxHeartbeats 2000000 in
theorem lnew_bad (n : Int) (ao : Option Addr) (b o cap : Nat) (cs : List CallV) (ob co : Nat) (w : World) (ha : 0 < cs.length → ao = some ⟨b, o, none⟩) (hb : 0 < cs.length → b < w.heap.size) (hc : CallsAt w b o cs) (h : wrongL n (thr cs) ≠ 0) :
    Calls Try.prog 36 #[.int .i64 n, .slice ao cs.length cap, .slice (some ⟨ob, 0, none⟩) 1 co] w fun e w' => e = .returned (.tuple #[.pointer none, .int .i64 (wrongL n (thr cs) : Nat)]) ∧ Below w.heap.size w w' := by
  go_enter Try.func36, Try.ntmps36
  go_wp2_with fail
  refine (new_any n ao b o cap cs w ha hb hc).mono ?_
  rintro e w1 ⟨h1, _, hb1⟩
  obtain rfl := h1 h
  have hne : ((wrongL n (thr cs) : Nat) : Int) ≠ 0 := by omega
  clear h1
  go_wp2_with fail
  go_ret2
  exact ⟨rfl, hb1⟩

set_option maxRecDepth 100000 in
set_option maxHeartbeats 2000000 in
theorem lnew_size (tid : TypeId) (u : Value) (n sz er : Int) (ao : Option Addr) (b o cap : Nat) (cs : List CallV) (ob co : Nat) (w : World) (ha : 0 < cs.length → ao = some ⟨b, o, none⟩) (hb : 0 < cs.length → b < w.heap.size) (hc : CallsAt w b o cs) (h : wrongL n (thr cs) = 0)
    (ho : w.cell? ⟨ob, 0, none⟩ = some (.iface tid u)) (hS : SizeC tid u n sz er) (her : er ≠ 0) :
    Calls Try.prog 36 #[.int .i64 n, .slice ao cs.length cap, .slice (some ⟨ob, 0, none⟩) 1 co] w fun e w' => e = .returned (.tuple #[.pointer none, .int .i64 er]) ∧ Below w.heap.size w w' := by
  have hob := World.block_lt_of_cell? w ⟨ob, 0, none⟩ ho
  go_enter Try.func36, Try.ntmps36
  go_wp2_with fail
  refine (new_any n ao b o cap cs w ha hb hc).mono ?_
  rintro e w1 ⟨_, h1, hb1⟩
  obtain ⟨lb, mb, f, rfl, hlb, hmb, hln⟩ := h1 h
  have hs1 := hb1.size
  have ho1 : w1.cell? ⟨ob, 0, none⟩ = some (.iface tid u) := (hb1.cell (p := ⟨ob, 0, none⟩) hob).trans ho
  clear h1 hln
  go_wp2_with fail
  refine (place_bad tid u n sz er ob co w1 ho1 hS her).mono ?_
  rintro e w2 ⟨rfl, hb2⟩
  have HB := Lib.hid (hb1.trans (hb2.mono hs1))
  clear hb1 hb2
  go_wp2_with fail
  go_ret2
  exact ⟨rfl, HB.out⟩

def LNewPost (cs : List CallV) (I : St M → Prop) (s0 : M.S) (size : Nat) (w : World) (e : Ending) (w' : World) : Prop :=
  ∃ (K : MachRel M) (a : LA) (col : Nat → Nat), a.B0 = w.heap.size ∧ e = .returned (.tuple #[.pointer (some ⟨a.L, 0, none⟩), .int .i64 0]) ∧ MachOk K cs I ∧ LoomG K cs a 0 col w' (stM cs (List.replicate size 0) s0) ∧ Below w.heap.size w w'

set_option maxRecDepth 100000 in
set_option maxHeartbeats 4000000 in
theorem lnew_ok (I : St M → Prop) (s0 : M.S) (tid : TypeId) (u : Value) (n : Int) (size : Nat) (ao : Option Addr) (b o cap : Nat) (cs : List CallV) (ob co : Nat) (w : World) (ha : 0 < cs.length → ao = some ⟨b, o, none⟩) (hb : 0 < cs.length → b < w.heap.size) (hc : CallsAt w b o cs) (hcap : ao = none → cap = 0) (h : wrongL n (thr cs) = 0)
    (hcl : cs.length ≤ 1000) (ho : w.cell? ⟨ob, 0, none⟩ = some (.iface tid u)) (hS : SizeC tid u n size 0) (hnf : NotFilled tid u) (hP : PlaceC cs I s0 tid u n) (hs1 : 1 ≤ size) (hs2 : size ≤ 65536) :
    Calls Try.prog 36 #[.int .i64 n, .slice ao cs.length cap, .slice (some ⟨ob, 0, none⟩) 1 co] w (LNewPost cs I s0 size w) := by
  have hob := World.block_lt_of_cell? w ⟨ob, 0, none⟩ ho
  have hmm := @run_makeMap Try.prog
  go_enter Try.func36, Try.ntmps36
  go_wp2_with fail
  refine (new_any n ao b o cap cs w ha hb hc).mono ?_
  rintro e w1 ⟨_, h1, hb1⟩
  obtain ⟨lb, mb, f, rfl, hlb, hmb, hln⟩ := h1 h
  have z1 := hb1.size
  have ho1 : w1.cell? ⟨ob, 0, none⟩ = some (.iface tid u) := (hb1.cell (p := ⟨ob, 0, none⟩) hob).trans ho
  have HC1 : Hid (CallsAt w1 b o cs) := Lib.hid (hc.stays hb1 hb)
  have HLN := Lib.hid hln
  have HB1 := Lib.hid hb1
  have HB := Lib.hid hb
  have HA := Lib.hid ha
  have HCP := Lib.hid hcap
  clear h1 hln hb1 hc hb ha h ho hcap
  go_wp2_with fail
  refine (place_ok cs I s0 tid u n size ob co w1 ho1 hS hnf hP hs1 hs2).mono ?_
  rintro e w2 ⟨gw, capw, go, capo, pv, K, FO, rfl, hu, hgo, hobjs, hmok, hob, hfo, q1, q2, q3, q4, hb2⟩
  have HOBJS := Lib.hid hobjs
  have HMOK := Lib.hid hmok
  have HOB := Lib.hid hob
  have HFO := Lib.hid hfo
  clear hobjs hmok hob hfo
  have z2 := hb2.size
  have HU := Lib.hid hu
  have HGO := Lib.hid hgo
  have HB2 := Lib.hid hb2
  clear hu hgo hb2 ho1
  go_wp2_with fail
  have hm := new_ok (some ⟨gw, 0, none⟩) gw 0 capw (List.replicate size 0) w2 (by rw [List.length_replicate]; omega) (fun _ => rfl) (fun _ => q2) HU.out
  rw [List.length_replicate] at hm
  refine hm.mono ?_
  rintro e w3 ⟨bm, bw, rfl, hM, r1, r2, hb3⟩
  have z3 := hb3.size
  have HM := Lib.hid hM
  have HB3 := Lib.hid hb3
  clear hM hb3 hm
  go_wp2_with fail
  have HC3 : Hid (CallsAt w3 b o cs) := Lib.hid (((HC1.out.stays HB2.out (fun h => by have := HB.out h; omega)).stays HB3.out (fun h => by have := HB.out h; omega)))
  refine (clone_calls ao b o cap cs w3 (by omega) HA.out HC3.out HCP.out).mono ?_
  rintro e w4 ⟨aoC, gc, capC, rfl, hgc, hcc, hb4⟩
  have z4 := hb4.size
  have HGC := Lib.hid hgc
  have HCC := Lib.hid hcc
  have HB4 := Lib.hid hb4
  clear hgc hcc hb4
  go_wp2_with fail
  go_ret2
  have BM : Below w3.heap.size w3 (w4.alloc (.map #[] 0)) := HB4.out.alloc z4 _
  have hsm : (w4.alloc (.map #[] 0)).heap.size = w4.heap.size + 1 := by simp
  have BL : Below w3.heap.size w3 ((w4.alloc (.map #[] 0)).alloc (.cells (loomVs (.slice aoC cs.length capC) lb bm (.slice (some ⟨go, 0, none⟩) 1 capo) (.slice none 0 0) w4.heap.size 0 0).toArray 104)) := BM.alloc (by omega) _
  have BT : Below w.heap.size w ((w4.alloc (.map #[] 0)).alloc (.cells (loomVs (.slice aoC cs.length capC) lb bm (.slice (some ⟨go, 0, none⟩) 1 capo) (.slice none 0 0) w4.heap.size 0 0).toArray 104)) :=
    HB1.out.trans ((HB2.out.mono z1).trans ((HB3.out.mono (by omega)).trans (BL.mono (by omega))))
  have B1 : Below w1.heap.size w1 ((w4.alloc (.map #[] 0)).alloc (.cells (loomVs (.slice aoC cs.length capC) lb bm (.slice (some ⟨go, 0, none⟩) 1 capo) (.slice none 0 0) w4.heap.size 0 0).toArray 104)) :=
    HB2.out.trans ((HB3.out.mono z2).trans (BL.mono (by omega)))
  have B2 : Below w2.heap.size w2 ((w4.alloc (.map #[] 0)).alloc (.cells (loomVs (.slice aoC cs.length capC) lb bm (.slice (some ⟨go, 0, none⟩) 1 capo) (.slice none 0 0) w4.heap.size 0 0).toArray 104)) :=
    HB3.out.trans (BL.mono (by omega))
  have l1 := HLN.out.lt1
  have l2 := HLN.out.lt2
  have m1 := HM.out.lt1
  have m2 := HM.out.lt2
  have hL := RowBlk.new (w4.alloc (.map #[] 0)) (loomVs (.slice aoC cs.length capC) lb bm (.slice (some ⟨go, 0, none⟩) 1 capo) (.slice none 0 0) w4.heap.size 0 0) 104
  rw [hsm] at hL
  obtain ⟨col, hcol⟩ := recol_ex (fun _ => False) FO (fun _ => 0) 0 0
  have cO : ∀ b, FO b → col b = 1 := fun b h => (hcol b).2.1 id h
  have cN : ∀ b, ¬ FO b → col b = 0 := fun b h => (hcol b).2.2.1 id h (.inr rfl)
  have c1 : ∀ b, col b ≠ 0 → FO b := fun b h => Classical.byContradiction (fun h' => h (cN b h'))
  have nO : ∀ b, b < w1.heap.size ∨ go ≤ b → col b = 0 := fun b h => cN b (fun h' => by have := HFO.out b h'; omega)
  refine ⟨K, ⟨w.heap.size, w4.heap.size + 1, w1.heap.size, lb, mb, bm, bw, w4.heap.size, gc, go, capo, capC, aoC⟩, col, rfl, rfl, HMOK.out,
    { blk := ⟨.slice none 0 0, [], ?_, World.ownsRow_nil _ _ _ _, rfl, fun i k x h _ => (by simp at h), fun k h => (by cases h), ⟨fun e v h => by simp [stM] at h, HM.out.of_blocks (BL.block _ m1) (BL.block _ m2), HCC.out.stays (B := w4.heap.size) ((((Below.refl _ _).alloc (Nat.le_refl _) _)).alloc (by omega) _) (fun h => (HGC.out h).2.2), ?_, ?_⟩, 0, (MapIs.made _ _ _ _).alloc _, by simp [stM]⟩
      line := ⟨f, cs.length, HLN.out.stays B1 (Nat.le_refl _), by omega⟩
      lays :=
        { haC := fun h => (HGC.out h).1
          gsep := fun h => by have := HGC.out h; exact ⟨by show gc < w4.heap.size + 1; omega, by show gc ≠ bm; omega, by show gc ≠ bw; omega, by show gc ≠ w4.heap.size; omega, by show gc ≠ mb; omega, by show w1.heap.size ≤ gc; omega, nO gc (.inr (by omega))⟩
          osep := ⟨by show go < w4.heap.size + 1; omega, by show go ≠ bm; omega, by show go ≠ bw; omega, by show go ≠ w4.heap.size; omega, by show go ≠ mb; omega, by show w1.heap.size ≤ go; omega, nO go (.inr (Nat.le_refl _))⟩
          lsep := ⟨by show bm < w4.heap.size + 1; omega, by show bw < w4.heap.size + 1; omega, by show w4.heap.size < w4.heap.size + 1; omega⟩
          t1 := ⟨by show w1.heap.size ≤ w4.heap.size + 1; omega, by show w1.heap.size ≤ bm; omega, by show w1.heap.size ≤ bw; omega, by show w1.heap.size ≤ w4.heap.size; omega, by show mb < w1.heap.size; omega, by show w1.heap.size ≤ _; simp; omega⟩
          b0 := ⟨by show w.heap.size ≤ w4.heap.size + 1; omega, by show w.heap.size ≤ bm; omega, by show w.heap.size ≤ bw; omega, by show w.heap.size ≤ w4.heap.size; omega, by show w.heap.size ≤ mb; omega⟩
          mne := ⟨by show w4.heap.size ≠ bm; omega, by show w4.heap.size ≠ bw; omega, HM.out.2.2⟩
          c0 := ⟨nO _ (.inr (by show go ≤ w4.heap.size + 1; omega)), nO _ (.inl (by show mb < w1.heap.size; omega)), nO _ (.inr (by show go ≤ bm; omega)), nO _ (.inr (by show go ≤ bw; omega)), nO _ (.inr (by show go ≤ w4.heap.size; omega))⟩
          cT := fun b hb => by have := HFO.out b (c1 b hb); exact ⟨by show w1.heap.size ≤ b; omega, by simp; omega, by show w.heap.size ≤ b; omega⟩
          cL := fun b hb => by have := cO b (c1 b (by omega)); omega
          cE := fun b => by
            by_cases h : FO b
            · have := cO b h; omega
            · have := cN b h; omega
          cl := hcl }
      tj := rfl
      jl := by omega
      evl := Nat.le_refl _
      stl := fun v hv => by simp [stM] at hv }, BT⟩
  · have e : K.objs.length = 1 := by rw [HOBJS.out]; rfl
    rw [e]
    exact hL
  · intro i v hv
    rw [HOBJS.out] at hv
    match i, hv with
    | 0, hv =>
      cases hv
      exact (B2.cell (p := ⟨go, 0, none⟩) q4).trans HGO.out
  · exact K.obj_keep HOB.out (fun b hb => B2.block b (by have := HFO.out b hb; omega)) cO
end
def checkL (n : Int) (ts : List Int) (m : Nat) : Nat := if wrongL n [] ≠ 0 then wrongL n [] else if 65536 < m then 3 else wrongL n ts

set_option maxRecDepth 100000 in
set_option maxHeartbeats 2000000 in
theorem check_any (n : Int) (ao : Option Addr) (b o cap : Nat) (cs : List CallV) (ao3 : Option Addr) (np cap3 : Nat) (w : World) (ha : 0 < cs.length → ao = some ⟨b, o, none⟩) (hb : 0 < cs.length → b < w.heap.size) (hc : CallsAt w b o cs) (hnp : np ≤ 9223372036854775807) :
    Calls Try.prog 35 #[.int .i64 n, .slice ao cs.length cap, .slice ao3 np cap3] w fun e w' => e = .returned (.int .i64 (checkL n (thr cs) np : Nat)) ∧ Below w.heap.size w w' := by
  have h0 := new_any n none 0 0 0 [] w (fun h => absurd h (by simp)) (fun h => absurd h (by simp)) (fun i x h => by simp at h)
  simp only [List.length_nil] at h0
  by_cases hw : wrongL n [] = 0
  · by_cases hl : 65536 < np
    · have hC : checkL n (thr cs) np = 3 := by unfold checkL; rw [if_neg (by simpa using hw), if_pos hl]
      rw [hC]
      have HH := Lib.hid hw
      clear hw hC
      go_enter Try.func35, Try.ntmps35
      go_wp2_with fail
      refine h0.mono ?_
      rintro e w1 ⟨_, h1, hb1⟩
      obtain ⟨lb, mb, f, rfl, _⟩ := h1 HH.out
      clear h1
      go_wp2_with fail
      go_ret
      exact ⟨rfl, hb1⟩
    · have hC : checkL n (thr cs) np = wrongL n (thr cs) := by unfold checkL; rw [if_neg (by simpa using hw), if_neg hl]
      rw [hC]
      have HH := Lib.hid hw
      clear hw hC
      go_enter Try.func35, Try.ntmps35
      go_wp2_with fail
      refine h0.mono ?_
      rintro e w1 ⟨_, h1, hb1⟩
      obtain ⟨lb, mb, f, rfl, _⟩ := h1 HH.out
      have HB1 := Lib.hid hb1
      have z1 := hb1.size
      clear h1 hb1
      go_wp2_with fail
      refine (new_any n ao b o cap cs w1 ha (fun h => by have := hb h; omega) (hc.stays HB1.out hb)).mono ?_
      rintro e w2 ⟨h1, h2, hb2⟩
      have HB2 := Lib.hid (HB1.out.trans (hb2.mono z1))
      clear hb2
      by_cases hr : wrongL n (thr cs) = 0
      · obtain ⟨lb, mb, f, rfl, _⟩ := h2 hr
        have HR := Lib.hid hr
        clear h1 h2 hr
        go_wp2_with fail
        go_ret
        exact ⟨by rw [HR.out]; rfl, HB2.out⟩
      · obtain rfl := h1 hr
        clear h1 h2 hr
        go_wp2_with fail
        go_ret
        exact ⟨rfl, HB2.out⟩
  · have hC : checkL n (thr cs) np = wrongL n [] := by unfold checkL; rw [if_pos hw]
    rw [hC]
    have HH := Lib.hid hw
    have hne : ((wrongL n [] : Nat) : Int) ≠ 0 := by omega
    clear hw hC
    go_enter Try.func35, Try.ntmps35
    go_wp2_with fail
    refine h0.mono ?_
    rintro e w1 ⟨h1, _, hb1⟩
    obtain rfl := h1 HH.out
    clear h1
    rw [show thr [] = ([] : List Int) from rfl]
    go_wp2_with fail
    go_ret
    exact ⟨rfl, hb1⟩

end
section
open Go.RowKit
def zeroVs : List Value := [.slice none 0 0, .slice none 0 0, .int .i64 0, .int .i64 0, .int .i64 0, .int .i64 0, .int .i64 0, .int .i64 0, .int .i64 0]
def zeroRep : Value := .agg zeroVs.toArray

set_option maxRecDepth 100000 in
set_option maxHeartbeats 2000000 in
theorem play_bad1 (n : Int) (ao : Option Addr) (b o cap : Nat) (cs : List CallV) (ao3 : Option Addr) (np cap3 : Nat) (ob co : Nat) (w : World) (ha : 0 < cs.length → ao = some ⟨b, o, none⟩) (hb : 0 < cs.length → b < w.heap.size) (hc : CallsAt w b o cs) (hnp : np ≤ 9223372036854775807) (h : checkL n (thr cs) np ≠ 0) :
    Calls Try.prog 25 #[.int .i64 n, .slice ao cs.length cap, .slice ao3 np cap3, .slice (some ⟨ob, 0, none⟩) 1 co] w fun e w' => e = .returned (.tuple #[zeroRep, .int .i64 (checkL n (thr cs) np : Nat)]) ∧ Below w.heap.size w w' := by
  have hne : ((checkL n (thr cs) np : Nat) : Int) ≠ 0 := by omega
  have HA := Lib.hid ha
  have HB := Lib.hid hb
  have HC := Lib.hid hc
  clear h ha hb hc
  go_enter Try.func25, Try.ntmps25
  go_wp2_with fail
  refine (check_any n ao b o cap cs ao3 np cap3 _ HA.out (fun h => by have := HB.out h; simp; omega) (HC.out.stays ((Below.refl w.heap.size w).alloc (Nat.le_refl _) _) HB.out) hnp).mono ?_
  rintro e w1 ⟨rfl, hb1⟩
  have hz : RowBlk 32 w1 w.heap.size zeroVs := (RowBlk.new w zeroVs 32).same (hb1.block _ (by simp))
  have HB1 : Hid (Below w.heap.size w w1) := Lib.hid ((((Below.refl w.heap.size w).alloc (Nat.le_refl _) _)).trans (hb1.mono (by simp)))
  have r0 := hz.cell (i := 0) rfl
  have r1 := hz.cell (i := 1) rfl
  have r2 := hz.cell (i := 2) rfl
  have r3 := hz.cell (i := 3) rfl
  have r4 := hz.cell (i := 4) rfl
  have r5 := hz.cell (i := 5) rfl
  have r6 := hz.cell (i := 6) rfl
  have r7 := hz.cell (i := 7) rfl
  have r8 := hz.cell (i := 8) rfl
  have fr : ∀ k, w1.frozen? ⟨w.heap.size, k, none⟩ = false := fun k => hz.free
  clear hb1 hz
  go_wp2_with fail
  exact bodyPost_ret (v := .tuple #[zeroRep, .int .i64 (checkL n (thr cs) np : Nat)]) (by simp [results, Try.results25, go_sem, r0, r1, r2, r3, r4, r5, r6, r7, r8, zeroRep, zeroVs]) rfl ⟨rfl, (((((((((HB1.out.setCell (Nat.le_refl _) _).setCell (Nat.le_refl _) _).setCell (Nat.le_refl _) _).setCell (Nat.le_refl _) _).setCell (Nat.le_refl _) _).setCell (Nat.le_refl _) _).setCell (Nat.le_refl _) _).setCell (Nat.le_refl _) _).setCell (Nat.le_refl _) _)⟩

theorem check_zero {n : Int} {ts : List Int} {m : Nat} (h : checkL n ts m = 0) : wrongL n ts = 0 ∧ m ≤ 65536 := by
  unfold checkL at h
  split at h
  · next h1 => exact absurd h h1
  · split at h
    · cases h
    · next h2 => exact ⟨h, by omega⟩
theorem wrong_len {n : Int} {ts : List Int} (h : wrongL n ts = 0) : ts.length ≤ 1000 := by
  unfold wrongL at h
  split at h
  · cases h
  · split at h
    · cases h
    · omega

set_option maxRecDepth 100000 in
set_option maxHeartbeats 2000000 in
theorem play_bad2 (tid : TypeId) (u : Value) (n sz er : Int) (ao : Option Addr) (b o cap : Nat) (cs : List CallV) (ao3 : Option Addr) (np cap3 : Nat) (ob co : Nat) (w : World) (ha : 0 < cs.length → ao = some ⟨b, o, none⟩) (hb : 0 < cs.length → b < w.heap.size) (hc : CallsAt w b o cs) (hnp : np ≤ 9223372036854775807) (h : checkL n (thr cs) np = 0)
    (ho : w.cell? ⟨ob, 0, none⟩ = some (.iface tid u)) (hS : SizeC tid u n sz er) (her : er ≠ 0) :
    Calls Try.prog 25 #[.int .i64 n, .slice ao cs.length cap, .slice ao3 np cap3, .slice (some ⟨ob, 0, none⟩) 1 co] w fun e w' => e = .returned (.tuple #[zeroRep, .int .i64 er]) ∧ Below w.heap.size w w' := by
  have hob := World.block_lt_of_cell? w ⟨ob, 0, none⟩ ho
  have HA := Lib.hid ha
  have HB := Lib.hid hb
  have HC := Lib.hid hc
  have HW := Lib.hid (check_zero h).1
  have HO := Lib.hid ho
  clear ha hb hc ho
  have hch := check_any n ao b o cap cs ao3 np cap3 (w.alloc (.cells zeroVs.toArray 32)) HA.out (fun h => by have := HB.out h; simp; omega) (HC.out.stays ((Below.refl w.heap.size w).alloc (Nat.le_refl _) _) HB.out) hnp
  rw [h] at hch
  go_enter Try.func25, Try.ntmps25
  go_wp2_with fail
  refine hch.mono ?_
  rintro e w1 ⟨rfl, hb1⟩
  have hz : RowBlk 32 w1 w.heap.size zeroVs := (RowBlk.new w zeroVs 32).same (hb1.block _ (by simp))
  have HB1 : Hid (Below w.heap.size w w1) := Lib.hid ((((Below.refl w.heap.size w).alloc (Nat.le_refl _) _)).trans (hb1.mono (by simp)))
  have z1 := HB1.out.size
  have z1' : w.heap.size < w1.heap.size := hz.lt
  have HZ := Lib.hid hz
  clear hb1 hz h hch
  go_wp2_with fail
  refine (lnew_size tid u n sz er ao b o cap cs ob co w1 HA.out (fun h => by have := HB.out h; omega) (HC.out.stays HB1.out HB.out) HW.out ((HB1.out.cell (p := ⟨ob, 0, none⟩) hob).trans HO.out) hS her).mono ?_
  rintro e w2 ⟨rfl, hb2⟩
  have hz := HZ.out.same (hb2.block _ z1')
  have HB2 : Hid (Below w.heap.size w w2) := Lib.hid (HB1.out.trans (hb2.mono z1))
  have r0 := hz.cell (i := 0) rfl
  have r1 := hz.cell (i := 1) rfl
  have r2 := hz.cell (i := 2) rfl
  have r3 := hz.cell (i := 3) rfl
  have r4 := hz.cell (i := 4) rfl
  have r5 := hz.cell (i := 5) rfl
  have r6 := hz.cell (i := 6) rfl
  have r7 := hz.cell (i := 7) rfl
  have r8 := hz.cell (i := 8) rfl
  have fr : ∀ k, w2.frozen? ⟨w.heap.size, k, none⟩ = false := fun k => hz.free
  clear hb2 hz
  go_wp2_with fail
  exact bodyPost_ret (v := .tuple #[zeroRep, .int .i64 er]) (by simp [results, Try.results25, go_sem, r0, r1, r2, r3, r4, r5, r6, r7, r8, zeroRep, zeroVs]) rfl ⟨rfl, (((((((((HB2.out.setCell (Nat.le_refl _) _).setCell (Nat.le_refl _) _).setCell (Nat.le_refl _) _).setCell (Nat.le_refl _) _).setCell (Nat.le_refl _) _).setCell (Nat.le_refl _) _).setCell (Nat.le_refl _) _).setCell (Nat.le_refl _) _).setCell (Nat.le_refl _) _)⟩

section
variable {M : Mach}
theorem pickG_any {K : MachRel M} {cs : List CallV} {I : St M → Prop} (hK : MachOk K cs I) (a : LA) (j : Nat) (col : Nat → Nat) (w : World) (st : St M) (p : Int) (h : LoomG K cs a j col w st) (hw : Wf cs st) (hI : I st) (hcn : CnOk st) (hp : -9223372036854775808 ≤ p ∧ p ≤ 9223372036854775807) (hj : j < 65536) :
    Calls Try.prog 37 #[.pointer (some ⟨a.L, 0, none⟩), .int .i64 p] w (PickPost K cs a (j + 1) (pickM cs st p) w) := by
  cases hn : nowOf (thr cs) st.fin p with
  | none => exact pickG_idle K a j col w st p h hp hj hn
  | some i => exact pickG_turn hK a j col w st p h hw hI hcn hj hn
theorem endM_wf (cs : List CallV) (ws : List Nat) (s : M.S) (picks : List Int) : Wf cs (endM cs ws s picks) := foldM (R := fun st => Wf cs st) (fun _ p h => h.pick p) picks _ (Wf.first cs ws s)
theorem endM_cn (cs : List CallV) (ws : List Nat) (s : M.S) (picks : List Int) : CnOk (endM (M := M) cs ws s picks) := (foldM (R := fun st => Wf cs st ∧ CnOk st) (fun _ p h => ⟨h.1.pick p, h.2.pick h.1 p⟩) picks _ ⟨Wf.first cs ws s, Nat.le_refl _, rfl⟩).2
theorem endM_I {K : MachRel M} {cs : List CallV} {I : St M → Prop} (hK : MachOk K cs I) (ws : List Nat) (s : M.S) (h0 : I (stM cs ws s)) (picks : List Int) : I (endM cs ws s picks) :=
  (foldM (R := fun st => Wf cs st ∧ I st) (fun _ p h => ⟨h.1.pick p, hK.pick h.2 h.1 p⟩) picks _ ⟨Wf.first cs ws s, h0⟩).2
theorem stepQ_len (s : M.S) (q : M.Q ⊕ Nat) (ws : List Nat) (cn : Cn) (t : Nat) : (stepQ s q ws cn t).ws.length = ws.length := by
  unfold stepQ
  cases q with
  | inl q => exact Acc.run_len _ _ _
  | inr e => rfl
theorem pickM_len (cs : List CallV) (st : St M) (p : Int) : (pickM cs st p).ws.length = st.ws.length := by
  cases hn : nowOf (thr cs) st.fin p with
  | none => rw [pickM_idle hn]
  | some i =>
    cases hx : cs[i]? with
    | none => unfold pickM; rw [hn]; simp only [hx]
    | some x =>
      rw [pickM_turn hn hx]
      have h1 : ∀ s2 : St M, (s2.go i p).ws.length = s2.ws.length := fun s2 => by
        unfold St.go
        split
        · rfl
        · split
          · rfl
          · unfold St.step
            split <;> exact stepQ_len _ _ _ _ _
      rw [h1]
      unfold St.turn
      split <;> rfl
theorem endM_len (cs : List CallV) (ws : List Nat) (s : M.S) (picks : List Int) : (endM cs ws s picks).ws.length = ws.length :=
  foldM (R := fun st => st.ws.length = ws.length) (fun st p h => (pickM_len cs st p).trans h) picks _ rfl

def PlayOk (cs : List CallV) (ws : List Nat) (s : M.S) (picks : List Int) (w : World) (e : Ending) (w' : World) : Prop :=
  ∃ v, e = .returned (.tuple #[v, .int .i64 0]) ∧ RepG w.heap.size w' v (repOf (endM cs ws s picks)) ∧ Below w.heap.size w w'
theorem playOk_mk {cs : List CallV} {ws : List Nat} {s : M.S} {picks : List Int} {w w' : World} {ev : Value} {gw : Nat} {r : RepR} (h : repOf (endM cs ws s picks) = r) (h1 : EvsG w.heap.size w' ev r.evs) (h2 : RowBlk 37 w' gw (u64s r.ws)) (h3 : w.heap.size ≤ gw) (h4 : Below w.heap.size w w') :
    PlayOk cs ws s picks w (.returned (.tuple #[.agg (repVs ev gw r).toArray, .int .i64 0])) w' :=
  ⟨_, rfl, by rw [h]; exact ⟨ev, gw, rfl, h1, h2, h3⟩, h4⟩

set_option maxRecDepth 100000 in
set_option maxHeartbeats 2000000 in
theorem play_ok (I : St M → Prop) (s0 : M.S) (tid : TypeId) (u : Value) (n : Int) (size : Nat) (ao : Option Addr) (b o cap : Nat) (cs : List CallV) (ao3 : Option Addr) (b3 o3 cap3 : Nat) (picks : List Int) (ob co : Nat) (w : World) (ha : 0 < cs.length → ao = some ⟨b, o, none⟩) (hb : 0 < cs.length → b < w.heap.size) (hc : CallsAt w b o cs) (hcap : ao = none → cap = 0)
    (ha3 : 0 < picks.length → ao3 = some ⟨b3, o3, none⟩) (hb3 : 0 < picks.length → b3 < w.heap.size) (hc3 : ICells w b3 o3 picks) (h : checkL n (thr cs) picks.length = 0)
    (ho : w.cell? ⟨ob, 0, none⟩ = some (.iface tid u)) (hS : SizeC tid u n size 0) (hnf : NotFilled tid u) (hP : PlaceC cs I s0 tid u n) (hs1 : 1 ≤ size) (hs2 : size ≤ 65536) (hI0 : I (stM cs (List.replicate size 0) s0)) :
    Calls Try.prog 25 #[.int .i64 n, .slice ao cs.length cap, .slice ao3 picks.length cap3, .slice (some ⟨ob, 0, none⟩) 1 co] w (PlayOk cs (List.replicate size 0) s0 picks w) := by
  have hob := World.block_lt_of_cell? w ⟨ob, 0, none⟩ ho
  have HA := Lib.hid ha
  have HB := Lib.hid hb
  have HC := Lib.hid hc
  have HA3 := Lib.hid ha3
  have HB3 := Lib.hid hb3
  have HC3 := Lib.hid hc3
  have HCP := Lib.hid hcap
  have HW := Lib.hid (check_zero h).1
  have hpl := (check_zero h).2
  have hcl := wrong_len (check_zero h).1
  rw [thr_len] at hcl
  have HO := Lib.hid ho
  have HI0 := Lib.hid hI0
  clear ha hb hc ho ha3 hb3 hc3 hcap hI0
  have hch := check_any n ao b o cap cs ao3 picks.length cap3 (w.alloc (.cells zeroVs.toArray 32)) HA.out (fun h => by have := HB.out h; simp; omega) (HC.out.stays ((Below.refl w.heap.size w).alloc (Nat.le_refl _) _) HB.out) (by omega)
  rw [h] at hch
  go_enter Try.func25, Try.ntmps25
  go_wp2_with fail
  refine hch.mono ?_
  rintro e w1 ⟨rfl, hb1⟩
  have hz : RowBlk 32 w1 w.heap.size zeroVs := (RowBlk.new w zeroVs 32).same (hb1.block _ (by simp))
  have HB1 : Hid (Below w.heap.size w w1) := Lib.hid ((((Below.refl w.heap.size w).alloc (Nat.le_refl _) _)).trans (hb1.mono (by simp)))
  have z1 := HB1.out.size
  have z1' : w.heap.size < w1.heap.size := hz.lt
  have HZ := Lib.hid hz
  clear hb1 hz h hch
  go_wp2_with fail
  refine (lnew_ok I s0 tid u n size ao b o cap cs ob co w1 HA.out (fun h => by have := HB.out h; omega) (HC.out.stays HB1.out HB.out) HCP.out HW.out hcl ((HB1.out.cell (p := ⟨ob, 0, none⟩) hob).trans HO.out) hS hnf hP hs1 hs2).mono ?_
  rintro e w2 ⟨K, a, col, ha0, rfl, hmok, hL, hb2⟩
  have HMOK := Lib.hid hmok
  clear hmok
  have HL : Hid (∃ col, LoomG K cs a 0 col w2 (endM cs (List.replicate size 0) s0 [])) := Lib.hid ⟨col, hL⟩
  have HB2 := Lib.hid hb2
  clear hL hb2
  go_wp2_with fail
  go_loopw [36] (fun k wr => ∃ j : Nat, j ≤ picks.length ∧ k = .int .i64 j ∧ Hid (∃ col, LoomG K cs a j col wr (endM cs (List.replicate size 0) s0 (picks.take j))) ∧ Hid (Below w1.heap.size w1 wr)) (fun k _ => picks.length - (intOf k).toNat)
  case atStart => exact ⟨0, Nat.zero_le _, rfl, HL, HB2⟩
  case round =>
    obtain ⟨j, hj, rfl, hLj, hBj⟩ := hrel
    by_cases hlt : j < picks.length
    · obtain rfl := HA3.out (by omega)
      obtain ⟨p, hp⟩ : ∃ x, picks[j]? = some x := ⟨picks[j], List.getElem?_eq_getElem (by omega)⟩
      obtain ⟨c3, hpb⟩ := (HC3.out.stays (HB1.out.trans (hBj.out.mono z1)) HB3.out) j _ hp
      have HS := Lib.hid (endM_snoc (cs := cs) (ws := List.replicate size 0) (s := s0) hp)
      clear hp
      go_wp2_with fail
      obtain ⟨colj, hLj'⟩ := hLj.out
      refine (pickG_any HMOK.out a j colj _ _ p hLj' (endM_wf _ _ _ _) (endM_I HMOK.out _ _ HI0.out _) (endM_cn _ _ _ _) hpb (by omega)).mono ?_
      rintro e w3 ⟨rfl, hL3, hb3⟩
      rw [← HS.out] at hL3
      rw [ha0] at hb3
      have HL3 := Lib.hid hL3
      have HB3' := Lib.hid (hBj.out.trans hb3)
      clear hL3 hb3
      go_wp2_with fail
      go_roundw
      case rel => exact ⟨j + 1, by omega, by go_num, HL3, HB3'⟩
      case measure => simp [intOf]; omega
    · have hjn : j = picks.length := by omega
      subst hjn
      rw [List.take_length] at hLj
      go_wp2_with fail
      have z3 := hBj.out.size
      have HZ3 := Lib.hid (HZ.out.same (hBj.out.block _ z1'))
      have HB3'' := Lib.hid (HB1.out.trans (hBj.out.mono z1))
      obtain ⟨colj, hLj'⟩ := hLj.out
      refine (reportG HMOK.out a picks.length colj wr _ hLj' (by rw [endM_len, List.length_replicate]; exact hs2)).mono ?_
      rintro e w4 ⟨v, rfl, hR, hb4⟩
      have hz := HZ3.out.same (hb4.block _ HZ3.out.lt)
      have HB4 : Hid (Below w.heap.size w w4) := Lib.hid (HB3''.out.trans (hb4.mono HB3''.out.size))
      obtain ⟨ev, gw, rfl, hev, hrw, hgw⟩ := hR
      obtain ⟨REP, hREP⟩ : ∃ r, repOf (endM cs (List.replicate size 0) s0 picks) = r := ⟨_, rfl⟩
      rw [hREP] at hev hrw ⊢
      have HREP := Lib.hid hREP
      clear hREP
      obtain ⟨ekk, hoo, hmm, hkk⟩ := hev
      obtain ⟨aoE, gE, capE, hu3, _⟩ := owns_open hoo
      have HEV : Hid (EvsG wr.heap.size w4 (.slice aoE REP.evs.length capE) REP.evs) := Lib.hid (by rw [← hu3]; exact ⟨ekk, hoo, hmm, hkk⟩)
      subst hu3
      have r0 := hz.cell (i := 0) rfl
      have r1 := hz.cell (i := 1) rfl
      have r2 := hz.cell (i := 2) rfl
      have r3 := hz.cell (i := 3) rfl
      have r4 := hz.cell (i := 4) rfl
      have r5 := hz.cell (i := 5) rfl
      have r6 := hz.cell (i := 6) rfl
      have r7 := hz.cell (i := 7) rfl
      have r8 := hz.cell (i := 8) rfl
      have fr : ∀ k, w4.frozen? ⟨w.heap.size, k, none⟩ = false := fun k => hz.free
      have HZ4 := Lib.hid hz
      have HRW := Lib.hid hrw
      clear hb4 hz hoo hmm hkk hrw
      unfold repVs
      go_wp2_with fail
      have hgb0 : gw ≠ w.heap.size := by omega
      have H7 : Hid (RowBlk 32 (((((((((w4.setCell ⟨w.heap.size, 0, none⟩ (.slice aoE REP.evs.length capE)).setCell ⟨w.heap.size, 1, none⟩ (.slice (some ⟨gw, 0, none⟩) REP.ws.length REP.ws.length)).setCell ⟨w.heap.size, 2, none⟩ (.int .i64 (REP.cn.r : Int))).setCell ⟨w.heap.size, 3, none⟩ (.int .i64 (REP.cn.w : Int))).setCell ⟨w.heap.size, 4, none⟩ (.int .i64 (REP.cn.s : Int))).setCell ⟨w.heap.size, 5, none⟩ (.int .i64 (REP.cn.a : Int))).setCell ⟨w.heap.size, 6, none⟩ (.int .i64 (REP.cn.f : Int))).setCell ⟨w.heap.size, 7, none⟩ (.int .i64 (REP.ticks : Int))).setCell ⟨w.heap.size, 8, none⟩ (.int .i64 (REP.idle : Int))) w.heap.size (repVs (.slice aoE REP.evs.length capE) gw REP) ∧ EvsG w.heap.size (((((((((w4.setCell ⟨w.heap.size, 0, none⟩ (.slice aoE REP.evs.length capE)).setCell ⟨w.heap.size, 1, none⟩ (.slice (some ⟨gw, 0, none⟩) REP.ws.length REP.ws.length)).setCell ⟨w.heap.size, 2, none⟩ (.int .i64 (REP.cn.r : Int))).setCell ⟨w.heap.size, 3, none⟩ (.int .i64 (REP.cn.w : Int))).setCell ⟨w.heap.size, 4, none⟩ (.int .i64 (REP.cn.s : Int))).setCell ⟨w.heap.size, 5, none⟩ (.int .i64 (REP.cn.a : Int))).setCell ⟨w.heap.size, 6, none⟩ (.int .i64 (REP.cn.f : Int))).setCell ⟨w.heap.size, 7, none⟩ (.int .i64 (REP.ticks : Int))).setCell ⟨w.heap.size, 8, none⟩ (.int .i64 (REP.idle : Int))) (.slice aoE REP.evs.length capE) REP.evs ∧ RowBlk 37 (((((((((w4.setCell ⟨w.heap.size, 0, none⟩ (.slice aoE REP.evs.length capE)).setCell ⟨w.heap.size, 1, none⟩ (.slice (some ⟨gw, 0, none⟩) REP.ws.length REP.ws.length)).setCell ⟨w.heap.size, 2, none⟩ (.int .i64 (REP.cn.r : Int))).setCell ⟨w.heap.size, 3, none⟩ (.int .i64 (REP.cn.w : Int))).setCell ⟨w.heap.size, 4, none⟩ (.int .i64 (REP.cn.s : Int))).setCell ⟨w.heap.size, 5, none⟩ (.int .i64 (REP.cn.a : Int))).setCell ⟨w.heap.size, 6, none⟩ (.int .i64 (REP.cn.f : Int))).setCell ⟨w.heap.size, 7, none⟩ (.int .i64 (REP.ticks : Int))).setCell ⟨w.heap.size, 8, none⟩ (.int .i64 (REP.idle : Int))) gw (u64s REP.ws) ∧ Below w.heap.size w (((((((((w4.setCell ⟨w.heap.size, 0, none⟩ (.slice aoE REP.evs.length capE)).setCell ⟨w.heap.size, 1, none⟩ (.slice (some ⟨gw, 0, none⟩) REP.ws.length REP.ws.length)).setCell ⟨w.heap.size, 2, none⟩ (.int .i64 (REP.cn.r : Int))).setCell ⟨w.heap.size, 3, none⟩ (.int .i64 (REP.cn.w : Int))).setCell ⟨w.heap.size, 4, none⟩ (.int .i64 (REP.cn.s : Int))).setCell ⟨w.heap.size, 5, none⟩ (.int .i64 (REP.cn.a : Int))).setCell ⟨w.heap.size, 6, none⟩ (.int .i64 (REP.cn.f : Int))).setCell ⟨w.heap.size, 7, none⟩ (.int .i64 (REP.ticks : Int))).setCell ⟨w.heap.size, 8, none⟩ (.int .i64 (REP.idle : Int)))) := Lib.hid
        ⟨by
          have e : repVs (.slice aoE REP.evs.length capE) gw REP = _ := (set9 (show zeroVs.length = 9 from rfl) (.slice aoE REP.evs.length capE) (.slice (some ⟨gw, 0, none⟩) REP.ws.length REP.ws.length) (.int .i64 (REP.cn.r : Int)) (.int .i64 (REP.cn.w : Int)) (.int .i64 (REP.cn.s : Int)) (.int .i64 (REP.cn.a : Int)) (.int .i64 (REP.cn.f : Int)) (.int .i64 (REP.ticks : Int)) (.int .i64 (REP.idle : Int))).symm
          rw [e]
          exact (((((((((HZ4.out.put 0 _).put 1 _).put 2 _).put 3 _).put 4 _).put 5 _).put 6 _).put 7 _).put 8 _),
         (HEV.out.mono (by omega)).other HZ4.out (by decide) (by decide) (by decide) (fun k _ hk => by rw [heap_far hk, heap_far hk, heap_far hk, heap_far hk, heap_far hk, heap_far hk, heap_far hk, heap_far hk, heap_far hk]),
         (((((((((HRW.out.other hgb0 _).other hgb0 _).other hgb0 _).other hgb0 _).other hgb0 _).other hgb0 _).other hgb0 _).other hgb0 _).other hgb0 _),
         (((((((((HB4.out.setCell (Nat.le_refl _) _).setCell (Nat.le_refl _) _).setCell (Nat.le_refl _) _).setCell (Nat.le_refl _) _).setCell (Nat.le_refl _) _).setCell (Nat.le_refl _) _).setCell (Nat.le_refl _) _).setCell (Nat.le_refl _) _).setCell (Nat.le_refl _) _)⟩
      generalize ((((((((w4.setCell ⟨w.heap.size, 0, none⟩ (.slice aoE REP.evs.length capE)).setCell ⟨w.heap.size, 1, none⟩ (.slice (some ⟨gw, 0, none⟩) REP.ws.length REP.ws.length)).setCell ⟨w.heap.size, 2, none⟩ (.int .i64 (REP.cn.r : Int))).setCell ⟨w.heap.size, 3, none⟩ (.int .i64 (REP.cn.w : Int))).setCell ⟨w.heap.size, 4, none⟩ (.int .i64 (REP.cn.s : Int))).setCell ⟨w.heap.size, 5, none⟩ (.int .i64 (REP.cn.a : Int))).setCell ⟨w.heap.size, 6, none⟩ (.int .i64 (REP.cn.f : Int))).setCell ⟨w.heap.size, 7, none⟩ (.int .i64 (REP.ticks : Int))).setCell ⟨w.heap.size, 8, none⟩ (.int .i64 (REP.idle : Int)) = W7 at H7 ⊢
      have q0 := H7.out.1.cell (i := 0) rfl
      have q1 := H7.out.1.cell (i := 1) rfl
      have q2 := H7.out.1.cell (i := 2) rfl
      have q3 := H7.out.1.cell (i := 3) rfl
      have q4 := H7.out.1.cell (i := 4) rfl
      have q5 := H7.out.1.cell (i := 5) rfl
      have q6 := H7.out.1.cell (i := 6) rfl
      have q7 := H7.out.1.cell (i := 7) rfl
      have q8 := H7.out.1.cell (i := 8) rfl
      exact bodyPost_ret (v := .tuple #[.agg (repVs (.slice aoE REP.evs.length capE) gw REP).toArray, .int .i64 0]) (by simp [results, Try.results25, go_sem, q0, q1, q2, q3, q4, q5, q6, q7, q8, repVs]) rfl (playOk_mk HREP.out H7.out.2.1 H7.out.2.2.1 (by omega) H7.out.2.2.2)

def playErr (n : Int) (cs : List CallV) (np er : Nat) : Nat := if checkL n (thr cs) np ≠ 0 then checkL n (thr cs) np else er
/-- what a play gives -/
def PlayG (M : Mach) (n : Int) (er : Nat) (cs : List CallV) (ws : List Nat) (s : M.S) (picks : List Int) (w : World) (e : Ending) (w' : World) : Prop :=
  ∃ a1 n1 c1 a2 n2 c2, ∃ i0 i1 i2 i3 i4 i5 i6 : Int, ∃ v, e = .returned (.tuple #[v, .int .i64 (playErr n cs picks.length er : Nat)]) ∧
    v = .agg #[.slice a1 n1 c1, .slice a2 n2 c2, .int .i64 i0, .int .i64 i1, .int .i64 i2, .int .i64 i3, .int .i64 i4, .int .i64 i5, .int .i64 i6] ∧
    (playErr n cs picks.length er ≠ 0 → v = zeroRep) ∧ (playErr n cs picks.length er = 0 → RepG w.heap.size w' v (repOf (endM (M := M) cs ws s picks))) ∧ Below w.heap.size w w'
theorem RepG.other {B : Nat} {w w' : World} {v : Value} {st : RepR} (h : RepG B w v st) {g : Nat} {vs : List Value} (hr : RowBlk 32 w g vs) (hb : ∀ k, k < w.heap.size → k ≠ g → w'.heap[k]? = w.heap[k]?) : RepG B w' v st := by
  obtain ⟨ev, gw, h1, h2, h3, h4⟩ := h
  exact ⟨ev, gw, h1, h2.other hr (by decide) (by decide) (by decide) hb, h3.same (hb _ h3.lt (row_ne h3 hr (by decide))), h4⟩
theorem RepG.mono {B B' : Nat} {w : World} {v : Value} {st : RepR} (h : RepG B w v st) (hB : B' ≤ B) : RepG B' w v st := by
  obtain ⟨ev, gw, h1, h2, h3, h4⟩ := h
  exact ⟨ev, gw, h1, h2.mono hB, h3, Nat.le_trans hB h4⟩

theorem play_any (I : St M → Prop) (s0 : M.S) (tid : TypeId) (u : Value) (n : Int) (size er : Nat) (ao : Option Addr) (b o cap : Nat) (cs : List CallV) (ao3 : Option Addr) (b3 o3 cap3 : Nat) (picks : List Int) (ob co : Nat) (w : World) (ha : 0 < cs.length → ao = some ⟨b, o, none⟩) (hb : 0 < cs.length → b < w.heap.size) (hc : CallsAt w b o cs) (hcap : ao = none → cap = 0)
    (ha3 : 0 < picks.length → ao3 = some ⟨b3, o3, none⟩) (hb3 : 0 < picks.length → b3 < w.heap.size) (hc3 : ICells w b3 o3 picks) (hnp : picks.length ≤ 9223372036854775807)
    (ho : w.cell? ⟨ob, 0, none⟩ = some (.iface tid u)) (hS : checkL n (thr cs) picks.length = 0 → SizeC tid u n size er) (hP : checkL n (thr cs) picks.length = 0 → er = 0 → NotFilled tid u ∧ PlaceC cs I s0 tid u n ∧ 1 ≤ size ∧ size ≤ 65536 ∧ I (stM cs (List.replicate size 0) s0)) :
    Calls Try.prog 25 #[.int .i64 n, .slice ao cs.length cap, .slice ao3 picks.length cap3, .slice (some ⟨ob, 0, none⟩) 1 co] w (PlayG M n er cs (List.replicate size 0) s0 picks w) := by
  by_cases h1 : checkL n (thr cs) picks.length = 0
  · by_cases h2 : er = 0
    · have e : playErr n cs picks.length er = 0 := by unfold playErr; rw [if_neg (by simpa using h1), h2]
      obtain ⟨p1, p2, p3, p4, p5⟩ := hP h1 h2
      have hS' := hS h1
      rw [h2] at hS'
      refine (play_ok I s0 tid u n size ao b o cap cs ao3 b3 o3 cap3 picks ob co w ha hb hc hcap ha3 hb3 hc3 h1 ho hS' p1 p2 p3 p4 p5).mono ?_
      rintro e' w' ⟨v, rfl, hR, hb'⟩
      obtain ⟨ev, gw, rfl, hev, hrw, hgw⟩ := hR
      obtain ⟨ekk, hoo, hmm, hkk⟩ := hev
      obtain ⟨aoE, gE, capE, rfl, _⟩ := owns_open hoo
      exact ⟨_, _, _, _, _, _, _, _, _, _, _, _, _, _, by rw [e]; rfl, rfl, fun h => absurd e h, fun _ => ⟨_, gw, rfl, ⟨ekk, hoo, hmm, hkk⟩, hrw, hgw⟩, hb'⟩
    · have e : playErr n cs picks.length er = er := by unfold playErr; rw [if_neg (by simpa using h1)]
      refine (play_bad2 tid u n size er ao b o cap cs ao3 picks.length cap3 ob co w ha hb hc hnp h1 ho (hS h1) (by omega)).mono ?_
      rintro e' w' ⟨rfl, hb'⟩
      exact ⟨_, _, _, _, _, _, _, _, _, _, _, _, _, zeroRep, by rw [e], rfl, fun _ => rfl, fun h => absurd (e.symm.trans h) h2, hb'⟩
  · have e : playErr n cs picks.length er = checkL n (thr cs) picks.length := by unfold playErr; rw [if_pos h1]
    refine (play_bad1 n ao b o cap cs ao3 picks.length cap3 ob co w ha hb hc hnp h1).mono ?_
    rintro e' w' ⟨rfl, hb'⟩
    exact ⟨_, _, _, _, _, _, _, _, _, _, _, _, _, zeroRep, by rw [e], rfl, fun _ => rfl, fun h => absurd (e.symm.trans h) h1, hb'⟩
end
end
section
open Go.RowKit
theorem evCells_get : ∀ (l : List EvK) (i k : Nat) (y : EvK), l[i]? = some y → k < 8 → (l.flatMap evCells)[i * 8 + k]? = (evCells y)[k]?
  | [], _, _, _, h, _ => by simp at h
  | a :: r, 0, k, y, h, hk => by
    simp at h
    subst h
    rw [List.flatMap_cons, List.getElem?_append_left (by simp [evCells, evVs]; omega)]
    simp
  | a :: r, i + 1, k, y, h, hk => by
    have := evCells_get r i k y (by simpa using h) hk
    rw [List.flatMap_cons, List.getElem?_append_right (by simp [evCells, evVs]; omega), ← this]
    congr 1
    simp [evCells, evVs]
    omega

/-- an event in its place -/
structure EvC (B : Nat) (w : World) (g i : Nat) (x : EvR) (la ka : Option Addr) (lc kc : Nat) : Prop where
  c0 : w.cell? ⟨g, i * 8, none⟩ = some (.int .i64 (x.i : Int))
  c1 : w.cell? ⟨g, i * 8 + 1, none⟩ = some (.int .i64 (x.inv : Int))
  c2 : w.cell? ⟨g, i * 8 + 2, none⟩ = some (.int .i64 (x.resp : Int))
  c3 : w.cell? ⟨g, i * 8 + 3, none⟩ = some (.int .i64 (x.steps : Int))
  c4 : w.cell? ⟨g, i * 8 + 4, none⟩ = some (.int .i64 (x.ans.err : Int))
  c5 : w.cell? ⟨g, i * 8 + 5, none⟩ = some (.int .u64 (x.ans.val : Int))
  c6 : w.cell? ⟨g, i * 8 + 6, none⟩ = some (.slice la x.ans.list.length lc)
  c7 : w.cell? ⟨g, i * 8 + 7, none⟩ = some (.slice ka x.key.length kc)
  lst : ListAt w 37 mkU (fun b => B ≤ b) (.slice la x.ans.list.length lc) x.ans.list
  key : ListAt w 3 mkI (fun b => B ≤ b) (.slice ka x.key.length kc) x.key
theorem EvC.below {B : Nat} {w w' : World} {g i : Nat} {x : EvR} {la ka : Option Addr} {lc kc : Nat} (h : EvC B w g i x la ka lc kc) (hb : Below w.heap.size w w') : EvC B w' g i x la ka lc kc := by
  have hg : g < w.heap.size := World.block_lt_of_cell? w ⟨g, i * 8, none⟩ h.c0
  have e : ∀ k, w'.cell? ⟨g, k, none⟩ = w.cell? ⟨g, k, none⟩ := fun k => hb.cell (p := ⟨g, k, none⟩) hg
  exact ⟨(e _).trans h.c0, (e _).trans h.c1, (e _).trans h.c2, (e _).trans h.c3, (e _).trans h.c4, (e _).trans h.c5, (e _).trans h.c6, (e _).trans h.c7, h.lst.keep (fun b ht hB => ⟨hb.block b ht.lt, hB⟩), h.key.keep (fun b ht hB => ⟨hb.block b ht.lt, hB⟩)⟩
def EvAllG (B : Nat) (w : World) (g : Nat) (evs : List EvR) : Prop := ∀ (i : Nat) (x : EvR), evs[i]? = some x → B ≤ g ∧ ∃ la ka lc kc, EvC B w g i x la ka lc kc
theorem EvAllG.below {w w' : World} {B g : Nat} {evs : List EvR} (h : EvAllG B w g evs) {B' : Nat} (hb : Below B' w w') (hB : w.heap.size ≤ B') : EvAllG B w' g evs := fun i x hx => by
  obtain ⟨h1, la, ka, lc, kc, h3⟩ := h i x hx
  exact ⟨h1, la, ka, lc, kc, h3.below (hb.mono hB)⟩
theorem EvAllG.setCell {w : World} {B g : Nat} {evs : List EvR} (h : EvAllG B w g evs) {a : Addr} (ha : a.block < B) (v : Value) : EvAllG B (w.setCell a v) g evs := fun i x hx => by
  obtain ⟨h1, la, ka, lc, kc, h3⟩ := h i x hx
  have e : ∀ k, (w.setCell a v).cell? ⟨g, k, none⟩ = w.cell? ⟨g, k, none⟩ := fun k => by unfold World.cell?; rw [Below.heap_setCell _ _ _ _ (show g ≠ a.block by omega)]
  exact ⟨h1, la, ka, lc, kc, (e _).trans h3.c0, (e _).trans h3.c1, (e _).trans h3.c2, (e _).trans h3.c3, (e _).trans h3.c4, (e _).trans h3.c5, (e _).trans h3.c6, (e _).trans h3.c7, h3.lst.keep (fun b _ hB => ⟨Below.heap_setCell _ _ _ _ (by omega), hB⟩), h3.key.keep (fun b _ hB => ⟨Below.heap_setCell _ _ _ _ (by omega), hB⟩)⟩
theorem EvAllG.mono {w : World} {B B' g : Nat} {evs : List EvR} (h : EvAllG B w g evs) (hB : B' ≤ B) : EvAllG B' w g evs := fun i x hx => by
  obtain ⟨h1, la, ka, lc, kc, h3⟩ := h i x hx
  exact ⟨Nat.le_trans hB h1, la, ka, lc, kc, h3.c0, h3.c1, h3.c2, h3.c3, h3.c4, h3.c5, h3.c6, h3.c7, h3.lst.keep (fun b _ h => ⟨rfl, Nat.le_trans hB h⟩), h3.key.keep (fun b _ h => ⟨rfl, Nat.le_trans hB h⟩)⟩
theorem EvsG.opened {B : Nat} {w : World} {v : Value} {evs : List EvR} (h : EvsG B w v evs) :
    ∃ ao g cap, v = .slice ao evs.length cap ∧ (0 < evs.length → ao = some ⟨g, 0, none⟩) ∧ (0 < evs.length → g < w.heap.size) ∧ EvAllG B w g evs := by
  obtain ⟨ek, ho, hm, hk⟩ := h
  obtain ⟨ao, g, cap, rfl, h1, h2, h3, hc⟩ := owns_open ho
  refine ⟨ao, g, cap, rfl, h1, h3, fun i x hx => ?_⟩
  have hB := h2 (by have := (List.getElem?_eq_some_iff.1 hx).1; omega)
  rw [← hm, List.getElem?_map, Option.map_eq_some_iff] at hx
  obtain ⟨y, hy, rfl⟩ := hx
  obtain ⟨k1, k2⟩ := hk y (List.mem_of_getElem? hy)
  obtain ⟨la, lc, e1⟩ := k1.isSlice
  obtain ⟨ka, kc, e2⟩ := k2.isSlice
  have c : ∀ k u, k < 8 → (evCells y)[k]? = some u → w.cell? ⟨g, i * 8 + k, none⟩ = some u := fun k u hk8 hu => hc _ u ((evCells_get ek i k y hy hk8).trans hu)
  exact ⟨hB, la, ka, lc, kc, c 0 _ (by omega) rfl, c 1 _ (by omega) rfl, c 2 _ (by omega) rfl, c 3 _ (by omega) rfl, c 4 _ (by omega) rfl, c 5 _ (by omega) rfl, c 6 _ (by omega) (by rw [← e1]; rfl), c 7 _ (by omega) (by rw [← e2]; rfl), by rw [← e1]; exact k1, by rw [← e2]; exact k2⟩

/-- what a play that is played gives -/
def GoodG (r : RepR) (w : World) (e : Ending) (w' : World) : Prop :=
  ∃ aoE gE capE gw, e = .returned (.tuple #[.agg (repVs (.slice aoE r.evs.length capE) gw r).toArray, .int .i64 0]) ∧ (0 < r.evs.length → aoE = some ⟨gE, 0, none⟩) ∧
    EvAllG w.heap.size w' gE r.evs ∧ RowBlk 37 w' gw (u64s r.ws) ∧ w.heap.size ≤ gw ∧ Below w.heap.size w w'
theorem PlayG.good {M : Mach} {n : Int} {er : Nat} {cs : List CallV} {ws : List Nat} {s : M.S} {picks : List Int} {w w' : World} {e : Ending} (h : PlayG M n er cs ws s picks w e w') (he : playErr n cs picks.length er = 0) : GoodG (repOf (endM (M := M) cs ws s picks)) w e w' := by
  obtain ⟨_, _, _, _, _, _, _, _, _, _, _, _, _, v, rfl, _, _, hR, hb'⟩ := h
  obtain ⟨ev, gw, rfl, hev, hrw, hgw⟩ := hR he
  obtain ⟨aoE, gE, capE, rfl, h1, _, h3⟩ := hev.opened
  exact ⟨aoE, gE, capE, gw, by rw [he]; rfl, h1, h3, hrw, hgw, hb'⟩
theorem PlayG.bad {M : Mach} {n : Int} {er : Nat} {cs : List CallV} {ws : List Nat} {s : M.S} {picks : List Int} {w w' : World} {e : Ending} (h : PlayG M n er cs ws s picks w e w') (he : playErr n cs picks.length er ≠ 0) :
    e = .returned (.tuple #[zeroRep, .int .i64 (playErr n cs picks.length er : Nat)]) ∧ Below w.heap.size w w' := by
  obtain ⟨_, _, _, _, _, _, _, _, _, _, _, _, _, v, rfl, _, hz, _, hb'⟩ := h
  rw [hz he]
  exact ⟨rfl, hb'⟩
set_option maxRecDepth 20000 in
theorem many_yes (ao ao3 : Option Addr) (cl cap pl cap3 : Nat) (w : World) (hp : pl ≤ 9223372036854775807) (h : (60 < cl ∧ cl ≤ 1000) ∨ (600 < pl ∧ pl ≤ 65536) ∨ 1100 < cl) :
    Calls Try.prog 13 #[.slice ao cl cap, .slice ao3 pl cap3] w fun e w' => e = .returned (.bool true) ∧ w = w' := by
  go_enter Try.func13, Try.ntmps13
  by_cases h1 : 60 < cl
  · by_cases h2 : cl ≤ 1000
    · go_wp2
      go_ret
      exact ⟨rfl, rfl⟩
    · by_cases h3 : 600 < pl
      · by_cases h4 : pl ≤ 65536
        · go_wp2
          go_ret
          exact ⟨rfl, rfl⟩
        · have h5 : 1100 < cl := by omega
          go_wp2
          go_ret
          exact ⟨by simp; omega, rfl⟩
      · have h5 : 1100 < cl := by omega
        go_wp2
        go_ret
        exact ⟨by simp; omega, rfl⟩
  · have h3 : 600 < pl := by omega
    have h4 : pl ≤ 65536 := by omega
    go_wp2
    go_ret
    exact ⟨rfl, rfl⟩

set_option maxRecDepth 20000 in
theorem many_no (ao ao3 : Option Addr) (cl cap pl cap3 : Nat) (w : World) (hp : pl ≤ 9223372036854775807) (h : ¬ ((60 < cl ∧ cl ≤ 1000) ∨ (600 < pl ∧ pl ≤ 65536) ∨ 1100 < cl)) :
    Calls Try.prog 13 #[.slice ao cl cap, .slice ao3 pl cap3] w fun e w' => e = .returned (.bool false) ∧ w = w' := by
  have h5 : ¬ 1100 < cl := by omega
  go_enter Try.func13, Try.ntmps13
  by_cases h1 : 60 < cl
  · have h2 : ¬ cl ≤ 1000 := by omega
    by_cases h3 : 600 < pl
    · have h4 : ¬ pl ≤ 65536 := by omega
      clear h
      go_wp2
      go_ret
      exact ⟨by simp; omega, rfl⟩
    · clear h
      go_wp2
      go_ret
      exact ⟨by simp; omega, rfl⟩
  · by_cases h3 : 600 < pl
    · have h4 : ¬ pl ≤ 65536 := by omega
      clear h
      go_wp2
      go_ret
      exact ⟨by simp; omega, rfl⟩
    · clear h
      go_wp2
      go_ret
      exact ⟨by simp; omega, rfl⟩

set_option maxRecDepth 20000 in
set_option maxHeartbeats 2000000 in
theorem same_zero (w : World) : Calls Try.prog 27 #[zeroRep, zeroRep] w fun e w' => e = .returned (.bool true) ∧ Below w.heap.size w w' := by
  unfold zeroRep zeroVs
  go_enter Try.func27, Try.ntmps27
  go_wp2_with fail
  refine (same_yes none none 0 0 0 0 0 0 [] _ (by simp) (fun h => absurd h (by simp)) (fun h => absurd h (by simp)) (fun i x h => by simp at h) (fun i x h => by simp at h)).mono ?_
  rintro e w1 ⟨rfl, m, rfl⟩
  go_wp2_with fail
  refine wp_loop_rounds 1 ?_
  rw [rounds_succ]
  go_wp2_with fail
  go_ret
  exact ⟨rfl, below_drewN (((Below.refl _ _).alloc (Nat.le_refl _) _).alloc (by simp) _) m⟩

set_option maxRecDepth 20000 in
theorem none_zero (w : World) : Calls Try.prog 16 #[zeroRep] w fun e w' => e = .returned (.bool true) ∧ Below w.heap.size w w' := by
  have hs := same_zero (w.alloc (.cells zeroVs.toArray 32))
  unfold zeroRep zeroVs at *
  go_enter Try.func16, Try.ntmps16
  go_wp2_with fail
  refine hs.mono ?_
  rintro e w1 ⟨rfl, hb1⟩
  go_wp2_with fail
  go_ret
  exact ⟨rfl, ((Below.refl _ _).alloc (Nat.le_refl _) _).trans (hb1.mono (by simp))⟩

end
section
open Go.RowKit
theorem getD_get {l : List Nat} {i : Nat} (h : i < l.length) : l[i]? = some (l.getD i 0) := by rw [List.getD_eq_getElem?_getD, List.getElem?_eq_getElem h]; rfl
def AccPost (v : Value) (x : Acc) (bm bw : Nat) (l : List Nat) (c : Cn) (w : World) (e : Ending) (w' : World) : Prop :=
  e = .returned v ∧ MemIs 139 w' bm bw (x.run l c).2.1 (x.run l c).2.2 ∧ But bm bw w w'
section
variable {bm bw i : Nat} {l : List Nat} {c : Cn} {w : World}
theorem rd_acc (hM : MemIs 139 w bm bw l c) (hi : i < l.length) (hn : l.length ≤ 65536) (hc : c.r < 9223372036854775807) :
    Calls Try.prog 196 #[.pointer (some ⟨bm, 0, none⟩), .int .i64 i] w (AccPost (.int .u64 (l.getD i 0 : Nat)) (.rd i) bm bw l c w) := read_ok bm bw i _ l c w hM (getD_get hi) hn hc
theorem wr_acc (y : Nat) (hM : MemIs 139 w bm bw l c) (hi : i < l.length) (hn : l.length ≤ 65536) (hc : c.w < 9223372036854775807) : Calls Try.prog 198 #[.pointer (some ⟨bm, 0, none⟩), .int .i64 i, .int .u64 y] w (AccPost (.tuple #[]) (.wr i y) bm bw l c w) := write_ok bm bw i _ y l c w hM (getD_get hi) hn hc
end
end
section
open Go.RowKit
section
variable {bm bw i : Nat} {l : List Nat} {c : Cn} {w : World}
theorem ad_acc (d : Nat) (hM : MemIs 139 w bm bw l c) (hi : i < l.length) (hn : l.length ≤ 65536) (hc : c.a < 9223372036854775807) :
    Calls Try.prog 195 #[.pointer (some ⟨bm, 0, none⟩), .int .i64 i, .int .u64 d] w (AccPost (.int .u64 (l.getD i 0 : Nat)) (.ad i d) bm bw l c w) := add_ok bm bw i _ d l c w hM (getD_get hi) hn hc
end
end
end Go.Proofs.Ytpoebpnmbogmnaa
