/- Walks of loom: report, Report. -/
import Derived.Test.YtjlopeijdmnacaaY7
namespace Go.Proofs.Ytjlopeijdmnacaa
open Go.RowKit

/-- a key of one number -/
def KeyAt (w : World) (kb : Nat) (t : Nat) : Prop := ∃ cur : Array Value, w.heap[kb]? = some (.cells cur 3 (0, 0)) ∧ cur[0]? = some (.int .i64 (2 * (t : Int)))
theorem KeyAt.same {w w' : World} {kb t : Nat} (h : KeyAt w kb t) (e : w'.heap[kb]? = w.heap[kb]?) : KeyAt w' kb t := by obtain ⟨cur, h1, h2⟩ := h; exact ⟨cur, e.trans h1, h2⟩
theorem KeyAt.lt {w : World} {kb t : Nat} (h : KeyAt w kb t) : kb < w.heap.size := by obtain ⟨cur, h1, h2⟩ := h; exact lt_of_heap h1
theorem KeyAt.cell {w : World} {kb t : Nat} (h : KeyAt w kb t) : w.cell? ⟨kb, 0, none⟩ = some (.int .i64 (2 * (t : Int))) := by obtain ⟨cur, h1, h2⟩ := h; exact cell_of_heap h1 h2
/-- an event of a report, its key's block, and the room of that -/
def evV (y : EvG × Nat × Nat) : List Value := [.int .i64 (y.1.i : Int), .int .i64 (y.1.t : Int), .int .i64 (y.1.t : Int), .int .i64 1, .int .i64 (y.1.e : Int), .int .u64 (y.1.v : Int), .slice none 0 0, .slice (some ⟨y.2.1, 0, none⟩) 1 y.2.2]

set_option maxRecDepth 20000 in
set_option maxHeartbeats 1000000 in
theorem report_one (L g : Nat) (x : EvG) (w : World) (h : InvAt w L g x) (ht : 0 < x.t) :
    Calls Try.prog 50 #[.pointer (some ⟨g, 0, none⟩)] w fun e w' => ∃ kb ck, e = .returned (.agg (evV (x, kb, ck)).toArray) ∧ KeyAt w' kb x.t ∧ w.heap.size ≤ kb ∧ Below w.heap.size w w' := by
  obtain ⟨kb, op, hG, hL, hK⟩ := h
  have c0 : w.cell? ⟨g, 0, none⟩ = some (.int .i64 (x.i : Int)) := hG.cell rfl
  have c1 : w.cell? ⟨g, 1, none⟩ = some (.int .i64 (x.t : Int)) := hG.cell rfl
  have c2 : w.cell? ⟨g, 2, none⟩ = some (.int .i64 (x.t : Int)) := hG.cell rfl
  have c3 : w.cell? ⟨g, 3, none⟩ = some (.int .i64 1) := hG.cell rfl
  have c4 : w.cell? ⟨g, 4, none⟩ = some (.int .i64 (x.e : Int)) := hG.cell rfl
  have c5 : w.cell? ⟨g, 5, none⟩ = some (.int .u64 (x.v : Int)) := hG.cell rfl
  have c6 : w.cell? ⟨g, 6, none⟩ = some (.slice none 0 0) := hG.cell rfl
  have c7 : w.cell? ⟨g, 7, none⟩ = some (.slice (some ⟨kb, 0, none⟩) 1 1) := hG.cell rfl
  have HK := Lib.hid hK
  have hglt := hG.lt
  have hklt := hK.lt
  have hx0 : ¬ x.t = 0 := by omega
  clear hG hK
  go_enter Try.func50, Try.ntmps50
  go_wp2_with fail
  have HB2 : Hid (Below w.heap.size w ((w.alloc (.cells #[.int .i64 0, .int .i64 0, .int .i64 0, .int .i64 0, .int .i64 0, .int .u64 0, .slice none 0 0, .slice none 0 0] 63)).alloc (.cells #[.int .i64 (x.i : Int), .int .i64 (x.t : Int), .int .i64 (x.t : Int), .int .i64 1, .int .i64 (x.e : Int), .int .u64 (x.v : Int), .slice none 0 0, .slice (some ⟨kb, 0, none⟩) 1 1] 63))) := Lib.hid (((Below.refl _ _).alloc (Nat.le_refl _) _).alloc (by simp) _)
  have HZ2 : Hid (RowBlk 63 ((w.alloc (.cells #[.int .i64 0, .int .i64 0, .int .i64 0, .int .i64 0, .int .i64 0, .int .u64 0, .slice none 0 0, .slice none 0 0] 63)).alloc (.cells #[.int .i64 (x.i : Int), .int .i64 (x.t : Int), .int .i64 (x.t : Int), .int .i64 1, .int .i64 (x.e : Int), .int .u64 (x.v : Int), .slice none 0 0, .slice (some ⟨kb, 0, none⟩) 1 1] 63)) w.heap.size [.int .i64 0, .int .i64 0, .int .i64 0, .int .i64 0, .int .i64 0, .int .u64 0, .slice none 0 0, .slice none 0 0]) := Lib.hid ((RowBlk.new _ _ _).alloc _)
  have HV2 : Hid (RowBlk 63 ((w.alloc (.cells #[.int .i64 0, .int .i64 0, .int .i64 0, .int .i64 0, .int .i64 0, .int .u64 0, .slice none 0 0, .slice none 0 0] 63)).alloc (.cells #[.int .i64 (x.i : Int), .int .i64 (x.t : Int), .int .i64 (x.t : Int), .int .i64 1, .int .i64 (x.e : Int), .int .u64 (x.v : Int), .slice none 0 0, .slice (some ⟨kb, 0, none⟩) 1 1] 63)) (w.heap.size + 1) [.int .i64 (x.i : Int), .int .i64 (x.t : Int), .int .i64 (x.t : Int), .int .i64 1, .int .i64 (x.e : Int), .int .u64 (x.v : Int), .slice none 0 0, .slice (some ⟨kb, 0, none⟩) 1 1]) := Lib.hid (by
    have h := RowBlk.new (w.alloc (.cells #[.int .i64 0, .int .i64 0, .int .i64 0, .int .i64 0, .int .i64 0, .int .u64 0, .slice none 0 0, .slice none 0 0] 63)) [.int .i64 (x.i : Int), .int .i64 (x.t : Int), .int .i64 (x.t : Int), .int .i64 1, .int .i64 (x.e : Int), .int .u64 (x.v : Int), .slice none 0 0, .slice (some ⟨kb, 0, none⟩) 1 1] 63
    have e : (w.alloc (.cells #[.int .i64 0, .int .i64 0, .int .i64 0, .int .i64 0, .int .i64 0, .int .u64 0, .slice none 0 0, .slice none 0 0] 63)).heap.size = w.heap.size + 1 := by simp
    rw [e] at h
    exact h)
  have HK2 := Lib.hid ((HK.out.alloc (.cells #[.int .i64 0, .int .i64 0, .int .i64 0, .int .i64 0, .int .i64 0, .int .u64 0, .slice none 0 0, .slice none 0 0] 63)).alloc (.cells #[.int .i64 (x.i : Int), .int .i64 (x.t : Int), .int .i64 (x.t : Int), .int .i64 1, .int .i64 (x.e : Int), .int .u64 (x.v : Int), .slice none 0 0, .slice (some ⟨kb, 0, none⟩) 1 1] 63))
  have hs2 : ((w.alloc (.cells #[.int .i64 0, .int .i64 0, .int .i64 0, .int .i64 0, .int .i64 0, .int .u64 0, .slice none 0 0, .slice none 0 0] 63)).alloc (.cells #[.int .i64 (x.i : Int), .int .i64 (x.t : Int), .int .i64 (x.t : Int), .int .i64 1, .int .i64 (x.e : Int), .int .u64 (x.v : Int), .slice none 0 0, .slice (some ⟨kb, 0, none⟩) 1 1] 63)).heap.size = w.heap.size + 1 + 1 := by simp
  clear c0 c1 c2 c3 c4 c5 c6 c7 HK
  generalize (w.alloc (.cells #[.int .i64 0, .int .i64 0, .int .i64 0, .int .i64 0, .int .i64 0, .int .u64 0, .slice none 0 0, .slice none 0 0] 63)).alloc (.cells #[.int .i64 (x.i : Int), .int .i64 (x.t : Int), .int .i64 (x.t : Int), .int .i64 1, .int .i64 (x.e : Int), .int .u64 (x.v : Int), .slice none 0 0, .slice (some ⟨kb, 0, none⟩) 1 1] 63) = W2 at HB2 HZ2 HV2 HK2 hs2 ⊢
  refine (clone_u64_nil W2).mono ?_
  rintro e w3 ⟨rfl, rfl⟩
  have d6 : W2.cell? ⟨w.heap.size + 1, 6, none⟩ = some (.slice none 0 0) := HV2.out.cell rfl
  have f6 : W2.frozen? ⟨w.heap.size + 1, 6, none⟩ = false := HV2.out.free
  have d2 : W2.cell? ⟨w.heap.size + 1, 2, none⟩ = some (.int .i64 (x.t : Int)) := HV2.out.cell rfl
  have d7 : W2.cell? ⟨w.heap.size + 1, 7, none⟩ = some (.slice (some ⟨kb, 0, none⟩) 1 1) := HV2.out.cell rfl
  have n01 : w.heap.size ≠ w.heap.size + 1 := by omega
  have HB3 : Hid (Below w.heap.size w (W2.setCell ⟨w.heap.size + 1, 6, none⟩ (.slice none 0 0))) := Lib.hid (HB2.out.setCell (show w.heap.size ≤ (⟨w.heap.size + 1, 6, none⟩ : Addr).block by show w.heap.size ≤ w.heap.size + 1; omega) _)
  have HZ3 := Lib.hid (HZ2.out.other (a := ⟨w.heap.size + 1, 6, none⟩) n01 (.slice none 0 0))
  have HV3 : Hid (RowBlk 63 (W2.setCell ⟨w.heap.size + 1, 6, none⟩ (.slice none 0 0)) (w.heap.size + 1) [.int .i64 (x.i : Int), .int .i64 (x.t : Int), .int .i64 (x.t : Int), .int .i64 1, .int .i64 (x.e : Int), .int .u64 (x.v : Int), .slice none 0 0, .slice (some ⟨kb, 0, none⟩) 1 1]) := Lib.hid (HV2.out.put 6 _)
  have HK3 := Lib.hid (HK2.out.other (a := ⟨w.heap.size + 1, 6, none⟩) (fun e => by simp at e; omega) (.slice none 0 0))
  have hs3 : (W2.setCell ⟨w.heap.size + 1, 6, none⟩ (.slice none 0 0)).heap.size = w.heap.size + 1 + 1 := by simp [World.setCell, hs2]
  clear HB2 HZ2 HV2 HK2 hs2
  go_wp2_with fail
  generalize W2.setCell ⟨w.heap.size + 1, 6, none⟩ (.slice none 0 0) = W3 at HB3 HZ3 HV3 HK3 hs3 ⊢
  refine (clone_int_one kb 1 _ W3 (HK3.out.cell rfl)).mono ?_
  rintro e w4 ⟨kb2, ck, cur, rfl, hkb, hcur, hkl, hb4⟩
  have hZ4 := HZ3.out.same (hb4.block _ (by omega))
  have hV4 := HV3.out.same (hb4.block _ (by omega))
  have e0 := hV4.cell (i := 0) rfl
  have e1 := hV4.cell (i := 1) rfl
  have e2 := hV4.cell (i := 2) rfl
  have e3 := hV4.cell (i := 3) rfl
  have e4 := hV4.cell (i := 4) rfl
  have e5 := hV4.cell (i := 5) rfl
  have e6 := hV4.cell (i := 6) rfl
  have e7 := hV4.cell (i := 7) rfl
  have z0 := hZ4.cell (i := 0) rfl
  have z1 := hZ4.cell (i := 1) rfl
  have z2 := hZ4.cell (i := 2) rfl
  have z3 := hZ4.cell (i := 3) rfl
  have z4 := hZ4.cell (i := 4) rfl
  have z5 := hZ4.cell (i := 5) rfl
  have z6 := hZ4.cell (i := 6) rfl
  have z7 := hZ4.cell (i := 7) rfl
  have fz : ∀ k, w4.frozen? ⟨w.heap.size, k, none⟩ = false := fun k => hZ4.free
  have fv : ∀ k, w4.frozen? ⟨w.heap.size + 1, k, none⟩ = false := fun k => hV4.free
  have hne1 : kb2 ≠ w.heap.size := by omega
  have hne2 : kb2 ≠ w.heap.size + 1 := by omega
  have HZ6 : Hid (RowBlk 63 (((((((((w4.setCell ⟨w.heap.size + 1, 7, none⟩ (.slice (some ⟨kb2, 0, none⟩) 1 ck)).setCell ⟨w.heap.size, 0, none⟩ (.int .i64 (x.i : Int))).setCell ⟨w.heap.size, 1, none⟩ (.int .i64 (x.t : Int))).setCell ⟨w.heap.size, 2, none⟩ (.int .i64 (x.t : Int))).setCell ⟨w.heap.size, 3, none⟩ (.int .i64 1)).setCell ⟨w.heap.size, 4, none⟩ (.int .i64 (x.e : Int))).setCell ⟨w.heap.size, 5, none⟩ (.int .u64 (x.v : Int))).setCell ⟨w.heap.size, 6, none⟩ (.slice none 0 0)).setCell ⟨w.heap.size, 7, none⟩ (.slice (some ⟨kb2, 0, none⟩) 1 ck)) w.heap.size (evV (x, kb2, ck))) := Lib.hid (((((((((hZ4.other (a := ⟨w.heap.size + 1, 7, none⟩) n01 _).put 0 _).put 1 _).put 2 _).put 3 _).put 4 _).put 5 _).put 6 _).put 7 _)
  have HK6 : Hid (KeyAt (((((((((w4.setCell ⟨w.heap.size + 1, 7, none⟩ (.slice (some ⟨kb2, 0, none⟩) 1 ck)).setCell ⟨w.heap.size, 0, none⟩ (.int .i64 (x.i : Int))).setCell ⟨w.heap.size, 1, none⟩ (.int .i64 (x.t : Int))).setCell ⟨w.heap.size, 2, none⟩ (.int .i64 (x.t : Int))).setCell ⟨w.heap.size, 3, none⟩ (.int .i64 1)).setCell ⟨w.heap.size, 4, none⟩ (.int .i64 (x.e : Int))).setCell ⟨w.heap.size, 5, none⟩ (.int .u64 (x.v : Int))).setCell ⟨w.heap.size, 6, none⟩ (.slice none 0 0)).setCell ⟨w.heap.size, 7, none⟩ (.slice (some ⟨kb2, 0, none⟩) 1 ck)) kb2 x.t) := Lib.hid (by
    have h : KeyAt w4 kb2 x.t := ⟨cur, hkb, hcur⟩
    have e : ∀ (W : World) (a : Addr) (v : Value), kb2 ≠ a.block → KeyAt W kb2 x.t → KeyAt (W.setCell a v) kb2 x.t := fun W a v ha hk => hk.same (Below.heap_setCell _ _ _ _ ha)
    exact e _ _ _ hne1 (e _ _ _ hne1 (e _ _ _ hne1 (e _ _ _ hne1 (e _ _ _ hne1 (e _ _ _ hne1 (e _ _ _ hne1 (e _ _ _ hne1 (e _ _ _ hne2 h)))))))))
  have HB6 : Hid (Below w.heap.size w (((((((((w4.setCell ⟨w.heap.size + 1, 7, none⟩ (.slice (some ⟨kb2, 0, none⟩) 1 ck)).setCell ⟨w.heap.size, 0, none⟩ (.int .i64 (x.i : Int))).setCell ⟨w.heap.size, 1, none⟩ (.int .i64 (x.t : Int))).setCell ⟨w.heap.size, 2, none⟩ (.int .i64 (x.t : Int))).setCell ⟨w.heap.size, 3, none⟩ (.int .i64 1)).setCell ⟨w.heap.size, 4, none⟩ (.int .i64 (x.e : Int))).setCell ⟨w.heap.size, 5, none⟩ (.int .u64 (x.v : Int))).setCell ⟨w.heap.size, 6, none⟩ (.slice none 0 0)).setCell ⟨w.heap.size, 7, none⟩ (.slice (some ⟨kb2, 0, none⟩) 1 ck))) := Lib.hid ((((((((((HB3.out.trans (hb4.mono (by omega))).setCell (show w.heap.size ≤ (⟨w.heap.size + 1, 7, none⟩ : Addr).block by show w.heap.size ≤ w.heap.size + 1; omega) _).setCell (Nat.le_refl _) _).setCell (Nat.le_refl _) _).setCell (Nat.le_refl _) _).setCell (Nat.le_refl _) _).setCell (Nat.le_refl _) _).setCell (Nat.le_refl _) _).setCell (Nat.le_refl _) _).setCell (Nat.le_refl _) _)
  have hkl2 : w.heap.size ≤ kb2 := by omega
  clear hkb hcur hb4 hZ4 hV4 HB3 HZ3 HV3 HK3
  go_wp2
  generalize ((((((((w4.setCell ⟨w.heap.size + 1, 7, none⟩ (.slice (some ⟨kb2, 0, none⟩) 1 ck)).setCell ⟨w.heap.size, 0, none⟩ (.int .i64 (x.i : Int))).setCell ⟨w.heap.size, 1, none⟩ (.int .i64 (x.t : Int))).setCell ⟨w.heap.size, 2, none⟩ (.int .i64 (x.t : Int))).setCell ⟨w.heap.size, 3, none⟩ (.int .i64 1)).setCell ⟨w.heap.size, 4, none⟩ (.int .i64 (x.e : Int))).setCell ⟨w.heap.size, 5, none⟩ (.int .u64 (x.v : Int))).setCell ⟨w.heap.size, 6, none⟩ (.slice none 0 0)).setCell ⟨w.heap.size, 7, none⟩ (.slice (some ⟨kb2, 0, none⟩) 1 ck) = W6 at HZ6 HK6 HB6 ⊢
  have q0 := HZ6.out.cell (i := 0) rfl
  have q1 := HZ6.out.cell (i := 1) rfl
  have q2 := HZ6.out.cell (i := 2) rfl
  have q3 := HZ6.out.cell (i := 3) rfl
  have q4 := HZ6.out.cell (i := 4) rfl
  have q5 := HZ6.out.cell (i := 5) rfl
  have q6 := HZ6.out.cell (i := 6) rfl
  have q7 := HZ6.out.cell (i := 7) rfl
  exact bodyPost_ret (v := .agg (evV (x, kb2, ck)).toArray) (by simp [results, Try.results50, go_sem, q0, q1, q2, q3, q4, q5, q6, q7, evV]) rfl ⟨kb2, ck, rfl, HK6.out, hkl2, HB6.out⟩
end Go.Proofs.Ytjlopeijdmnacaa
