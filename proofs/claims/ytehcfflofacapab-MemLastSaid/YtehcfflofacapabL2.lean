/- Walk of the law MemLast, at addresses that there are. -/
import Derived.Test.YtehcfflofacapabL
namespace Go.Proofs.Ytehcfflofacapab
open Go.RowKit

/-- where the law stands: the memory, and all that was there when the boxes were laid -/
structure At (w0 : World) (B bm bw : Nat) (l : List Nat) (c : Cn) (wk : World) : Prop where
  m : MemIs 40 wk bm bw l c
  b : Below B w0 wk
theorem At.next {w0 wk wn : World} {B bm bw : Nat} {l k : List Nat} {c d : Cn} (h : At w0 B bm bw l c wk) (h1 : B ≤ bm) (h2 : B ≤ bw) (hs : B ≤ w0.heap.size) (hm : MemIs 40 wn bm bw k d) (hb : But bm bw wk wn) : At w0 B bm bw k d wn :=
  ⟨hm, h.b.trans (hb.below h1 h2 (Nat.le_trans hs h.b.size))⟩

set_option maxRecDepth 100000 in
set_option maxHeartbeats 600000 in
theorem last_same (ao : Option Addr) (b o cap : Nat) (l : List Nat) (i : Nat) (x y : Nat) (w : World) (hn : l.length ≤ 65536) (ha : 0 < l.length → ao = some ⟨b, o, none⟩) (hb : 0 < l.length → b < w.heap.size) (hc : UCells w b o l)
    (hi : i < l.length) :
    Calls Try.prog 3 #[.slice ao l.length cap, .agg #[.int .i64 i, .int .i64 i], .agg #[.int .u64 x, .int .u64 y]] w fun e w' => e = .returned (.bool true) ∧ Below w.heap.size w w' := by
  have HA := Lib.hid ha
  have HC : Hid (UCells ((w.alloc (.cells #[.int .i64 i, .int .i64 i] 23)).alloc (.cells #[.int .u64 (x : Int), .int .u64 (y : Int)] 25)) b o l) :=
    Lib.hid (UCells.stays hc (((Below.refl w.heap.size w).alloc (Nat.le_refl _) _).alloc (by simp) _) hb)
  have HB : Hid (0 < l.length → b < w.heap.size + 1 + 1) := fun h => by have := hb h; omega
  clear ha hb hc
  have e0 : Hid (l[i]? = some l[i]) := Lib.hid (List.getElem?_eq_getElem hi)
  have e1 : Hid ((l.set i x)[i]? = some x) := Lib.hid (by rw [List.getElem?_set, if_pos rfl, if_pos hi])
  have e2 : Hid (((l.set i x).set i y)[i]? = some y) := Lib.hid (by rw [List.getElem?_set, if_pos rfl, if_pos (by rw [List.length_set]; exact hi)])
  have n1 : Hid ((l.set i x).length ≤ 65536) := Lib.hid (by rw [List.length_set]; exact hn)
  have n2 : Hid (((l.set i x).set i y).length ≤ 65536) := Lib.hid (by rw [List.length_set, List.length_set]; exact hn)
  go_enter Try.func3, Try.ntmps3
  go_wp2_with fail
  refine (new_ok ao b o cap l _ hn HA.out (fun h => by have := HB.out h; simpa using this) HC.out).mono ?_
  rintro e w1 ⟨bm, bw, rfl, hM, hbm, hbw, hb1⟩
  have hbm' : w.heap.size + 2 ≤ bm := by simp at hbm; omega
  have hbw' : w.heap.size + 2 ≤ bw := by simp at hbw; omega
  have hs0 : Hid (w.heap.size + 2 ≤ ((w.alloc (.cells #[.int .i64 i, .int .i64 i] 23)).alloc (.cells #[.int .u64 (x : Int), .int .u64 (y : Int)] 25)).heap.size) := Lib.hid (by simp)
  have HQ1 := Lib.hid (At.mk hM (hb1.mono hs0.out))
  obtain ⟨q0, q1, z0, z1⟩ := boxes HQ1.out.b
  clear hM hb1 hbm hbw
  go_wp2_with fail
  refine (write_ok bm bw i _ x l _ _ HQ1.out.m e0.out hn (by simp)).mono ?_
  rintro e w2 ⟨rfl, hM2, hB2⟩
  have HQ2 := Lib.hid (HQ1.out.next hbm' hbw' hs0.out hM2 hB2)
  obtain ⟨q0, q1, z0, z1⟩ := boxes HQ2.out.b
  clear hM2 hB2
  go_wp2_with fail
  refine (write_ok bm bw i _ y _ _ _ HQ2.out.m e1.out n1.out (by simp)).mono ?_
  rintro e w3 ⟨rfl, hM3, hB3⟩
  have HQ3 := Lib.hid (HQ2.out.next hbm' hbw' hs0.out hM3 hB3)
  obtain ⟨q0, q1, z0, z1⟩ := boxes HQ3.out.b
  clear hM3 hB3
  go_wp2_with fail
  go_region_held3 (fun w' => w'.cell? ⟨w.heap.size, 0, none⟩ = some (.int .i64 i) ∧ w'.cell? ⟨w.heap.size + 1, 1, none⟩ = some (.int .u64 (y : Int)))
    (first | exact ⟨q0, z1⟩ | go_keep)
    (first
      | (go_at_call 7; refine (read_ok bm bw i y _ _ _ HQ3.out.m.drew e2.out n2.out (by simp)).mono ?_; rintro e w4 ⟨rfl, hM4, hB4⟩; have HQ4 := Lib.hid (HQ3.out.next hbm' hbw' hs0.out hM4 (((But.refl _ _ _).drew).trans hB4)); obtain ⟨q0, q1, z0, z1⟩ := boxes HQ4.out.b; clear hM4 hB4)
      | (go_at_call 5; refine (two_any _).mono ?_; rintro e w5 ⟨rfl, hb5⟩; have HB5 := Lib.hid (HQ4.out.b.trans (hb5.mono (Nat.le_trans hs0.out HQ4.out.b.size))); obtain ⟨q0, q1, z0, z1⟩ := boxes HB5.out; clear hb5))
  go_wp2
  go_ret
  exact ⟨rfl, (((Below.refl w.heap.size w).alloc (Nat.le_refl _) _).alloc (by simp) _).trans (HB5.out.mono (by omega))⟩

set_option maxRecDepth 100000 in
set_option maxHeartbeats 1000000 in
theorem last_two (ao : Option Addr) (b o cap : Nat) (l : List Nat) (i j : Nat) (x y : Nat) (w : World) (hn : l.length ≤ 65536) (ha : 0 < l.length → ao = some ⟨b, o, none⟩) (hb : 0 < l.length → b < w.heap.size) (hc : UCells w b o l)
    (hi : i < l.length) (hj : j < l.length) (hij : i ≠ j) :
    Calls Try.prog 3 #[.slice ao l.length cap, .agg #[.int .i64 i, .int .i64 j], .agg #[.int .u64 x, .int .u64 y]] w fun e w' => e = .returned (.bool true) ∧ Below w.heap.size w w' := by
  have HA := Lib.hid ha
  have HC : Hid (UCells ((w.alloc (.cells #[.int .i64 i, .int .i64 j] 23)).alloc (.cells #[.int .u64 (x : Int), .int .u64 (y : Int)] 25)) b o l) :=
    Lib.hid (UCells.stays hc (((Below.refl w.heap.size w).alloc (Nat.le_refl _) _).alloc (by simp) _) hb)
  have HB : Hid (0 < l.length → b < w.heap.size + 1 + 1) := fun h => by have := hb h; omega
  clear ha hb hc
  have hne : ((i : Int) == (j : Int)) = false := by simp; omega
  have e0 : Hid (l[i]? = some l[i]) := Lib.hid (List.getElem?_eq_getElem hi)
  have e1 : Hid ((l.set i x)[j]? = some l[j]) := Lib.hid (by rw [List.getElem?_set, if_neg hij]; exact List.getElem?_eq_getElem hj)
  have e2 : Hid (((l.set i x).set j y)[i]? = some x) := Lib.hid (by rw [List.getElem?_set, if_neg (Ne.symm hij), List.getElem?_set, if_pos rfl, if_pos hi])
  have e3 : Hid (((l.set i x).set j y)[j]? = some y) := Lib.hid (by rw [List.getElem?_set, if_pos rfl, if_pos (by rw [List.length_set]; exact hj)])
  have e4 : Hid ((((l.set i x).set j y).set i y)[i]? = some y) := Lib.hid (by rw [List.getElem?_set, if_pos rfl, if_pos (by rw [List.length_set, List.length_set]; exact hi)])
  have e5 : Hid (((((l.set i x).set j y).set i y).set i ((y + x) % 18446744073709551616))[i]? = some ((y + x) % 18446744073709551616)) := Lib.hid (by rw [List.getElem?_set, if_pos rfl, if_pos (by rw [List.length_set, List.length_set, List.length_set]; exact hi)])
  have e6 : Hid (((((l.set i x).set j y).set i y).set i ((y + x) % 18446744073709551616))[j]? = some y) := Lib.hid (by rw [List.getElem?_set, if_neg hij, List.getElem?_set, if_neg hij]; exact e3.out)
  have n1 : Hid ((l.set i x).length ≤ 65536) := Lib.hid (by rw [List.length_set]; exact hn)
  have n2 : Hid (((l.set i x).set j y).length ≤ 65536) := Lib.hid (by rw [List.length_set]; exact n1.out)
  have n3 : Hid ((((l.set i x).set j y).set i y).length ≤ 65536) := Lib.hid (by rw [List.length_set]; exact n2.out)
  have n4 : Hid (((((l.set i x).set j y).set i y).set i ((y + x) % 18446744073709551616)).length ≤ 65536) := Lib.hid (by rw [List.length_set]; exact n3.out)
  have hw : IntKind.u64.wrap ((y : Int) + (x : Int)) = (((y + x) % 18446744073709551616 : Nat) : Int) := by rw [IntKind.wrap_u64]; omega
  have HIJ := Lib.hid hij
  clear hij
  go_enter Try.func3, Try.ntmps3
  go_wp2_with fail
  refine (new_ok ao b o cap l _ hn HA.out (fun h => by have := HB.out h; simpa using this) HC.out).mono ?_
  rintro e w1 ⟨bm, bw, rfl, hM, hbm, hbw, hb1⟩
  have hbm' : w.heap.size + 2 ≤ bm := by simp at hbm; omega
  have hbw' : w.heap.size + 2 ≤ bw := by simp at hbw; omega
  have hs0 : Hid (w.heap.size + 2 ≤ ((w.alloc (.cells #[.int .i64 i, .int .i64 j] 23)).alloc (.cells #[.int .u64 (x : Int), .int .u64 (y : Int)] 25)).heap.size) := Lib.hid (by simp)
  have HQ1 := Lib.hid (At.mk hM (hb1.mono hs0.out))
  obtain ⟨q0, q1, z0, z1⟩ := boxes HQ1.out.b
  clear hM hb1 hbm hbw
  go_wp2_with fail
  refine (write_ok bm bw i _ x l _ _ HQ1.out.m e0.out hn (by simp)).mono ?_
  rintro e w2 ⟨rfl, hM2, hB2⟩
  have HQ2 := Lib.hid (HQ1.out.next hbm' hbw' hs0.out hM2 hB2)
  obtain ⟨q0, q1, z0, z1⟩ := boxes HQ2.out.b
  clear hM2 hB2
  go_wp2_with fail
  refine (write_ok bm bw j _ y _ _ _ HQ2.out.m e1.out n1.out (by simp)).mono ?_
  rintro e w3 ⟨rfl, hM3, hB3⟩
  have HQ3 := Lib.hid (HQ2.out.next hbm' hbw' hs0.out hM3 hB3)
  obtain ⟨q0, q1, z0, z1⟩ := boxes HQ3.out.b
  clear hM3 hB3
  go_wp2_with fail
  go_region_held3 (fun w' => w'.cell? ⟨w.heap.size, 0, none⟩ = some (.int .i64 i) ∧ w'.cell? ⟨w.heap.size, 1, none⟩ = some (.int .i64 j) ∧ w'.cell? ⟨w.heap.size + 1, 0, none⟩ = some (.int .u64 (x : Int)) ∧ w'.cell? ⟨w.heap.size + 1, 1, none⟩ = some (.int .u64 (y : Int)))
    (first | exact ⟨q0, q1, z0, z1⟩ | go_keep)
    (first
      | (go_at_call 8; refine (swap_hit bm bw i x y _ _ _ HQ5.out.m e2.out n2.out (by simp)).mono ?_; rintro e w6 ⟨rfl, hM6, hB6⟩; have HQ6 := Lib.hid (HQ5.out.next hbm' hbw' hs0.out hM6 hB6); obtain ⟨q0, q1, z0, z1⟩ := boxes HQ6.out.b; clear hM6 hB6)
      | (go_at_call 9; refine (add_ok bm bw i y x _ _ _ HQ6.out.m e4.out n3.out (by simp)).mono ?_; rintro e w7 ⟨rfl, hM7, hB7⟩; have HQ7 := Lib.hid (HQ6.out.next hbm' hbw' hs0.out hM7 hB7); obtain ⟨q0, q1, z0, z1⟩ := boxes HQ7.out.b; clear hM7 hB7)
      | (go_at_call 5; refine (two_any _).mono ?_; rintro e w10 ⟨rfl, hb10⟩; have HB10 := Lib.hid (HQ9.out.b.trans (hb10.mono (Nat.le_trans hs0.out HQ9.out.b.size))); obtain ⟨q0, q1, z0, z1⟩ := boxes HB10.out; clear hb10)
      | (go_at_call 7; refine (read_ok bm bw j y _ _ _ HQ8.out.m e6.out n4.out (by simp)).mono ?_; rintro e w9 ⟨rfl, hM9, hB9⟩; have HQ9 := Lib.hid (HQ8.out.next hbm' hbw' hs0.out hM9 hB9); obtain ⟨q0, q1, z0, z1⟩ := boxes HQ9.out.b; clear hM9 hB9)
      | (go_at_call 7; refine (read_ok bm bw i _ _ _ _ HQ7.out.m e5.out n4.out (by simp)).mono ?_; rintro e w8 ⟨rfl, hM8, hB8⟩; have HQ8 := Lib.hid (HQ7.out.next hbm' hbw' hs0.out hM8 hB8); obtain ⟨q0, q1, z0, z1⟩ := boxes HQ8.out.b; clear hM8 hB8)
      | (go_at_call 7; refine (read_ok bm bw j y _ _ _ HQ4.out.m e3.out n2.out (by simp)).mono ?_; rintro e w5 ⟨rfl, hM5, hB5⟩; have HQ5 := Lib.hid (HQ4.out.next hbm' hbw' hs0.out hM5 hB5); obtain ⟨q0, q1, z0, z1⟩ := boxes HQ5.out.b; clear hM5 hB5)
      | (go_at_call 7; refine (read_ok bm bw i x _ _ _ HQ3.out.m.drew e2.out n2.out (by simp)).mono ?_; rintro e w4 ⟨rfl, hM4, hB4⟩; have HQ4 := Lib.hid (HQ3.out.next hbm' hbw' hs0.out hM4 (((But.refl _ _ _).drew).trans hB4)); obtain ⟨q0, q1, z0, z1⟩ := boxes HQ4.out.b; clear hM4 hB4))
  go_wp2
  go_ret
  exact ⟨rfl, (((Below.refl w.heap.size w).alloc (Nat.le_refl _) _).alloc (by simp) _).trans (HB10.out.mono (by omega))⟩
end Go.Proofs.Ytehcfflofacapab
