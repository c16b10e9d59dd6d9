/- Walks of loom: Size, Place, sizesOf, place. -/
import Derived.Test.YtjlopeijdmnacaaY9
import Derived.Lib.AppendZeros
namespace Go.Proofs.Ytjlopeijdmnacaa
open Go.RowKit

def cellsV (size : Int) : Value := .iface 106 (.agg #[.int .i64 size])
theorem meth_size (a : Int) (w : World) : (method 295 106 (.agg #[.int .i64 a]) "Size").run Try.prog w = .ok (80, .agg #[.int .i64 a]) w := by kernel_rfl
theorem meth_place (a : Int) (w : World) : (method 295 106 (.agg #[.int .i64 a]) "Place").run Try.prog w = .ok (79, .agg #[.int .i64 a]) w := by kernel_rfl
theorem notFilled (v : Value) (w : World) : (Instr.typeAssert (.iface 106 v) 89 134 true).run Try.prog w = .ok (.tuple #[.nilIface, .bool false]) w :=
  run_typeAssert_lacksB Try.underlying134 (by kernel_rfl) (by kernel_rfl) v 89 w
theorem infoOb : (Try.prog.info? 138).map (fun i => (i.zero, i.size, i.bytes)) = some (some .nilIface, 1, 16) := by kernel_rfl

set_option maxHeartbeats 400000 in
theorem size_ok (size n : Int) (w : World) (h1 : 1 ≤ size) (h2 : size ≤ 64) : Calls Try.prog 80 #[.agg #[.int .i64 size], .int .i64 n] w fun e w' => e = .returned (.tuple #[.int .i64 size, .int .i64 0]) ∧ Below w.heap.size w w' := by
  go_enter Try.func80, Try.ntmps80
  go_wp2
  go_ret2
  exact ⟨rfl, (Below.refl _ _).alloc (Nat.le_refl _) _⟩
set_option maxHeartbeats 400000 in
theorem size_bad (size n : Int) (w : World) (h : size < 1 ∨ 64 < size) : Calls Try.prog 80 #[.agg #[.int .i64 size], .int .i64 n] w fun e w' => e = .returned (.tuple #[.int .i64 0, .int .i64 10]) ∧ Below w.heap.size w w' := by
  by_cases h1 : size < 1
  · go_enter Try.func80, Try.ntmps80
    go_wp2
    go_ret2
    exact ⟨rfl, (Below.refl _ _).alloc (Nat.le_refl _) _⟩
  · have h2 : 64 < size := by omega
    go_enter Try.func80, Try.ntmps80
    go_wp2
    go_ret2
    exact ⟨rfl, (Below.refl _ _).alloc (Nat.le_refl _) _⟩
set_option maxHeartbeats 400000 in
theorem place_one (size n b : Int) (w : World) : Calls Try.prog 79 #[.agg #[.int .i64 size], .int .i64 n, .int .i64 b] w fun e w' => e = .returned (.iface 182 (.agg #[.int .i64 size, .int .i64 b])) ∧ Below w.heap.size w w' := by
  go_enter Try.func79, Try.ntmps79
  go_wp2
  go_ret
  exact ⟨rfl, (Below.refl _ _).alloc (Nat.le_refl _) _⟩

set_option maxRecDepth 100000 in
set_option maxHeartbeats 2000000 in
theorem sizes_bad (n size : Int) (ob co : Nat) (w : World) (hb : w.cell? ⟨ob, 0, none⟩ = some (cellsV size)) (h : size < 1 ∨ 64 < size) :
    Calls Try.prog 54 #[.int .i64 n, .slice (some ⟨ob, 0, none⟩) 1 co] w fun e w' => e = .returned (.tuple #[.slice none 0 0, .int .i64 10]) ∧ Below w.heap.size w w' := by
  have hm := meth_size size
  unfold cellsV at hb
  go_enter Try.func54, Try.ntmps54
  go_wp2_with fail
  refine wp_loop_rounds 1 ?_
  rw [rounds_succ]
  go_wp2_with fail
  refine (size_bad size n w h).mono ?_
  rintro e w1 ⟨rfl, hb1⟩
  go_wp2_with fail
  go_ret2
  exact ⟨rfl, hb1⟩

def SizesPost (size : Int) (w : World) (e : Ending) (w' : World) : Prop := ∃ g cap, e = .returned (.tuple #[.slice (some ⟨g, 0, none⟩) 1 cap, .int .i64 0]) ∧ w'.cell? ⟨g, 0, none⟩ = some (.int .i64 size) ∧ w.heap.size ≤ g ∧ g < w'.heap.size ∧ Below w.heap.size w w'

set_option maxRecDepth 100000 in
set_option maxHeartbeats 2000000 in
theorem sizes_ok (n size : Int) (ob co : Nat) (w : World) (hb : w.cell? ⟨ob, 0, none⟩ = some (cellsV size)) (h1 : 1 ≤ size) (h2 : size ≤ 64) :
    Calls Try.prog 54 #[.int .i64 n, .slice (some ⟨ob, 0, none⟩) 1 co] w (SizesPost size w) := by
  have hm := meth_size size
  unfold cellsV at hb
  obtain ⟨iI, ia, ib, ic, id⟩ := info_parts infoIu
  go_enter Try.func54, Try.ntmps54
  go_wp2_with fail
  refine wp_loop_rounds 2 ?_
  rw [rounds_succ]
  go_wp2_with fail
  refine (size_ok size n w h1 h2).mono ?_
  rintro e w1 ⟨rfl, hb1⟩
  have HB1 := Lib.hid hb1
  have hs1 := hb1.size
  clear hb1
  go_wp2_with (at_builtin; refine append_new rfl _ _ 23 rfl w.heap.size 3 iI (.int .i64 0) 1 8 Try.underlying23 ia ib ic id rfl (by decide) (by decide) _ 0 _ rfl (World.ownsRow_nil _ _ _ _) [.int .i64 size] rfl rfl rfl (by omega) hs1 ?_)
  intro v2 w2 ho2 hb2 _ _
  obtain ⟨ao, g, cap, rfl, hao, hg1, hg2, hgc⟩ := owns_open ho2
  obtain rfl := hao (by decide)
  have c0 := hgc 0 _ rfl
  have hgl := hg2 (by decide)
  have hgs := hg1 (by decide)
  have HB2 := Lib.hid (HB1.out.trans hb2)
  clear ho2 hb2 hgc hao hg1 hg2 HB1
  go_wp2_with fail
  rw [rounds_succ]
  go_wp2_with fail
  refine wp_loop_rounds 2 ?_
  rw [rounds_succ]
  go_wp2_with fail
  rw [rounds_succ]
  go_wp2_with fail
  go_ret2
  exact ⟨g, cap, rfl, c0, hgs, hgl, HB2.out⟩

/-- what place gives -/
def PlacePost (size : Nat) (w : World) (e : Ending) (w' : World) : Prop :=
  ∃ gw capw go capo, e = .returned (.tuple #[.slice (some ⟨gw, 0, none⟩) size capw, .slice (some ⟨go, 0, none⟩) 1 capo, .int .i64 0]) ∧ UCells w' gw 0 (List.replicate size 0) ∧ w'.cell? ⟨go, 0, none⟩ = some (cellsObj size 0) ∧
    w.heap.size ≤ gw ∧ gw < w'.heap.size ∧ w.heap.size ≤ go ∧ go < w'.heap.size ∧ Below w.heap.size w w'

set_option maxRecDepth 100000 in
set_option maxHeartbeats 2000000 in
theorem place_bad (n size : Int) (ob co : Nat) (w : World) (hb : w.cell? ⟨ob, 0, none⟩ = some (cellsV size)) (h : size < 1 ∨ 64 < size) :
    Calls Try.prog 45 #[.int .i64 n, .slice (some ⟨ob, 0, none⟩) 1 co] w fun e w' => e = .returned (.tuple #[.slice none 0 0, .slice none 0 0, .int .i64 10]) ∧ Below w.heap.size w w' := by
  go_enter Try.func45, Try.ntmps45
  go_wp2_with fail
  refine (sizes_bad n size ob co w hb h).mono ?_
  rintro e w1 ⟨rfl, hb1⟩
  go_wp2_with fail
  go_ret3
  exact ⟨rfl, hb1⟩

theorem zero_get {z : Value} {n i : Nat} (h : i < n) : (Builtin.zeroCells #[z] n)[i]? = some z := by
  unfold Builtin.zeroCells
  have e : (Array.range (n * (#[z] : Array Value).size))[i]? = some i := by
    rw [Array.getElem?_eq_getElem (by simpa using h)]; simp
  rw [Array.getElem?_map, e]
  simp [Nat.mod_one]
theorem zeros_append {w : World} {n : Nat} (h0 : 0 < n) (hn : n ≤ 64) : ∃ cap w', (∀ ty, (Builtin.append_ #[49, 3] ty #[.slice none 0 0, .int .i64 (n : Int)]).run Try.prog w = .ok (.slice (some ⟨w.heap.size, 0, none⟩) n cap) w') ∧ UCells w' w.heap.size 0 (List.replicate n 0) ∧ Below w.heap.size w w' ∧ w.heap.size < w'.heap.size := by
  obtain ⟨i0, hi, hz0, hz1, hz2⟩ := info_parts info22
  refine ⟨grownCap w n 0 43, _, fun ty => Lib.run_append_nil_zeros w 49 3 ty 43 i0 (.int .u64 0) .i64 .i64 Try.underlying49 Try.underlying3 hi hz0 n h0 (by omega) (by omega) (by rw [hz2]; omega), ?_, (below_drew (Below.refl _ _)).alloc (Nat.le_refl _) _, by simp⟩
  intro i x hx
  have hin : i < n := by have := (List.getElem?_eq_some_iff.1 hx).1; simpa using this
  rw [List.getElem?_replicate, if_pos hin] at hx
  cases hx
  have h : (w.drew.alloc (.cells (Builtin.zeroCells (Value.int .u64 0).cells n ++ Builtin.zeroCells (Value.int .u64 0).cells (grownCap w n 0 43 - n)) 43)).heap[w.heap.size]? = some (.cells (Builtin.zeroCells (Value.int .u64 0).cells n ++ Builtin.zeroCells (Value.int .u64 0).cells (grownCap w n 0 43 - n)) 43 (0, 0)) := heap_alloc_new w.drew _
  rw [Nat.zero_add]
  refine cell_of_heap h ?_
  show (Builtin.zeroCells #[Value.int .u64 0] n ++ Builtin.zeroCells #[Value.int .u64 0] (grownCap w n 0 43 - n))[i]? = _
  rw [Array.getElem?_append_left (by rw [size_zeroCells]; simpa using hin), zero_get hin]
  rfl

set_option maxRecDepth 100000 in
set_option maxHeartbeats 2000000 in
theorem place_ok (n : Int) (size ob co : Nat) (w : World) (hb : w.cell? ⟨ob, 0, none⟩ = some (cellsV size)) (h1 : 1 ≤ size) (h2 : size ≤ 64) :
    Calls Try.prog 45 #[.int .i64 n, .slice (some ⟨ob, 0, none⟩) 1 co] w (PlacePost size w) := by
  have hm := meth_place (size : Int)
  have hnf := notFilled (.agg #[.int .i64 (size : Int)])
  have hob := World.block_lt_of_cell? w ⟨ob, 0, none⟩ hb
  obtain ⟨iI, ia, ib, ic, id⟩ := info_parts infoOb
  go_enter Try.func45, Try.ntmps45
  go_wp2_with fail
  refine (sizes_ok n size ob co w hb (by omega) (by omega)).mono ?_
  rintro e w1 ⟨gs, cs, rfl, hcs, hgs, hgs2, hb1⟩
  have HB1 := Lib.hid hb1
  have hs1 := hb1.size
  have hob1 : w1.cell? ⟨ob, 0, none⟩ = some (.iface 106 (.agg #[.int .i64 (size : Int)])) := (hb1.cell (p := ⟨ob, 0, none⟩) hob).trans hb
  obtain ⟨capw, w2, hap, hu, hb2, hlt2⟩ := zeros_append (w := w1) (n := size) (by omega) h2
  have HU := Lib.hid hu
  have HB2 := Lib.hid (HB1.out.trans (hb2.mono hs1))
  have hs2 := hb2.size
  have hob2 : w2.cell? ⟨ob, 0, none⟩ = some (.iface 106 (.agg #[.int .i64 (size : Int)])) := (hb2.cell (p := ⟨ob, 0, none⟩) (by show ob < w1.heap.size; omega)).trans hob1
  clear hb hb1 hu hb2
  go_wp2_with fail
  refine wp_loop_rounds 2 ?_
  rw [rounds_succ]
  go_wp2_with (at_builtin; refine Lib.wpList_append_run _ rfl _ _ 49 3 rfl _ _ rfl rfl _ _ (hap _) ?_)
  go_wp2_with fail
  refine (place_one size n 0 w2).mono ?_
  rintro e w3 ⟨rfl, hb3⟩
  have HB3 := Lib.hid (HB2.out.trans (hb3.mono (by omega)))
  have HU3 : Hid (UCells w3 w1.heap.size 0 (List.replicate size 0)) := Lib.hid (HU.out.stays hb3 (fun _ => hlt2))
  have hs3 := hb3.size
  clear hb3 hap hob1 hob2 hcs
  have hs30 : w.heap.size ≤ w3.heap.size := by omega
  go_wp2_with (at_builtin; refine append_new rfl _ _ 108 rfl w3.heap.size 138 iI .nilIface 1 16 Try.underlying108 ia ib ic id rfl (by decide) (by decide) _ 0 _ rfl (World.ownsRow_nil _ _ _ _) [.iface 182 (.agg #[.int .i64 (size : Int), .int .i64 0])] rfl rfl rfl (by omega) (Nat.le_refl _) ?_)
  intro v4 w4 ho4 hb4 hk4 _
  obtain ⟨ao, g, cap, rfl, hao, hg1, hg2, hgc⟩ := owns_open ho4
  obtain rfl := hao (by decide)
  have HC0 := Lib.hid (hgc 0 _ rfl)
  have hgl := hg2 (by decide)
  have hgs' := hg1 (by decide)
  have HB4 := Lib.hid (HB3.out.trans (hb4.mono hs30))
  have hs4 := hb4.size
  have HU4 : Hid (UCells w4 w1.heap.size 0 (List.replicate size 0)) := Lib.hid (HU3.out.stays hb4 (fun _ => by omega))
  clear ho4 hb4 hgc hao hg1 hg2
  go_wp2_with fail
  rw [rounds_succ]
  go_wp2_with fail
  go_ret3
  exact ⟨w1.heap.size, capw, g, cap, rfl, HU4.out, HC0.out, hs1, by omega, by omega, hgl, HB4.out⟩
end Go.Proofs.Ytjlopeijdmnacaa
