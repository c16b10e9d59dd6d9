/- The reference's Apply, piece by piece: cons, adder, greatest, queue. | The reference's Apply, piece by piece: greatest, queue. | The reference's Apply, piece by piece: pin, snap. | The reference's Apply, piece by piece: snap. -/
import Derived.Test.YtjjleghalajidaaGreatGJ3
namespace Go.Proofs.YtjjleghalajidaaGreat
section
open Go.ChangeShapes Go.WideShapes Go.ChangeAt Go.RowKit
set_option linter.unusedVariables false
set_option linter.unusedSimpArgs false
set_option maxRecDepth 100000

set_option maxHeartbeats 4000000 in
theorem rcons_big (x a : Nat) (t ob b c : Int) (v : Value) (B : Nat) (w : World) (h : OwnW w B v [x]) (hB : B ≤ w.heap.size) (ha : 4294967296 ≤ a) :
    Calls Tryz.prog 63 #[v, callV t ob 0 (a : Int) b c] w (ChP B w ⟨[x], 10, 0, []⟩) := by
  have HO := Lib.hid h
  have HR := Lib.hid h.room
  have hd : decide ((4294967296 : Int) ≤ (a : Int)) = true := decide_eq_true (by omega)
  obtain ⟨ao, cap, rfl⟩ := h.arg.isSlice
  simp only [List.length_singleton] at *
  clear h
  go_enter Tryz.func63, Tryz.ntmps63
  go_wp2_with fail
  refine bodyPost_ret (v := .tuple #[.slice ao 1 cap, .agg #[.int .i64 10, .int .u64 0, .slice none 0 0]]) (by simp [results, Tryz.results63, go_sem]) rfl ⟨_, _, rfl, ⟨((HO.out.alloc _).alloc _).argB, HR.out⟩, ⟨ArgB.nil _ _, room_nil⟩, ((Below.refl B w).alloc hB _).alloc (by simp; omega) _⟩

set_option maxHeartbeats 4000000 in
theorem rcons_has (x : Nat) (t ob kd a b c : Int) (v : Value) (B : Nat) (w : World) (h : OwnW w B v [x]) (hB : B ≤ w.heap.size) (hk : kd = 0 ∨ kd = 1) (ha : kd = 0 → a < 4294967296) (hx : x < 18446744073709551616) (hx0 : x ≠ 0) :
    Calls Tryz.prog 63 #[v, callV t ob kd a b c] w (ChP B w ⟨[x], 0, x - 1, []⟩) := by
  obtain ⟨g1, cap, rfl, hg1, hlt1, hc, hf⟩ := h.opened (by simp)
  have d1 := hc 0 x rfl
  have hsub : ((x - 1 : Nat) : Int) = (x : Int) - 1 := by omega
  have HO := Lib.hid h
  have i0 : ((x : Int) == 0) = false := by rw [beq_eq_false_iff_ne]; omega
  have i1 : ¬ (x : Int) = 0 := by omega
  have i2 : decide ((x : Int) = 0) = false := decide_eq_false i1
  simp only [List.length_singleton] at *
  clear h hc hf
  rcases hk with rfl | rfl
  · have hd : decide ((4294967296 : Int) ≤ a) = false := decide_eq_false (by have := ha rfl; omega)
    clear ha
    go_enter Tryz.func63, Tryz.ntmps63
    go_wp2_with fail
    go_region
    go_wp2
    refine bodyPost_ret (v := .tuple #[.slice (some ⟨g1, 0, none⟩) 1 cap, .agg #[.int .i64 0, .int .u64 ((x : Int) - 1), .slice none 0 0]]) (by simp [results, Tryz.results63, go_sem]) rfl ⟨_, .slice none 0 0, by show _ = Ending.returned (.tuple #[_, .agg #[.int .i64 0, .int .u64 ((x - 1 : Nat) : Int), .slice none 0 0]]); rw [hsub], ⟨((HO.out.alloc _).alloc _).argB, HO.out.room⟩, ⟨ArgB.nil _ _, room_nil⟩, (((Below.refl B w).alloc hB _).alloc (by simp; omega) _).drew⟩
  · clear ha
    go_enter Tryz.func63, Tryz.ntmps63
    go_wp2_with fail
    go_region
    go_wp2
    refine bodyPost_ret (v := .tuple #[.slice (some ⟨g1, 0, none⟩) 1 cap, .agg #[.int .i64 0, .int .u64 ((x : Int) - 1), .slice none 0 0]]) (by simp [results, Tryz.results63, go_sem]) rfl ⟨_, .slice none 0 0, by show _ = Ending.returned (.tuple #[_, .agg #[.int .i64 0, .int .u64 ((x - 1 : Nat) : Int), .slice none 0 0]]); rw [hsub], ⟨((HO.out.alloc _).alloc _).argB, HO.out.room⟩, ⟨ArgB.nil _ _, room_nil⟩, (((Below.refl B w).alloc hB _).alloc (by simp; omega) _).drew⟩

set_option maxHeartbeats 4000000 in
theorem rcons_none (t ob a b c : Int) (v : Value) (B : Nat) (w : World) (h : OwnW w B v [0]) (hB : B ≤ w.heap.size) :
    Calls Tryz.prog 63 #[v, callV t ob 1 a b c] w (ChP B w ⟨[0], 7, 0, []⟩) := by
  obtain ⟨g1, cap, rfl, hg1, hlt1, hc, hf⟩ := h.opened (by simp)
  have d1 : w.cell? ⟨g1, 0, none⟩ = some (.int .u64 0) := hc 0 0 rfl
  have HO := Lib.hid h
  simp only [List.length_singleton] at *
  clear h hc hf
  go_enter Tryz.func63, Tryz.ntmps63
  go_wp2_with fail
  refine bodyPost_ret (v := .tuple #[.slice (some ⟨g1, 0, none⟩) 1 cap, .agg #[.int .i64 7, .int .u64 0, .slice none 0 0]]) (by simp [results, Tryz.results63, go_sem]) rfl ⟨_, _, rfl, ⟨((HO.out.alloc _).alloc _).argB, HO.out.room⟩, ⟨ArgB.nil _ _, room_nil⟩, ((Below.refl B w).alloc hB _).alloc (by simp; omega) _⟩

set_option maxHeartbeats 4000000 in
theorem rcons_new (a : Nat) (t ob b c : Int) (v : Value) (B : Nat) (w : World) (h : OwnW w B v [0]) (hB : B ≤ w.heap.size) (ha : a < 4294967296) :
    Calls Tryz.prog 63 #[v, callV t ob 0 (a : Int) b c] w (ChP B w ⟨[a + 1], 0, a, []⟩) := by
  obtain ⟨g1, cap, rfl, hg1, hlt1, hc, hf⟩ := h.opened (by simp)
  have d1 : w.cell? ⟨g1, 0, none⟩ = some (.int .u64 0) := hc 0 0 rfl
  have f1 := hf 0
  have HO := Lib.hid (h.stored 0 (a + 1))
  have HR := Lib.hid h.room
  have HB2 : Hid (∀ u, Below B w (w.setCell ⟨g1, 0, none⟩ u)) := Lib.hid (fun u => (Below.refl B w).setCell (p := ⟨g1, 0, none⟩) hg1 u)
  have hd : decide ((4294967296 : Int) ≤ (a : Int)) = false := decide_eq_false (by omega)
  have hn3 : g1 ≠ w.heap.size := by omega
  have hn4 : w.heap.size ≠ g1 := by omega
  have hn5 : g1 ≠ w.heap.size + 1 := by omega
  have hn6 : w.heap.size + 1 ≠ g1 := by omega
  simp only [List.length_singleton, List.set_cons_zero] at *
  clear h hc hf
  go_enter Tryz.func63, Tryz.ntmps63
  go_wp2_with fail
  go_region
  go_wp2
  refine bodyPost_ret (v := .tuple #[.slice (some ⟨g1, 0, none⟩) 1 cap, .agg #[.int .i64 0, .int .u64 (a : Int), .slice none 0 0]]) (by simp [results, Tryz.results63, go_sem]) rfl ⟨_, _, rfl, ⟨((HO.out.alloc _).alloc _).argB, HR.out⟩, ⟨ArgB.nil _ _, room_nil⟩, (((HB2.out _).alloc (by simp; omega) _).alloc (by simp; omega) _).drew⟩

theorem rcons_any (m : List Nat) (t ob kd b c : Int) (a : Nat) (v : Value) (B : Nat) (w : World) (h : OwnW w B v m) (hB : B ≤ w.heap.size) (hk : kd = 0 ∨ kd = 1) (h1 : m.length = 1) (hx64 : ∀ x ∈ m, x < 18446744073709551616) :
    Calls Tryz.prog 63 #[v, callV t ob kd (a : Int) b c] w (ChP B w (mdCons m kd a)) := by
  obtain ⟨x, rfl⟩ := one_len h1
  have hx := hx64 x (by simp)
  by_cases hbig : kd = 0 ∧ 4294967296 ≤ a
  · obtain ⟨rfl, ha⟩ := hbig
    have hm : mdCons [x] 0 a = ⟨[x], 10, 0, []⟩ := by unfold mdCons; rw [if_pos ⟨rfl, ha⟩]
    rw [hm]
    exact rcons_big x a t ob b c v B w h hB ha
  · unfold mdCons
    rw [if_neg hbig]
    have e : [x].getD 0 0 = x := rfl
    rw [e]
    by_cases hx0 : x = 0
    · subst hx0
      rw [if_pos rfl]
      rcases hk with rfl | rfl
      · rw [if_neg (by decide)]
        exact rcons_new a t ob b c v B w h hB (by omega)
      · rw [if_pos rfl]
        exact rcons_none _ _ _ _ _ v B w h hB
    · rw [if_neg hx0]
      exact rcons_has x _ _ _ _ _ _ v B w h hB hk (by intro h0; omega) hx hx0

set_option maxHeartbeats 4000000 in
theorem radder_add (x d : Nat) (t ob b c : Int) (v : Value) (B : Nat) (w : World) (h : OwnW w B v [x]) (hB : B ≤ w.heap.size) (hx : x < 18446744073709551616) (hd : d < 18446744073709551616) :
    Calls Tryz.prog 64 #[v, callV t ob 0 (d : Int) b c] w (ChP B w ⟨[(x + d) % 18446744073709551616], 0, x, []⟩) := by
  obtain ⟨g1, cap, rfl, hg1, hlt1, hc, hf⟩ := h.opened (by simp)
  have d1 := hc 0 x rfl
  have f1 := hf 0
  obtain ⟨z, hz⟩ : ∃ z : Nat, (x + d) % 18446744073709551616 = z := ⟨_, rfl⟩
  have hwz : IntKind.u64.wrap ((x : Int) + (d : Int)) = (z : Int) := by
    rw [← hz]
    simp [IntKind.wrap, IntKind.signed, IntKind.bits]
  rw [hz]
  have HO := Lib.hid (h.stored 0 z)
  have HR := Lib.hid h.room
  have HB2 : Hid (∀ u, Below B w (w.setCell ⟨g1, 0, none⟩ u)) := Lib.hid (fun u => (Below.refl B w).setCell (p := ⟨g1, 0, none⟩) hg1 u)
  have hn3 : g1 ≠ w.heap.size := by omega
  have hn4 : w.heap.size ≠ g1 := by omega
  have hn5 : g1 ≠ w.heap.size + 1 := by omega
  have hn6 : w.heap.size + 1 ≠ g1 := by omega
  simp only [List.length_singleton, List.set_cons_zero] at *
  clear h hc hf hz
  go_enter Tryz.func64, Tryz.ntmps64
  go_wp2_with fail
  refine bodyPost_ret (v := .tuple #[.slice (some ⟨g1, 0, none⟩) 1 cap, .agg #[.int .i64 0, .int .u64 (x : Int), .slice none 0 0]]) (by simp [results, Tryz.results64, go_sem]) rfl ⟨_, _, rfl, ⟨((HO.out.alloc _).alloc _).argB, HR.out⟩, ⟨ArgB.nil _ _, room_nil⟩, (((HB2.out _).alloc (by simp; omega) _).alloc (by simp; omega) _)⟩
set_option maxHeartbeats 4000000 in
theorem radder_one (x : Nat) (t ob a b c : Int) (v : Value) (B : Nat) (w : World) (h : OwnW w B v [x]) (hB : B ≤ w.heap.size) (hx : x < 18446744073709551616) :
    Calls Tryz.prog 64 #[v, callV t ob 2 a b c] w (ChP B w ⟨[(x + 1) % 18446744073709551616], 0, x, []⟩) := by
  obtain ⟨g1, cap, rfl, hg1, hlt1, hc, hf⟩ := h.opened (by simp)
  have d1 := hc 0 x rfl
  have f1 := hf 0
  obtain ⟨z, hz⟩ : ∃ z : Nat, (x + 1) % 18446744073709551616 = z := ⟨_, rfl⟩
  have hwz : IntKind.u64.wrap ((x : Int) + 1) = (z : Int) := by
    rw [← hz]
    simp [IntKind.wrap, IntKind.signed, IntKind.bits]
  rw [hz]
  have HO := Lib.hid (h.stored 0 z)
  have HR := Lib.hid h.room
  have HB2 : Hid (∀ u, Below B w (w.setCell ⟨g1, 0, none⟩ u)) := Lib.hid (fun u => (Below.refl B w).setCell (p := ⟨g1, 0, none⟩) hg1 u)
  have hn3 : g1 ≠ w.heap.size := by omega
  have hn4 : w.heap.size ≠ g1 := by omega
  have hn5 : g1 ≠ w.heap.size + 1 := by omega
  have hn6 : w.heap.size + 1 ≠ g1 := by omega
  simp only [List.length_singleton, List.set_cons_zero] at *
  clear h hc hf hz
  go_enter Tryz.func64, Tryz.ntmps64
  go_wp2_with fail
  refine bodyPost_ret (v := .tuple #[.slice (some ⟨g1, 0, none⟩) 1 cap, .agg #[.int .i64 0, .int .u64 (x : Int), .slice none 0 0]]) (by simp [results, Tryz.results64, go_sem]) rfl ⟨_, _, rfl, ⟨((HO.out.alloc _).alloc _).argB, HR.out⟩, ⟨ArgB.nil _ _, room_nil⟩, (((HB2.out _).alloc (by simp; omega) _).alloc (by simp; omega) _)⟩
set_option maxHeartbeats 4000000 in
theorem radder_show (x : Nat) (t ob a b c : Int) (v : Value) (B : Nat) (w : World) (h : OwnW w B v [x]) (hB : B ≤ w.heap.size) :
    Calls Tryz.prog 64 #[v, callV t ob 1 a b c] w (ChP B w ⟨[x], 0, x, []⟩) := by
  obtain ⟨g1, cap, rfl, hg1, hlt1, hc, hf⟩ := h.opened (by simp)
  have d1 := hc 0 x rfl
  have HO := Lib.hid h
  simp only [List.length_singleton] at *
  clear h hc hf
  go_enter Tryz.func64, Tryz.ntmps64
  go_wp2_with fail
  refine bodyPost_ret (v := .tuple #[.slice (some ⟨g1, 0, none⟩) 1 cap, .agg #[.int .i64 0, .int .u64 (x : Int), .slice none 0 0]]) (by simp [results, Tryz.results64, go_sem]) rfl ⟨_, _, rfl, ⟨((HO.out.alloc _).alloc _).argB, HO.out.room⟩, ⟨ArgB.nil _ _, room_nil⟩, ((Below.refl B w).alloc hB _).alloc (by simp; omega) _⟩
theorem radder_any (m : List Nat) (t ob kd b c : Int) (a : Nat) (v : Value) (B : Nat) (w : World) (h : OwnW w B v m) (hB : B ≤ w.heap.size) (hk : kd = 0 ∨ kd = 1 ∨ kd = 2) (h1 : m.length = 1) (hx64 : ∀ x ∈ m, x < 18446744073709551616) (ha : a < 18446744073709551616) :
    Calls Tryz.prog 64 #[v, callV t ob kd (a : Int) b c] w (ChP B w (mdAdder m kd a)) := by
  obtain ⟨x, rfl⟩ := one_len h1
  have hx := hx64 x (by simp)
  rcases hk with rfl | rfl | rfl
  · exact radder_add x a t ob b c v B w h hB hx ha
  · exact radder_show x t ob _ b c v B w h hB
  · exact radder_one x t ob _ b c v B w h hB hx
end
section
open Go.ChangeShapes Go.WideShapes Go.ChangeAt Go.RowKit
set_option linter.unusedVariables false
set_option linter.unusedSimpArgs false
set_option maxRecDepth 100000

set_option maxHeartbeats 4000000 in
theorem rmax_show (x : Nat) (p q t ob a b c : Int) (v : Value) (B : Nat) (w : World) (h : OwnW w B v [x]) (hB : B ≤ w.heap.size) :
    Calls Tryz.prog 65 #[Tb.specV 4 p q, v, callV t ob 1 a b c] w (ChP B w ⟨[x], 0, x, []⟩) := by
  obtain ⟨g1, cap, rfl, hg1, hlt1, hc, hf⟩ := h.opened (by simp)
  have d1 := hc 0 x rfl
  have HO := Lib.hid h
  have hlt2 : g1 < w.heap.size + 1 := by omega
  have hlt3 : g1 < w.heap.size + 1 + 1 := by omega
  simp only [List.length_singleton] at *
  clear h hc hf
  unfold Tb.specV
  go_enter Tryz.func65, Tryz.ntmps65
  go_wp2_with fail
  go_region
  go_wp2
  refine bodyPost_ret (v := .tuple #[.slice (some ⟨g1, 0, none⟩) 1 cap, .agg #[.int .i64 0, .int .u64 (x : Int), .slice none 0 0]]) (by simp [results, Tryz.results65, go_sem]) rfl ⟨_, _, rfl, ⟨(((HO.out.alloc _).alloc _).alloc _).argB, HO.out.room⟩, ⟨ArgB.nil _ _, room_nil⟩, ((((Below.refl B w).alloc hB _).alloc (by simp; omega) _).alloc (by simp; omega) _).drew⟩

set_option maxHeartbeats 4000000 in
theorem rmax_put (x pn a : Nat) (q t ob b c : Int) (v : Value) (B : Nat) (w : World) (h : OwnW w B v [x]) (hB : B ≤ w.heap.size) (hp : 1 ≤ pn ∧ pn ≤ 12) (ha : a < 18446744073709551616) :
    Calls Tryz.prog 65 #[Tb.specV 4 (pn : Int) q, v, callV t ob 0 (a : Int) b c] w (ChP B w (mdMax (pn : Int) [x] 0 a)) := by
  obtain ⟨g1, cap, rfl, hg1, hlt1, hc, hf⟩ := h.opened (by simp)
  have d1 := hc 0 x rfl
  have f1 := hf 0
  have HO := Lib.hid h
  have HO2 := Lib.hid (h.stored 0 a)
  have HR := Lib.hid h.room
  have HB2 : Hid (∀ u, Below B w (w.setCell ⟨g1, 0, none⟩ u)) := Lib.hid (fun u => (Below.refl B w).setCell (p := ⟨g1, 0, none⟩) hg1 u)
  have hn3 : g1 ≠ w.heap.size := by omega
  have hn4 : w.heap.size ≠ g1 := by omega
  have hn5 : g1 ≠ w.heap.size + 1 := by omega
  have hn6 : w.heap.size + 1 ≠ g1 := by omega
  have hn7 : g1 ≠ w.heap.size + 1 + 1 := by omega
  have hn8 : w.heap.size + 1 + 1 ≠ g1 := by omega
  have hlt2 : g1 < w.heap.size + 1 := by omega
  have hlt3 : g1 < w.heap.size + 1 + 1 := by omega
  have hp1 := hp.1
  have hp2 := hp.2
  obtain ⟨z, hz⟩ : ∃ z : Nat, 2 ^ pn = z := ⟨_, rfl⟩
  obtain ⟨d, hd⟩ : ∃ d : Nat, a / z = d := ⟨_, rfl⟩
  have hz1 : 0 < z := by rw [← hz]; exact Nat.two_pow_pos pn
  have hdv : (a : Int) / 2 ^ pn = (d : Int) := by
    have e : (2 : Int) ^ pn = ((2 ^ pn : Nat) : Int) := by rw [Int.natCast_pow]; rfl
    rw [e, hz, ← hd]
    exact (Int.natCast_ediv a z).symm
  have hMM : mdMax (pn : Int) [x] 0 a = (if z ≤ a then ⟨[x], 10, 0, []⟩ else ⟨[max x a], 0, 0, []⟩) := by unfold mdMax; rw [if_neg (by decide), Int.toNat_natCast, hz]; rfl
  rw [hMM]
  simp only [List.length_singleton, List.set_cons_zero] at *
  by_cases hza : z ≤ a
  · rw [if_pos hza]
    have hd0 : 1 ≤ d := by rw [← hd]; exact (Nat.le_div_iff_mul_le hz1).2 (by omega)
    have i0 : ((d : Int) != 0) = true := by simp; omega
    have i1 : ¬ (d : Int) = 0 := by omega
    have i2 : ((d : Int) == 0) = false := by rw [beq_eq_false_iff_ne]; omega
    clear h hc hf hp hz hd hMM hza
    unfold Tb.specV
    go_enter Tryz.func65, Tryz.ntmps65
    go_wp2_with fail
    refine bodyPost_ret (v := .tuple #[.slice (some ⟨g1, 0, none⟩) 1 cap, .agg #[.int .i64 10, .int .u64 0, .slice none 0 0]]) (by simp [results, Tryz.results65, go_sem]) rfl ⟨_, _, rfl, ⟨(((HO.out.alloc _).alloc _).alloc _).argB, HO.out.room⟩, ⟨ArgB.nil _ _, room_nil⟩, (((Below.refl B w).alloc hB _).alloc (by simp; omega) _).alloc (by simp; omega) _⟩
  · rw [if_neg hza]
    have hd0 : d = 0 := by rw [← hd]; exact Nat.div_eq_of_lt (by omega)
    subst hd0
    by_cases hxa : x < a
    · have hmx : max x a = a := by omega
      rw [hmx]
      have j0 : decide ((x : Int) < (a : Int)) = true := decide_eq_true (by omega)
      have j1 : decide ((a : Int) ≤ (x : Int)) = false := decide_eq_false (by omega)
      clear h hc hf hp hz hd hMM hza hmx
      unfold Tb.specV
      go_enter Tryz.func65, Tryz.ntmps65
      go_wp2_with fail
      go_region
      go_wp2
      refine bodyPost_ret (v := .tuple #[.slice (some ⟨g1, 0, none⟩) 1 cap, .agg #[.int .i64 0, .int .u64 0, .slice none 0 0]]) (by simp [results, Tryz.results65, go_sem]) rfl ⟨_, _, rfl, ⟨(((HO2.out.alloc _).alloc _).alloc _).argB, HR.out⟩, ⟨ArgB.nil _ _, room_nil⟩, ((((HB2.out _).alloc (by simp; omega) _).alloc (by simp; omega) _).alloc (by simp; omega) _).drew⟩
    · have hmx : max x a = x := by omega
      rw [hmx]
      have j0 : decide ((x : Int) < (a : Int)) = false := decide_eq_false (by omega)
      have j1 : decide ((a : Int) ≤ (x : Int)) = true := decide_eq_true (by omega)
      clear h hc hf hp hz hd hMM hza hmx
      unfold Tb.specV
      go_enter Tryz.func65, Tryz.ntmps65
      go_wp2_with fail
      go_region
      go_wp2
      refine bodyPost_ret (v := .tuple #[.slice (some ⟨g1, 0, none⟩) 1 cap, .agg #[.int .i64 0, .int .u64 0, .slice none 0 0]]) (by simp [results, Tryz.results65, go_sem]) rfl ⟨_, _, rfl, ⟨(((HO.out.alloc _).alloc _).alloc _).argB, HR.out⟩, ⟨ArgB.nil _ _, room_nil⟩, ((((Below.refl B w).alloc hB _).alloc (by simp; omega) _).alloc (by simp; omega) _).drew⟩
theorem rmax_any (m : List Nat) (pn a : Nat) (q t ob kd b c : Int) (v : Value) (B : Nat) (w : World) (h : OwnW w B v m) (hB : B ≤ w.heap.size) (hk : kd = 0 ∨ kd = 1) (hp : 1 ≤ pn ∧ pn ≤ 12) (h1 : m.length = 1) (ha : a < 18446744073709551616) :
    Calls Tryz.prog 65 #[Tb.specV 4 (pn : Int) q, v, callV t ob kd (a : Int) b c] w (ChP B w (mdMax (pn : Int) m kd a)) := by
  obtain ⟨x, rfl⟩ := one_len h1
  rcases hk with rfl | rfl
  · exact rmax_put x pn a q t ob b c v B w h hB hp ha
  · exact rmax_show x _ q t ob _ b c v B w h hB

/-- a queue -/
theorem mdQ_kd1 (m : List Nat) (t : Int) (a : Nat) : mdQ m t 1 a = (if m = [] then ⟨m, 7, 0, []⟩ else ⟨m.drop 2, 0, m.getD 1 0, []⟩) := by
  unfold mdQ; rw [if_neg (by decide), if_neg (by decide)]
set_option maxHeartbeats 4000000 in
theorem rqueue_big (m : List Nat) (a : Nat) (t ob b c : Int) (v : Value) (B : Nat) (w : World) (h : OwnW w B v m) (hB : B ≤ w.heap.size) (ha : 16777216 ≤ a) :
    Calls Tryz.prog 68 #[v, callV t ob 0 (a : Int) b c] w (ChP B w ⟨m, 10, 0, []⟩) := by
  have HO := Lib.hid h
  have HR := Lib.hid h.room
  have hd : decide ((16777216 : Int) ≤ (a : Int)) = true := decide_eq_true (by omega)
  obtain ⟨ao, cap, rfl⟩ := h.arg.isSlice
  clear h
  go_enter Tryz.func68, Tryz.ntmps68
  go_wp2_with fail
  refine bodyPost_ret (v := .tuple #[.slice ao m.length cap, .agg #[.int .i64 10, .int .u64 0, .slice none 0 0]]) (by simp [results, Tryz.results68, go_sem]) rfl ⟨_, _, rfl, ⟨((HO.out.alloc _).alloc _).argB, HR.out⟩, ⟨ArgB.nil _ _, room_nil⟩, ((Below.refl B w).alloc hB _).alloc (by simp; omega) _⟩

set_option maxHeartbeats 4000000 in
theorem rqueue_put (t a : Nat) (ob b c : Int) (m : List Nat) (v : Value) (B : Nat) (w : World) (h : OwnW w B v m) (hB : B ≤ w.heap.size) (ht : t < 16) (ha : a < 16777216) (hl : m.length ≤ 2000000) :
    Calls Tryz.prog 68 #[v, callV (t : Int) ob 0 (a : Int) b c] w (ChP B w ⟨m ++ [t, a], 0, 0, []⟩) := by
  obtain ⟨iI, ia, ib, ic, id⟩ := info_parts info22
  have HO := Lib.hid (((h.alloc (callO (t : Int) ob 0 (a : Int) b c)).alloc ansO).alloc (.cells #[wU t, wU a] 55))
  have HN : Hid (v.ownBlock ≠ some (w.heap.size + 1)) := Lib.hid (fun e => by have := (World.ownsRow.lt h _ e).2; omega)
  have hd : decide ((16777216 : Int) ≤ (a : Int)) = false := decide_eq_false (by omega)
  obtain ⟨ao, cap, rfl⟩ := h.arg.isSlice
  have HC : Hid (∀ (j : Nat) (u : Value), [wU t, wU a][j]? = some u → (((w.alloc (callO (t : Int) ob 0 (a : Int) b c)).alloc ansO).alloc (.cells #[wU t, wU a] 55)).cell? ⟨w.heap.size + 1 + 1, 0 + j, none⟩ = some u) := Lib.hid (fun j u hu => by
    rw [Nat.zero_add]
    rw [World.cell?_alloc_at _ _ _ _ (by simp)]
    simpa using hu)
  have HM : Hid (List.map wU m ++ [wU t, wU a] = (m ++ [t, a]).map wU) := Lib.hid (by simp)
  have HAN : Hid ((((w.alloc (callO (t : Int) ob 0 (a : Int) b c)).alloc ansO).alloc (.cells #[wU t, wU a] 55)).heap[w.heap.size + 1]? = some ansO) := Lib.hid ((Below.heap_alloc _ _ _ (by simp)).trans (by
    have := heap_alloc_new (w.alloc (callO (t : Int) ob 0 (a : Int) b c)) ansO
    rw [World.size_alloc] at this; exact this))
  unfold wU ansO at *
  clear h
  go_enter Tryz.func68, Tryz.ntmps68
  go_wp2_with (at_builtin; refine append_onto_own rfl _ _ 37 rfl B 55 iI (.int .u64 0) 8 Tryz.underlying37 ia ib ic id rfl (by decide) _ m.length _ rfl HO.out (some ⟨w.heap.size + 1 + 1, 0, none⟩) (w.heap.size + 1 + 1) 0 2 2 [.int .u64 (t : Int), .int .u64 (a : Int)] rfl rfl (fun _ => rfl) (fun h => by cases h) HC.out rfl (by omega) (by simp; omega) ?_; intro v' w1 how hbl hkp; (have HO1 : Hid (OwnW w1 B v' (m ++ [t, a])) := Lib.hid (by unfold OwnW; rw [List.length_append]; unfold wU; rw [← HM.out]; exact how)); (have hbk : w1.heap[w.heap.size + 1]? = some (.cells #[.int .i64 0, .int .u64 0, .slice none 0 0] 57) := (hkp _ (by first | (simp; done) | (simp; omega)) HN.out).trans HAN.out); (have k0 := Tb.cell_of_blkT (k := 0) hbk rfl); (have k1 := Tb.cell_of_blkT (k := 1) hbk rfl); (have k2 := Tb.cell_of_blkT (k := 2) hbk rfl); (have z0 := Tb.free_of_blkT (k := 0) hbk); (have z1 := Tb.free_of_blkT (k := 1) hbk); (have z2 := Tb.free_of_blkT (k := 2) hbk); (have HNE := Lib.hid (HO1.out.ne_ans hbk)); (have HB1 : Hid (Below B w w1) := Lib.hid (((((Below.refl B w).alloc hB _).alloc (by simp; omega) _).alloc (by simp; omega) _).trans hbl)); clear how hbl hkp hbk)
  refine bodyPost_ret (v := .tuple #[v', .agg #[.int .i64 0, .int .u64 0, .slice none 0 0]]) (by simp [results, Tryz.results68, go_sem, k0, k1, k2]) rfl ⟨_, _, rfl, ⟨(HO1.out.put3 HNE.out _ _ _).argB, HO1.out.room⟩, ⟨ArgB.nil _ _, room_nil⟩, put3_below HB1.out (by omega) _ _ _⟩

set_option maxHeartbeats 2000000 in
theorem rqueue_none (t ob a b c : Int) (v : Value) (B : Nat) (w : World) (h : OwnW w B v []) (hB : B ≤ w.heap.size) :
    Calls Tryz.prog 68 #[v, callV t ob 1 a b c] w (ChP B w ⟨[], 7, 0, []⟩) := by
  have HO := Lib.hid h
  have HR := Lib.hid h.room
  obtain ⟨ao, cap, rfl⟩ := h.arg.isSlice
  simp only [List.length_nil] at *
  clear h
  go_enter Tryz.func68, Tryz.ntmps68
  go_wp2_with fail
  refine bodyPost_ret (v := .tuple #[.slice ao 0 cap, .agg #[.int .i64 7, .int .u64 0, .slice none 0 0]]) (by simp [results, Tryz.results68, go_sem]) rfl ⟨_, _, rfl, ⟨((HO.out.alloc _).alloc _).argB, HR.out⟩, ⟨ArgB.nil _ _, room_nil⟩, (((Below.refl B w).alloc hB _).alloc (by simp; omega) _)⟩

set_option maxHeartbeats 4000000 in
theorem rqueue_take (t ob a b c : Int) (x y : Nat) (r : List Nat) (v : Value) (B : Nat) (w : World) (h : OwnW w B v (x :: y :: r)) (hB : B ≤ w.heap.size) (hl : r.length ≤ 2000000) :
    Calls Tryz.prog 68 #[v, callV t ob 1 a b c] w (ChP B w ⟨r, 0, y, []⟩) := by
  obtain ⟨g1, cap, rfl, hg1, hlt1, hc, hf⟩ := h.opened (by simp)
  have HO := Lib.hid h
  have d1 : w.cell? ⟨g1, 1, none⟩ = some (.int .u64 (y : Int)) := hc 1 y rfl
  have hcap := h.room _ _ _ rfl
  have hlen : (x :: y :: r).length = r.length + 2 := rfl
  rw [hlen] at hcap HO ⊢
  clear h hc hf hlen
  have HN : Hid ((r.length : Int) + 2 - 2 = (r.length : Int)) := Lib.hid (by omega)
  by_cases h2 : cap = 2
  · subst h2
    have hr0 : r = [] := List.length_eq_zero_iff.1 (by omega)
    subst hr0
    simp only [List.length_nil, Nat.zero_add] at *
    go_enter Tryz.func68, Tryz.ntmps68
    go_wp2_with fail
    go_region
    go_wp2
    refine bodyPost_ret (v := .tuple #[.slice (some ⟨g1, 0, none⟩) 0 0, .agg #[.int .i64 0, .int .u64 (y : Int), .slice none 0 0]]) (by simp [results, Tryz.results68, go_sem]) rfl ⟨_, _, rfl, ⟨⟨_, g1, 0, 0, rfl, fun h => absurd h (by simp), (fun h => by cases h), fun i u hu => by simp at hu⟩, fun ao n c e => by cases e; exact Nat.le_refl _⟩, ⟨ArgB.nil _ _, room_nil⟩, (((Below.refl B w).alloc hB _).alloc (by simp; omega) _).drew⟩
  · have h3 : 2 < cap := by omega
    have hAB := argB_drop2 (((HO.out.alloc (callO t ob 1 a b c)).alloc (.cells #[.int .i64 0, .int .u64 (y : Int), .slice none 0 0] 57)).drewN 1) rfl
    have HAB := Lib.hid hAB
    clear hAB
    go_enter Tryz.func68, Tryz.ntmps68
    go_wp2_with fail
    go_region
    go_wp2
    refine bodyPost_ret (v := .tuple #[.slice (some ⟨g1, 2, none⟩) r.length (cap - 2), .agg #[.int .i64 0, .int .u64 (y : Int), .slice none 0 0]]) (by simp [results, Tryz.results68, go_sem]) rfl ⟨_, _, rfl, HAB.out, ⟨ArgB.nil _ _, room_nil⟩, (((Below.refl B w).alloc hB _).alloc (by simp; omega) _).drew⟩

theorem rqueue_any (t a : Nat) (ob kd b c : Int) (m : List Nat) (v : Value) (B : Nat) (w : World) (h : OwnW w B v m) (hB : B ≤ w.heap.size) (hk : kd = 0 ∨ kd = 1) (ht : t < 16) (hl : m.length ≤ 2000000) (h2 : m.length % 2 = 0) :
    Calls Tryz.prog 68 #[v, callV (t : Int) ob kd (a : Int) b c] w (ChP B w (mdQ m (t : Int) kd a)) := by
  rcases hk with rfl | rfl
  · by_cases ha : 16777216 ≤ a
    · have hm : mdQ m (t : Int) 0 a = ⟨m, 10, 0, []⟩ := by unfold mdQ; rw [if_neg (by omega), if_pos rfl, if_pos ha]
      rw [hm]
      exact rqueue_big m a _ _ _ _ v B w h hB ha
    · rw [mdQ_put (by omega)]
      exact rqueue_put t a ob b c m v B w h hB ht (by omega) hl
  · rw [mdQ_kd1]
    match m, h2, hl, h with
    | [], _, _, h => rw [if_pos rfl]; exact rqueue_none _ _ _ _ _ v B w h hB
    | [x], h2, _, _ => exact absurd h2 (by simp)
    | x :: y :: r, _, hl, h => rw [if_neg (by simp)]; exact rqueue_take _ _ _ _ _ x y r v B w h hB (by simp at hl; omega)
end
section
open Go.ChangeShapes Go.WideShapes Go.ChangeAt Go.RowKit
set_option linter.unusedVariables false
set_option linter.unusedSimpArgs false
set_option maxRecDepth 100000

set_option maxHeartbeats 4000000 in
theorem rpin_list (p q t ob a b c : Int) (m : List Nat) (v : Value) (B : Nat) (w : World) (h : OwnW w B v m) (hB : B ≤ w.heap.size) :
    Calls Tryz.prog 69 #[Tb.specV 9 p q, v, callV t ob 1 a b c] w (ChP B w ⟨m, 0, 0, m⟩) := by
  have HO := Lib.hid h
  have HR := Lib.hid h.room
  obtain ⟨ao, cap, rfl⟩ := h.arg.isSlice
  clear h
  unfold Tb.specV
  go_enter Tryz.func69, Tryz.ntmps69
  go_wp2_with fail
  refine bodyPost_ret (v := .tuple #[.slice ao m.length cap, .agg #[.int .i64 0, .int .u64 0, .slice ao m.length cap]]) (by simp [results, Tryz.results69, go_sem]) rfl ⟨_, _, rfl, ⟨(((HO.out.alloc _).alloc _).alloc _).argB, HR.out⟩, ⟨(((HO.out.alloc _).alloc _).alloc _).argB, HR.out⟩, (((Below.refl B w).alloc hB _).alloc (by simp; omega) _).alloc (by simp; omega) _⟩

set_option maxHeartbeats 4000000 in
theorem rpin_role (p q t ob a b c : Int) (m : List Nat) (v : Value) (B : Nat) (w : World) (h : OwnW w B v m) (hB : B ≤ w.heap.size) (ht : t ≠ 0) :
    Calls Tryz.prog 69 #[Tb.specV 9 p q, v, callV t ob 0 a b c] w (ChP B w ⟨m, 11, 0, []⟩) := by
  have HO := Lib.hid h
  have HR := Lib.hid h.room
  have i0 : (t == 0) = false := by rw [beq_eq_false_iff_ne]; exact ht
  have i1 : decide (t = 0) = false := decide_eq_false ht
  obtain ⟨ao, cap, rfl⟩ := h.arg.isSlice
  clear h
  unfold Tb.specV
  go_enter Tryz.func69, Tryz.ntmps69
  go_wp2_with fail
  refine bodyPost_ret (v := .tuple #[.slice ao m.length cap, .agg #[.int .i64 11, .int .u64 0, .slice none 0 0]]) (by simp [results, Tryz.results69, go_sem]) rfl ⟨_, _, rfl, ⟨(((HO.out.alloc _).alloc _).alloc _).argB, HR.out⟩, ⟨ArgB.nil _ _, room_nil⟩, (((Below.refl B w).alloc hB _).alloc (by simp; omega) _).alloc (by simp; omega) _⟩

set_option maxHeartbeats 4000000 in
theorem rpin_put (a : Nat) (p q ob b c : Int) (m : List Nat) (v : Value) (B : Nat) (w : World) (h : OwnW w B v m) (hB : B ≤ w.heap.size) (hm1 : 1 ≤ m.length) (hm8 : m.length ≤ 8) (ha : a < 18446744073709551616) :
    Calls Tryz.prog 69 #[Tb.specV 9 p q, v, callV 0 ob 0 (a : Int) b c] w (ChP B w ⟨pubL a m.length, 0, 0, []⟩) := by
  obtain ⟨g1, cap, rfl, hg1, hlt1, hc, hf⟩ := h.opened (by omega)
  have HX := Lib.hid (apBox w 9 p q 0 ob 0 a b c (ansC 0 0 (.slice none 0 0)))
  have HO : Hid (OwnW (apW w 9 p q 0 ob 0 a b c (ansC 0 0 (.slice none 0 0))) B (.slice (some ⟨g1, 0, none⟩) m.length cap) m) := Lib.hid (((h.alloc _).alloc _).alloc _)
  have HG : Hid ((apW w 9 p q 0 ob 0 a b c (ansC 0 0 (.slice none 0 0))).heap[w.heap.size + 1]? = some (callO 0 ob 0 (a : Int) b c)) := Lib.hid ((Below.heap_alloc _ _ _ (by simp)).trans (by
    have := heap_alloc_new (w.alloc (Tb.specO 9 p q)) (callO 0 ob 0 (a : Int) b c)
    rw [World.size_alloc] at this; exact this))
  have HBK := Lib.hid HX.out.ans
  have HBB : Hid (Below B w (apW w 9 p q 0 ob 0 a b c (ansC 0 0 (.slice none 0 0)))) := Lib.hid (HX.out.bel.mono hB)
  have hn1 : g1 ≠ w.heap.size + 1 := by omega
  have hn2 : w.heap.size + 1 ≠ g1 := by omega
  have hn3 : g1 ≠ w.heap.size + 1 + 1 := by omega
  have hn4 : w.heap.size + 1 + 1 ≠ g1 := by omega
  have HP0 : Hid (pubL a 0 ++ m.drop 0 = m) := Lib.hid (by simp [pubL])
  have HPA := Lib.hid (pubL_all a m)
  have HST := Lib.hid (fun j h => pubL_step a j m h)
  have HLN := Lib.hid (fun j h => pubL_len a j m h)
  have z2 := HX.out.c2
  have z0 := HX.out.c0
  unfold apW at *
  generalize hw0 : ((w.alloc (Tb.specO 9 p q)).alloc (callO 0 ob 0 (a : Int) b c)).alloc (ansC 0 0 (.slice none 0 0)) = w0 at *
  unfold Tb.specO at hw0
  clear h hc hf HX
  unfold Tb.specV
  go_enter Tryz.func69, Tryz.ntmps69
  go_wp2_with fail
  go_loopw [27] (fun k wr => ∃ j : Nat, j ≤ m.length ∧ k = .int .i64 j ∧ OwnW wr B (.slice (some ⟨g1, 0, none⟩) m.length cap) (pubL a j ++ m.drop j) ∧ wr.heap[w.heap.size + 1]? = some (callO 0 ob 0 (a : Int) b c) ∧ wr.heap[w.heap.size + 1 + 1]? = some (.cells #[.int .i64 0, .int .u64 0, .slice none 0 0] 57) ∧ Below B w wr) (fun k _ => m.length - (intOf k).toNat)
  case atStart => exact ⟨0, Nat.zero_le _, rfl, by rw [HP0.out]; exact HO.out, HG.out, HBK.out, HBB.out⟩
  case round =>
    obtain ⟨j, hj, rfl, ho, hgb, hbk, hbl⟩ := hrel
    by_cases hlt2 : j < m.length
    · obtain ⟨g1', cap', e0, _, hlt3, hc, hf⟩ := ho.opened (by rw [HLN.out j hj]; omega)
      have e1 : g1' = g1 := by simp at e0; exact e0.1.symm
      subst e1
      obtain ⟨y, hy⟩ : ∃ y, (pubL a j ++ m.drop j)[j]? = some y := ⟨_, List.getElem?_eq_getElem (by rw [HLN.out j hj]; exact hlt2)⟩
      have d1 := hc j y hy
      have f1 := hf j
      have c3 : wr.cell? ⟨w.heap.size + 1, 3, none⟩ = some (.int .u64 (a : Int)) := Tb.cell_of_blkT hgb rfl
      obtain ⟨z, hz⟩ : ∃ z : Nat, (a + j) % 18446744073709551616 = z := ⟨_, rfl⟩
      have hwz : IntKind.u64.wrap ((a : Int) + (j : Int)) = (z : Int) := by
        rw [← hz]
        simp [IntKind.wrap, IntKind.signed, IntKind.bits]
      have HO1 : Hid (OwnW (wr.setCell ⟨g1', j, none⟩ (.int .u64 (z : Int))) B (.slice (some ⟨g1', 0, none⟩) m.length cap) (pubL a (j + 1) ++ m.drop (j + 1))) := Lib.hid (by rw [← HST.out j hlt2, hz]; exact ho.stored j z)
      have HG1 : Hid ((wr.setCell ⟨g1', j, none⟩ (.int .u64 (z : Int))).heap[w.heap.size + 1]? = some (callO 0 ob 0 (a : Int) b c)) := Lib.hid ((Below.heap_setCell wr ⟨g1', j, none⟩ _ (w.heap.size + 1) (fun e => hn2 e)).trans hgb)
      have HK1 : Hid ((wr.setCell ⟨g1', j, none⟩ (.int .u64 (z : Int))).heap[w.heap.size + 1 + 1]? = some (.cells #[.int .i64 0, .int .u64 0, .slice none 0 0] 57)) := Lib.hid ((Below.heap_setCell wr ⟨g1', j, none⟩ _ (w.heap.size + 1 + 1) (fun e => hn4 e)).trans hbk)
      have HB1 := Lib.hid (hbl.setCell (p := ⟨g1', j, none⟩) hg1 (.int .u64 (z : Int)))
      clear hy hz hc hf ho hgb hbk hbl e0
      go_wp2_with fail
      go_roundw
      case rel => exact ⟨j + 1, by omega, by go_num, HO1.out, HG1.out, HK1.out, HB1.out⟩
      case measure => simp [intOf]; omega
    · have : j = m.length := by omega
      subst this
      have HO1 : Hid (OwnW wr B (.slice (some ⟨g1, 0, none⟩) m.length cap) (pubL a m.length)) := Lib.hid (by rw [← HPA.out]; exact ho)
      have HNE := Lib.hid (HO1.out.ne_ans hbk)
      have k0 := Tb.cell_of_blkT (k := 0) hbk rfl
      have k1 := Tb.cell_of_blkT (k := 1) hbk rfl
      have k2 := Tb.cell_of_blkT (k := 2) hbk rfl
      have z0 := Tb.free_of_blkT (k := 0) hbk
      have z1 := Tb.free_of_blkT (k := 1) hbk
      have z2 := Tb.free_of_blkT (k := 2) hbk
      clear ho hgb hbk
      go_wp2_with fail
      refine bodyPost_ret (v := .tuple #[.slice (some ⟨g1, 0, none⟩) m.length cap, .agg #[.int .i64 0, .int .u64 0, .slice none 0 0]]) (by simp [results, Tryz.results69, go_sem, k0, k1, k2]) rfl ⟨_, _, rfl, ⟨(HO1.out.put3 HNE.out _ _ _).argB, HO1.out.room⟩, ⟨ArgB.nil _ _, room_nil⟩, put3_below hbl (by omega) _ _ _⟩

theorem rpin_any (p : Nat) (q : Int) (m : List Nat) (t ob kd b c : Int) (a : Nat) (v : Value) (B : Nat) (w : World) (h : OwnW w B v m) (hB : B ≤ w.heap.size) (hp : 1 ≤ p ∧ p ≤ 8) (hk : kd = 0 ∨ kd = 1) (h1 : m.length = p) (ha : a < 18446744073709551616) :
    Calls Tryz.prog 69 #[Tb.specV 9 (p : Int) q, v, callV t ob kd (a : Int) b c] w (ChP B w (mdPin p m t kd a)) := by
  unfold mdPin
  rcases hk with rfl | rfl
  · rw [if_neg (by decide)]
    by_cases ht : t = 0
    · subst ht
      rw [if_neg (by simp)]
      exact rpin_put a _ q ob b c m v B w h hB (by omega) (by omega) ha
    · rw [if_pos ht]
      exact rpin_role _ q t ob _ b c m v B w h hB ht
  · rw [if_pos rfl]
    have e : mdList m p = ⟨m, 0, 0, m⟩ := by unfold mdList; rw [← h1, List.take_length]
    rw [e]
    exact rpin_list _ q t ob _ b c m v B w h hB
end
section
open Go.ChangeShapes Go.WideShapes Go.ChangeAt Go.RowKit
set_option linter.unusedVariables false
set_option linter.unusedSimpArgs false
set_option maxRecDepth 100000

set_option maxHeartbeats 4000000 in
theorem rsnap_list (values : Nat) (most n th : Int) (t ob a b c t2 ob2 kd2 a2 b2 c2 : Int) (m : List Nat) (v : Value) (B : Nat) (w : World) (h : OwnW w B v m) (hB : B ≤ w.heap.size) (hv : 1 ≤ values ∧ values ≤ m.length) (hl : m.length ≤ 4294967296) :
    Calls Tryz.prog 66 #[.int .i64 (values : Int), .int .i64 most, .int .i64 n, v, .int .i64 th, callV t ob 1 a b c, callV t2 ob2 kd2 a2 b2 c2] w (ChP B w (mdList m values)) := by
  obtain ⟨iI, ia, ib, ic, id⟩ := info_parts info22
  have hcap0 := h.room
  obtain ⟨g1, cap, rfl, hg1, hlt1, hc, hf⟩ := h.opened (by omega)
  have hcap := hcap0 _ _ _ rfl
  obtain ⟨W, hW⟩ : ∃ W, W = ((w.alloc (callO t ob 1 a b c)).alloc (callO t2 ob2 kd2 a2 b2 c2)).alloc (ansC 0 0 (.slice none 0 0)) := ⟨_, rfl⟩
  have hsz : W.heap.size = w.heap.size + 1 + 1 + 1 := by rw [hW, World.size_alloc, World.size_alloc, World.size_alloc]
  have hbW : Below w.heap.size w W := by rw [hW]; exact (((Below.refl _ _).alloc (Nat.le_refl _) _).alloc (by simp) _).alloc (by simp; omega) _
  have HO : Hid (OwnW W B (.slice (some ⟨g1, 0, none⟩) m.length cap) m) := Lib.hid (h.below hbW)
  have HBK : Hid (W.heap[w.heap.size + 1 + 1]? = some (.cells #[.int .i64 0, .int .u64 0, .slice none 0 0] 57)) := Lib.hid (by
    have := heap_alloc_new ((w.alloc (callO t ob 1 a b c)).alloc (callO t2 ob2 kd2 a2 b2 c2)) (ansC 0 0 (.slice none 0 0))
    rw [World.size_alloc, World.size_alloc, ← hW] at this; exact this)
  have HCK : Hid (W.cell? ⟨w.heap.size, 2, none⟩ = some (.int .i64 1)) := Lib.hid (by
    have h1 : (w.alloc (callO t ob 1 a b c)).heap[w.heap.size]? = some (callO t ob 1 a b c) := heap_alloc_new _ _
    have h2 : W.heap[w.heap.size]? = some (callO t ob 1 a b c) := by
      rw [hW]; exact (Below.heap_alloc _ _ _ (by simp; omega)).trans ((Below.heap_alloc _ _ _ (by simp)).trans h1)
    exact Tb.cell_of_blkT h2 rfl)
  have HLN : Hid ((m.take values).length = values) := Lib.hid (by rw [List.length_take]; omega)
  have HLEN : Hid (((m.take values).map wU).length = values) := Lib.hid (by rw [List.length_map]; exact HLN.out)
  have HONE := Lib.hid (wU_one (m.take values))
  have HS : Hid (∀ (j : Nat) (u : Value), ((m.take values).map wU)[j]? = some u → W.cell? ⟨g1, 0 + j, none⟩ = some u) := Lib.hid (fun j u hu => by
    rw [List.getElem?_map] at hu
    obtain ⟨x, hx, rfl⟩ := Option.map_eq_some_iff.1 hu
    rw [List.getElem?_take] at hx
    split at hx
    · rw [Nat.zero_add]; exact (hbW.cell (p := ⟨g1, j, none⟩) hlt1).trans (hc j x hx)
    · cases hx)
  have HBW := Lib.hid hbW
  have q2 := HCK.out
  have hlv : values ≤ 4294967296 := by omega
  have hv2 := hv.2
  have hW' := hW.symm
  have HSZ := Lib.hid hsz
  unfold mdList
  unfold ansC at hW'
  clear h hc hf hcap0 hbW hv hW HCK hsz
  go_enter Tryz.func66, Tryz.ntmps66
  go_wp2_with (at_builtin; refine append_fresh_own (w := W) rfl _ _ 37 rfl 55 iI (.int .u64 0) 8 Tryz.underlying37 ia ib ic id rfl (by decide) W.heap.size rfl rfl (some ⟨g1, 0, none⟩) g1 0 cap values ((m.take values).map wU) rfl HLEN.out (fun _ => rfl) HS.out (fun h => by cases h) HONE.out hlv ?_; intro v' w1 how hnn hbl; (have HO1 : Hid (OwnW w1 W.heap.size v' (m.take values)) := Lib.hid (by unfold OwnW; rw [HLN.out]; exact how)); (have hbk := (hbl.block _ (by have := HSZ.out; omega)).trans HBK.out); (have k0 := Tb.cell_of_blkT (k := 0) hbk rfl); (have k1 := Tb.cell_of_blkT (k := 1) hbk rfl); (have k2 := Tb.cell_of_blkT (k := 2) hbk rfl); (have z0 := Tb.free_of_blkT (k := 0) hbk); (have z1 := Tb.free_of_blkT (k := 1) hbk); (have z2 := Tb.free_of_blkT (k := 2) hbk); (have HOS := Lib.hid (HO.out.below hbl)); (have HN1 := Lib.hid (HO1.out.ne_ans hbk)); (have HN2 := Lib.hid (HOS.out.ne_ans hbk)); (have HB1 := Lib.hid (HBW.out.trans (hbl.mono (by have := HSZ.out; omega)))); (obtain ⟨ao1, cap1, e1⟩ := HO1.out.arg.isSlice); (rw [HLN.out] at e1); (subst e1); clear how hnn hbl hbk)
  refine bodyPost_ret (v := .tuple #[.slice (some ⟨g1, 0, none⟩) m.length cap, .agg #[.int .i64 0, .int .u64 0, .slice ao1 values cap1]]) (by simp [results, Tryz.results66, go_sem, k0, k1, k2]) rfl ⟨_, _, rfl, ⟨(HOS.out.put3 HN2.out _ _ _).argB, HOS.out.room⟩, ⟨((HO1.out.put3 HN1.out _ _ _).argB).mono (by have := HSZ.out; omega), HO1.out.room⟩, put3_below (HB1.out.mono hB) (by omega) _ _ _⟩

/-- an update: of the part at1, to x' -/
theorem set_swap (m : List Nat) (s at1 y x : Nat) (h : at1 ≠ s) : (m.set at1 x).set s y = (m.set s y).set at1 x := List.set_comm x y h
set_option maxHeartbeats 4000000 in
theorem rsnap_big (values : Nat) (a2 : Nat) (most n th : Int) (t ob a b c t2 ob2 kd2 b2 c2 : Int) (m : List Nat) (v : Value) (B : Nat) (w : World) (h : OwnW w B v m) (hB : B ≤ w.heap.size) (hv : values ≤ 16) (ha : values ≤ a2) :
    Calls Tryz.prog 66 #[.int .i64 (values : Int), .int .i64 most, .int .i64 n, v, .int .i64 th, callV t ob 0 a b c, callV t2 ob2 kd2 (a2 : Int) b2 c2] w (ChP B w ⟨m, 10, 0, []⟩) := by
  have HO := Lib.hid h
  have HR := Lib.hid h.room
  have hd : decide ((values : Int) ≤ (a2 : Int)) = true := decide_eq_true (by omega)
  obtain ⟨ao, cap, rfl⟩ := h.arg.isSlice
  clear h
  go_enter Tryz.func66, Tryz.ntmps66
  go_wp2_with fail
  refine bodyPost_ret (v := .tuple #[.slice ao m.length cap, .agg #[.int .i64 10, .int .u64 0, .slice none 0 0]]) (by simp [results, Tryz.results66, go_sem]) rfl ⟨_, _, rfl, ⟨(((HO.out.alloc _).alloc _).alloc _).argB, HR.out⟩, ⟨ArgB.nil _ _, room_nil⟩, (((Below.refl B w).alloc hB _).alloc (by simp; omega) _).alloc (by simp; omega) _⟩

set_option maxHeartbeats 8000000 in
theorem rsnap_upd (values most n th a2 x' s : Nat) (t ob a b c t2 ob2 kd2 c2 : Int) (m : List Nat) (v : Value) (B : Nat) (w : World) (h : OwnW w B v m) (hB : B ≤ w.heap.size) (hv : values ≤ 16) (ha : a2 < values) (hth : th < n) (hn : n ≤ 16) (hs : values + th = s) (hsl : s < m.length) (hm : most ≤ 1000000) (hl : m.length ≤ 4294967296) (hx64 : ∀ x ∈ m, x < 18446744073709551616) :
    Calls Tryz.prog 66 #[.int .i64 (values : Int), .int .i64 (most : Int), .int .i64 (n : Int), v, .int .i64 (th : Int), callV t ob 0 a b c, callV t2 ob2 kd2 (a2 : Int) (x' : Int) c2] w (ChP B w (mdUpd m values most th a2 x')) := by
  obtain ⟨g1, cap, rfl, hg1, hlt1, hc, hf⟩ := h.opened (by omega)
  obtain ⟨x, hx⟩ : ∃ x, m[s]? = some x := ⟨m[s], List.getElem?_eq_getElem hsl⟩
  have d1 := hc s x hx
  have f1 := hf s
  have f2 := hf a2
  have hat : a2 < m.length := by omega
  obtain ⟨y, hy⟩ : ∃ y, m[a2]? = some y := ⟨m[a2], List.getElem?_eq_getElem hat⟩
  have d2 := hc a2 y hy
  have has1 : a2 ≠ s := by omega
  have has2 : s ≠ a2 := by omega
  have hxb := hx64 x (List.mem_of_getElem? hx)
  have hadd : (values : Int) + (th : Int) = (s : Int) := by omega
  have HO := Lib.hid h
  have HR := Lib.hid h.room
  have hlt2 : g1 < w.heap.size + 1 := by omega
  have hlt3 : g1 < w.heap.size + 1 + 1 := by omega
  have nW : g1 ≠ w.heap.size + 1 + 1 := by omega
  have nW2 : w.heap.size + 1 + 1 ≠ g1 := by omega
  have nX : g1 ≠ w.heap.size := by omega
  have nX2 : w.heap.size ≠ g1 := by omega
  have nY : g1 ≠ w.heap.size + 1 := by omega
  have nY2 : w.heap.size + 1 ≠ g1 := by omega
  have i1 : decide ((values : Int) ≤ (a2 : Int)) = false := decide_eq_false (by omega)
  have i2 : decide ((th : Int) < 0) = false := decide_eq_false (by omega)
  have i3 : decide ((n : Int) ≤ (th : Int)) = false := decide_eq_false (by omega)
  have i4 : ¬ values ≤ a2 := by omega
  have i5 : ¬ n ≤ th := by omega
  by_cases hful : most ≤ x
  · have hq : mdUpd m values most th a2 x' = ⟨m, 6, 0, []⟩ := by unfold mdUpd; rw [hs, getD_of hx, if_pos hful]
    rw [hq]
    have dd : decide ((most : Int) ≤ (x : Int)) = true := decide_eq_true (by omega)
    have dd2 : decide ((x : Int) < (most : Int)) = false := decide_eq_false (by omega)
    have dd3 : (most : Int) ≤ (x : Int) := by omega
    clear h hc hf hx hy hs hx64 hq
    go_enter Tryz.func66, Tryz.ntmps66
    go_wp2_with fail
    refine bodyPost_ret (v := .tuple #[.slice (some ⟨g1, 0, none⟩) m.length cap, .agg #[.int .i64 6, .int .u64 0, .slice none 0 0]]) (by simp [results, Tryz.results66, go_sem]) rfl ⟨_, _, rfl, ⟨(((HO.out.alloc _).alloc _).alloc _).argB, HR.out⟩, ⟨ArgB.nil _ _, room_nil⟩, (((Below.refl B w).alloc hB _).alloc (by simp; omega) _).alloc (by simp; omega) _⟩
  · have hq : mdUpd m values most th a2 x' = ⟨(m.set s (x + 1)).set a2 x', 0, 0, []⟩ := by unfold mdUpd; rw [hs, getD_of hx, if_neg hful]
    rw [hq, ← set_swap m s a2 (x + 1) x' has1]
    have dd : decide ((most : Int) ≤ (x : Int)) = false := decide_eq_false (by omega)
    have dd2 : decide ((x : Int) < (most : Int)) = true := decide_eq_true (by omega)
    have dd3 : ¬ (most : Int) ≤ (x : Int) := by omega
    have dd4 : ¬ most ≤ x := hful
    have HO2 := Lib.hid ((h.stored a2 x').stored s (x + 1))
    have HB2 : Hid (∀ u u2, Below B w ((w.setCell ⟨g1, a2, none⟩ u).setCell ⟨g1, s, none⟩ u2)) := Lib.hid (fun u u2 => ((Below.refl B w).setCell (p := ⟨g1, a2, none⟩) hg1 u).setCell (p := ⟨g1, s, none⟩) hg1 u2)
    clear h hc hf hx hy hs hx64 hq
    go_enter Tryz.func66, Tryz.ntmps66
    go_wp2_with fail
    refine bodyPost_ret (v := .tuple #[.slice (some ⟨g1, 0, none⟩) m.length cap, .agg #[.int .i64 0, .int .u64 0, .slice none 0 0]]) (by simp [results, Tryz.results66, go_sem]) rfl ⟨_, _, rfl, ⟨(((HO2.out.alloc _).alloc _).alloc _).argB, HR.out⟩, ⟨ArgB.nil _ _, room_nil⟩, (((HB2.out _ _).alloc (by simp; omega) _).alloc (by simp; omega) _).alloc (by simp; omega) _⟩
end
end Go.Proofs.YtjjleghalajidaaGreat
