/- Walk of the law KeyCompares. -/
import Derived.Test.YtlagfdbemmhahaaV9
import Derived.Deep.RegionHeld3
namespace Go.Proofs.Ytlagfdbemmhahaa
open Go.RowKit

/-- the two ticks, in the box of the call's own -/
def QIs (w : World) (g : Nat) (q0 q1 : Int) : Prop := w.cell? ⟨g, 0, none⟩ = some (.int .i64 q0) ∧ w.cell? ⟨g, 1, none⟩ = some (.int .i64 q1)

set_option maxHeartbeats 400000 in
theorem compares_long (v1 v2 : Option Addr) (n1 c1 n2 c2 : Nat) (q0 q1 : Int) (w : World) (h : 1000 < n1 ∨ 1000 < n2) :
    Calls Try.prog 5 #[.slice v1 n1 c1, .slice v2 n2 c2, .agg #[.int .i64 q0, .int .i64 q1]] w fun e w' => e = .returned (.bool true) ∧ Below w.heap.size w w' := by
  by_cases h1 : 1000 < n1
  · clear h
    go_enter Try.func5, Try.ntmps5
    go_wp2_with fail
    refine (known_any _).mono ?_
    rintro e w' ⟨rfl, hb⟩
    go_wp2_with fail
    go_ret
    exact ⟨rfl, ((Below.refl _ _).alloc (Nat.le_refl _) _).trans (hb.mono (by simp))⟩
  · have h2 : 1000 < n2 := by omega
    clear h
    go_enter Try.func5, Try.ntmps5
    go_wp2_with fail
    refine (known_any _).mono ?_
    rintro e w' ⟨rfl, hb⟩
    go_wp2_with fail
    go_ret
    exact ⟨rfl, ((Below.refl _ _).alloc (Nat.le_refl _) _).trans (hb.mono (by simp))⟩

set_option maxRecDepth 100000 in
set_option maxHeartbeats 1000000 in
theorem compares_walk (ao1 ao2 : Option Addr) (b1 o1 c1 b2 o2 c2 : Nat) (l k : List Int) (q0 q1 : Int) (w : World) (hl : l.length ≤ 1000) (hk : k.length ≤ 1000)
    (ha1 : 0 < l.length → ao1 = some ⟨b1, o1, none⟩) (ha2 : 0 < k.length → ao2 = some ⟨b2, o2, none⟩) (hb1 : 0 < l.length → b1 < w.heap.size) (hb2 : 0 < k.length → b2 < w.heap.size) (hc1 : ICells w b1 o1 l) (hc2 : ICells w b2 o2 k) :
    Calls Try.prog 5 #[.slice ao1 l.length c1, .slice ao2 k.length c2, .agg #[.int .i64 q0, .int .i64 q1]] w fun e w' => e = .returned (.bool true) ∧ Below w.heap.size w w' := by
  have hbl : Below w.heap.size w (w.alloc (.cells #[.int .i64 q0, .int .i64 q1] 34)) := (Below.refl _ _).alloc (Nat.le_refl _) _
  have HA1 := Lib.hid ha1
  have HA2 := Lib.hid ha2
  have HC1 := Lib.hid (hc1.stays hbl hb1)
  have HC2 := Lib.hid (hc2.stays hbl hb2)
  have HBL := Lib.hid hbl
  have hl' : l.length ≤ 9223372036854775807 := by omega
  have hk' : k.length ≤ 9223372036854775807 := by omega
  have t0 : (w.alloc (.cells #[.int .i64 q0, .int .i64 q1] 34)).cell? ⟨w.heap.size, 0, none⟩ = some (.int .i64 q0) := by rw [World.cell?_alloc_at _ _ _ _ rfl]; rfl
  have t1 : (w.alloc (.cells #[.int .i64 q0, .int .i64 q1] 34)).cell? ⟨w.heap.size, 1, none⟩ = some (.int .i64 q1) := by rw [World.cell?_alloc_at _ _ _ _ rfl]; rfl
  have HSZ : Hid (w.heap.size + 1 = (w.alloc (.cells #[.int .i64 q0, .int .i64 q1] 34)).heap.size) := Lib.hid (by simp)
  have HA := Lib.hid (fun q => ahead_any ao1 ao2 b1 o1 c1 b2 o2 c2 l k ((w.alloc (.cells #[.int .i64 q0, .int .i64 q1] 34)).drewN q) hl' hk' ha1 ha2 HC1.out HC2.out)
  have HA0 := Lib.hid (ahead_any ao1 ao2 b1 o1 c1 b2 o2 c2 l k (w.alloc (.cells #[.int .i64 q0, .int .i64 q1] 34)) hl' hk' ha1 ha2 HC1.out HC2.out)
  have HB := Lib.hid (fun q => ahead_any ao2 ao1 b2 o2 c2 b1 o1 c1 k l ((w.alloc (.cells #[.int .i64 q0, .int .i64 q1] 34)).drewN q) hk' hl' ha2 ha1 HC2.out HC1.out)
  have HC := Lib.hid (fun q => compare_any ao1 ao2 b1 o1 c1 b2 o2 c2 l k ((w.alloc (.cells #[.int .i64 q0, .int .i64 q1] 34)).drewN q) hl' hk' ha1 ha2 HC1.out HC2.out)
  have HW := Lib.hid (fun q => within_any ao1 b1 o1 c1 l q0 q1 ((w.alloc (.cells #[.int .i64 q0, .int .i64 q1] 34)).drewN q) hl' ha1 HC1.out)
  have HR := Lib.hid (fun q => rwithin_any ao1 b1 o1 c1 l q0 q1 ((w.alloc (.cells #[.int .i64 q0, .int .i64 q1] 34)).drewN q) hl' ha1 HC1.out)
  clear ha1 ha2 hb1 hb2 hc1 hc2 hbl
  generalize withinB l q0 q1 = wi at HW HR
  have hn := Lib.hid (cmpL_neg l k)
  rcases cmpL_three l k with h | h | h
  · rw [aheadB_yes h] at HA0
    rw [h] at HC
    clear h
    go_enter Try.func5, Try.ntmps5
    go_wp2_with fail
    refine HA0.out.mono ?_
    rintro e w1 ⟨rfl, m, rfl⟩
    go_wp2_with fail
    go_region_held3 (fun w' => w'.cell? ⟨w.heap.size, 0, none⟩ = some (.int .i64 q0) ∧ w'.cell? ⟨w.heap.size, 1, none⟩ = some (.int .i64 q1))
      (first | exact ⟨t0, t1⟩ | go_keep)
      (first
        | (go_at_call 16; (with_reducible refine (HC.out _).mono ?_); rintro e w' ⟨rfl, rfl⟩)
        | (go_at_call 17; (with_reducible refine (HW.out _).mono ?_); rintro e w' ⟨rfl, m2, rfl⟩)
        | (go_at_call 18; (with_reducible refine (HR.out _).mono ?_); rintro e w' ⟨rfl, m3, rfl⟩)
        | (go_at_call 14; refine (known_any _).mono ?_; rintro e w' ⟨rfl, hb9⟩; have HB9 := Lib.hid ((below_drewN HBL.out _).trans (hb9.mono (by simp))); have u0 : w'.cell? ⟨w.heap.size, 0, none⟩ = some (.int .i64 q0) := (hb9.cell (p := ⟨w.heap.size, 0, none⟩) (by simp)).trans t0; have u1 : w'.cell? ⟨w.heap.size, 1, none⟩ = some (.int .i64 q1) := (hb9.cell (p := ⟨w.heap.size, 1, none⟩) (by simp)).trans t1; clear hb9))
    go_wp2
    go_ret
    exact ⟨rfl, HB9.out⟩
  · have e2 : Hid (aheadB k l = false) := Lib.hid (aheadB_no (by rw [hn.out, h]; decide))
    have e1 : Hid (aheadB l k = false) := Lib.hid (aheadB_no (by rw [h]; decide))
    rw [e1.out] at HA0
    rw [e2.out] at HB
    rw [h] at HC
    clear h
    go_enter Try.func5, Try.ntmps5
    go_wp2_with fail
    refine HA0.out.mono ?_
    rintro e w1 ⟨rfl, m, rfl⟩
    go_wp2_with fail
    refine (HB.out _).mono ?_
    rintro e w1 ⟨rfl, m1, rfl⟩
    go_wp2_with fail
    go_region_held3 (fun w' => w'.cell? ⟨w.heap.size, 0, none⟩ = some (.int .i64 q0) ∧ w'.cell? ⟨w.heap.size, 1, none⟩ = some (.int .i64 q1))
      (first | exact ⟨t0, t1⟩ | go_keep)
      (first
        | (go_at_call 16; (with_reducible refine (HC.out _).mono ?_); rintro e w' ⟨rfl, rfl⟩)
        | (go_at_call 17; (with_reducible refine (HW.out _).mono ?_); rintro e w' ⟨rfl, m2, rfl⟩)
        | (go_at_call 18; (with_reducible refine (HR.out _).mono ?_); rintro e w' ⟨rfl, m3, rfl⟩)
        | (go_at_call 14; refine (known_any _).mono ?_; rintro e w' ⟨rfl, hb9⟩; have HB9 := Lib.hid ((below_drewN HBL.out _).trans (hb9.mono (by simp))); have u0 : w'.cell? ⟨w.heap.size, 0, none⟩ = some (.int .i64 q0) := (hb9.cell (p := ⟨w.heap.size, 0, none⟩) (by simp)).trans t0; have u1 : w'.cell? ⟨w.heap.size, 1, none⟩ = some (.int .i64 q1) := (hb9.cell (p := ⟨w.heap.size, 1, none⟩) (by simp)).trans t1; clear hb9))
    go_wp2
    go_ret
    exact ⟨rfl, HB9.out⟩
  · have e2 : Hid (aheadB k l = true) := Lib.hid (aheadB_yes (by rw [hn.out, h]))
    have e1 : Hid (aheadB l k = false) := Lib.hid (aheadB_no (by rw [h]; decide))
    rw [e1.out] at HA0
    rw [e2.out] at HB
    rw [h] at HC
    clear h
    go_enter Try.func5, Try.ntmps5
    go_wp2_with fail
    refine HA0.out.mono ?_
    rintro e w1 ⟨rfl, m, rfl⟩
    go_wp2_with fail
    refine (HB.out _).mono ?_
    rintro e w1 ⟨rfl, m1, rfl⟩
    go_wp2_with fail
    go_region_held3 (fun w' => w'.cell? ⟨w.heap.size, 0, none⟩ = some (.int .i64 q0) ∧ w'.cell? ⟨w.heap.size, 1, none⟩ = some (.int .i64 q1))
      (first | exact ⟨t0, t1⟩ | go_keep)
      (first
        | (go_at_call 16; (with_reducible refine (HC.out _).mono ?_); rintro e w' ⟨rfl, rfl⟩)
        | (go_at_call 17; (with_reducible refine (HW.out _).mono ?_); rintro e w' ⟨rfl, m2, rfl⟩)
        | (go_at_call 18; (with_reducible refine (HR.out _).mono ?_); rintro e w' ⟨rfl, m3, rfl⟩)
        | (go_at_call 14; refine (known_any _).mono ?_; rintro e w' ⟨rfl, hb9⟩; have HB9 := Lib.hid ((below_drewN HBL.out _).trans (hb9.mono (by simp))); have u0 : w'.cell? ⟨w.heap.size, 0, none⟩ = some (.int .i64 q0) := (hb9.cell (p := ⟨w.heap.size, 0, none⟩) (by simp)).trans t0; have u1 : w'.cell? ⟨w.heap.size, 1, none⟩ = some (.int .i64 q1) := (hb9.cell (p := ⟨w.heap.size, 1, none⟩) (by simp)).trans t1; clear hb9))
    go_wp2
    go_ret
    exact ⟨rfl, HB9.out⟩
end Go.Proofs.Ytlagfdbemmhahaa
