/- Walks of what is known, and of the laws StatRatios and StatEven. -/
import Derived.Test.YticaheiomidanaaGG
namespace Go.Proofs.Yticaheiomidanaa
open Go.RowKit
theorem fcells2 (w : World) (B x y : Nat) (hB : B = w.heap.size) (hx : x < 18446744073709551616) (hy : y < 18446744073709551616) : FCells (w.alloc (.cells #[.float .f64 x, .float .f64 y] 44)) B 0 [x, y] := by
  subst hB
  intro i z hz
  match i, hz with
  | 0, hz => simp at hz; subst hz; refine ⟨?_, hx⟩; rw [World.cell?_alloc_at _ _ _ _ rfl]; rfl
  | 1, hz => simp at hz; subst hz; refine ⟨?_, hy⟩; rw [World.cell?_alloc_at _ _ _ _ rfl]; rfl
theorem icells2 (w : World) (B : Nat) (hB : B = w.heap.size) : ICells (w.alloc (.cells #[.int .i64 1, .int .i64 2] 3)) B 0 [1, 2] := by
  subst hB
  intro i x hx
  match i, hx with
  | 0, hx => simp at hx; subst hx; refine ⟨?_, by omega⟩; rw [World.cell?_alloc_at _ _ _ _ rfl]; rfl
  | 1, hx => simp at hx; subst hx; refine ⟨?_, by omega⟩; rw [World.cell?_alloc_at _ _ _ _ rfl]; rfl
theorem icells3 (w : World) (B : Nat) (hB : B = w.heap.size) : ICells (w.alloc (.cells #[.int .i64 1, .int .i64 1, .int .i64 2] 3)) B 0 [1, 1, 2] := by
  subst hB
  intro i x hx
  match i, hx with
  | 0, hx => simp at hx; subst hx; refine ⟨?_, by omega⟩; rw [World.cell?_alloc_at _ _ _ _ rfl]; rfl
  | 1, hx => simp at hx; subst hx; refine ⟨?_, by omega⟩; rw [World.cell?_alloc_at _ _ _ _ rfl]; rfl
  | 2, hx => simp at hx; subst hx; refine ⟨?_, by omega⟩; rw [World.cell?_alloc_at _ _ _ _ rfl]; rfl

set_option maxHeartbeats 400000 in
theorem known_any (w : World) : Calls Try.prog 16 #[] w fun e w' => e = .returned (.bool true) ∧ Below w.heap.size w w' := by
  have hq1 := fun v => run_float_arith (P := Try.prog) v .quo 44 .f64 one64 0 pinf (by decide +kernel)
  have hneg : ∀ v, (Op.unary .neg (.float .f64 0)).run Try.prog v = .ok (.float .f64 9223372036854775808) v := fun _ => rfl
  go_enter Try.func16, Try.ntmps16
  go_wp2_with fail
  refine (greatest_any (some ⟨w.heap.size, 0, none⟩) w.heap.size 0 2 [9223372036854775808, 0] _ (by simp) (fun _ => rfl) (fcells2 _ _ _ _ rfl (by decide) (by decide))).mono ?_
  rintro e w1 ⟨z1, k1, rfl, hz1, hw1⟩
  have hz1 : z1 = 0 := by rw [hz1.num (by decide)]; decide
  subst hz1
  have hb1 : Below w.heap.size w w1 := by rw [hw1]; exact below_drewN ((Below.refl _ _).alloc (Nat.le_refl _) _) _
  clear hw1
  go_wp2_with fail
  refine (greatest_any (some ⟨w1.heap.size, 0, none⟩) w1.heap.size 0 2 [0, pinf] _ (by simp) (fun _ => rfl) (fcells2 _ _ _ _ rfl (by decide) (by decide))).mono ?_
  rintro e w2 ⟨z2, k2, rfl, hz2, hw2⟩
  have hz2 : z2 = pinf := by rw [hz2.num (by decide)]; decide
  subst hz2
  have hb2 : Below w.heap.size w w2 := by rw [hw2]; exact below_drewN (hb1.alloc hb1.size _) _
  clear hw2 hb1
  go_wp2_with fail
  refine (ratio_any 1 4 _).mono ?_
  rintro e w3 ⟨z3, k3, rfl, hz3, hw3⟩
  have hz3 : z3 = 4598175219545276416 := quo_some (by decide +kernel) hz3
  subst hz3
  have hb3 : Below w.heap.size w w3 := by rw [hw3]; exact below_drewN hb2 _
  clear hw3 hb2
  go_wp2_with fail
  have HT : fD.mul (fof (sm 0 1048576 (pre [1, 1, 2]))) (fof (sm 0 1048576 (pre [1, 1, 2]))) = some 4625196817309499392 := by decide +kernel
  have HD : fD.mul (fof (min ([1, 1, 2] : List Int).length 4096 : Nat)) (fof (sq 0 1048576 (pre [1, 1, 2]))) = some 4625759767262920704 := by decide +kernel
  refine (even_any (some ⟨w3.heap.size, 0, none⟩) w3.heap.size 0 3 [1, 1, 2] _ (by simp) (by simp) (fun _ => rfl) (icells3 _ _ rfl) _ _ HT HD).mono ?_
  rintro e w4 ⟨z4, k4, rfl, hz4, hw4⟩
  have hz4 : z4 = 4606181618882823964 := quo_some (by decide +kernel) hz4
  subst hz4
  have hb4 : Below w.heap.size w w4 := by rw [hw4]; exact below_drewN (hb3.alloc hb3.size _) _
  clear hw4 hb3 HT HD
  go_wp2_with fail
  refine (same_any _ _ _).mono ?_
  rw [alike_self]
  rintro e w5 ⟨rfl, rfl⟩
  go_wp2_with fail
  refine (mean_any (some ⟨w4.heap.size, 0, none⟩) w4.heap.size 0 2 [1, 2] _ (by simp) (fun _ => rfl) (icells2 _ _ rfl)).mono ?_
  rintro e w6 ⟨z6, k6, rfl, hz6, hw6⟩
  have hz6 : z6 = 4609434218613702656 := quo_some (by decide +kernel) hz6
  subst hz6
  have hb6 : Below w.heap.size w w6 := by rw [hw6]; exact below_drewN (hb4.alloc hb4.size _) _
  clear hw6 hb4
  go_wp2_with fail
  refine (same_any _ _ _).mono ?_
  rw [alike_self]
  rintro e w7 ⟨rfl, rfl⟩
  go_wp2_with fail
  go_ret
  exact ⟨rfl, hb6⟩

set_option maxHeartbeats 400000 in
theorem ratios_walk (a b : Int) (ao : Option Addr) (g o c : Nat) (l : List Int) (w : World) (hl : l.length ≤ 9223372036854775807) (hg : 0 < l.length → g < w.heap.size) (ha : 0 < l.length → ao = some ⟨g, o, none⟩) (hc : ICells w g o l) :
    Calls Try.prog 5 #[.int .i64 a, .int .i64 b, .slice ao l.length c] w fun e w' => e = .returned (.bool true) ∧ Below w.heap.size w w' := by
  have HC := Lib.hid hc
  have HA := Lib.hid ha
  have HG := Lib.hid hg
  clear hc ha hg
  by_cases hlong : 100000 < l.length
  · go_enter Try.func5, Try.ntmps5
    go_wp2_with fail
    refine (known_any _).mono ?_
    rintro e w' ⟨rfl, hb⟩
    go_wp2_with fail
    go_ret
    exact ⟨rfl, hb⟩
  · have HL := Lib.hid (sum_wide ao g o c l w (by omega) HA.out HC.out)
    have hcv := run_fof
    go_enter Try.func5, Try.ntmps5
    go_wp2_with fail
    refine HL.out.mono ?_
    rintro e w0 ⟨⟨q, rfl⟩, rfl⟩
    have hlen : (l.length : Int) ≤ 100000 := by omega
    obtain ⟨s, hs⟩ : ∃ s, s = sm (-1073741824) 1073741824 l := ⟨_, rfl⟩
    rw [← hs]
    have HS := Lib.hid hs
    clear hs
    have hq1 := fun v => run_quo (P := Try.prog) v 44 (fof a) (fof b)
    have hq2 := fun v => run_quo (P := Try.prog) v 44 (fof s) (fof l.length)
    go_wp2_with fail
    refine (ratio_any a b _).mono ?_
    rintro e w1 ⟨z1, k1, rfl, hz1, rfl⟩
    have Z1 := Lib.hid hz1
    clear hz1
    go_wp2_with fail
    refine (same_any _ _ _).mono ?_
    rw [quo_alike Z1.out (quo_qv _ _ _)]
    rintro e w2 ⟨rfl, hw2⟩
    have hb2 : Below w.heap.size w w2 := by rw [← hw2]; exact below_drewN (Below.refl _ _) _
    clear hw2
    have HM := Lib.hid (mean_any ao g o c l w2 (by omega) HA.out (HC.out.stays hb2 HG.out))
    go_wp2_with fail
    refine HM.out.mono ?_
    rw [← HS.out]
    rintro e w3 ⟨z3, k3, rfl, hz3, hw3⟩
    have Z3 := Lib.hid hz3
    have hb3 : Below w.heap.size w w3 := by rw [hw3]; exact below_drewN hb2 _
    clear hz3 hb2 hw3
    go_wp2_with fail
    refine (same_any _ _ _).mono ?_
    rw [quo_alike Z3.out (quo_qv _ _ _)]
    rintro e w4 ⟨rfl, hw4⟩
    have hb4 : Below w.heap.size w w4 := by rw [← hw4]; exact below_drewN hb3 _
    clear hw4 hb3
    go_wp2_with fail
    refine (known_any _).mono ?_
    rintro e w5 ⟨rfl, hb5⟩
    have hb6 : Below w.heap.size w w5 := hb4.trans (hb5.mono hb4.size)
    go_wp2_with fail
    go_ret
    exact ⟨rfl, hb6⟩

set_option maxHeartbeats 400000 in
set_option maxRecDepth 100000 in
theorem even_walk (ao : Option Addr) (g o c : Nat) (l : List Int) (w : World) (hl : l.length ≤ 9223372036854775807) (hcap : l.length ≤ c) (hg : 0 < l.length → g < w.heap.size) (ha : 0 < l.length → ao = some ⟨g, o, none⟩) (hc : ICells w g o l) :
    Calls Try.prog 6 #[.slice ao l.length c] w fun e w' => e = .returned (.bool true) ∧ Below w.heap.size w w' := by
  have HC := Lib.hid hc
  have HA := Lib.hid ha
  have HG := Lib.hid hg
  clear hc ha hg
  obtain ⟨s, q, hs, hq, bs, bq, hcau, h0⟩ := even_sums (pre l) (by rw [pre_length]; omega)
  rw [pre_length] at hcau
  obtain ⟨n, hn⟩ : ∃ n, n = min l.length 4096 := ⟨_, rfl⟩
  have hn4 : n ≤ 4096 := by omega
  have hT : fD.mul (fof s) (fof s) = some (rnd (s * s * 2 ^ 1074)) := mul_nat (by omega) (by omega)
  have hD : fD.mul (fof n) (fof q) = some (rnd (n * q * 2 ^ 1074)) := mul_nat (by omega) (by omega)
  have hE := even_div bs bq hn4 (by rw [hn]; exact hcau) h0
  generalize rnd (s * s * 2 ^ 1074) = t at hT hE
  generalize rnd (n * q * 2 ^ 1074) = d at hD hE
  have HL := Lib.hid (even_any ao g o c l w hl hcap HA.out HC.out t d (by rw [hs]; exact hT) (by rw [hq, ← hn]; exact hD))
  have HS := Lib.hid hs
  have HQ := Lib.hid hq
  have HN := Lib.hid hn
  have HE := Lib.hid hE
  clear hs hq hcau h0 hn hE
  have hcv := run_fof
  have hm1 := fun v => run_mul (P := Try.prog) v 44 _ _ _ hT
  have hm2 := fun v => run_mul (P := Try.prog) v 44 _ _ _ hD
  clear hT hD
  go_enter Try.func6, Try.ntmps6
  go_wp2_with fail
  refine HL.out.mono ?_
  rintro e w1 ⟨x, k1, rfl, hx, rfl⟩
  have HX := Lib.hid hx
  clear hx
  have HM := Lib.hid (sum_even ao g o c l (w.drewN k1) hl HA.out HC.out)
  go_wp2_with fail
  refine HM.out.mono ?_
  rintro e w2 ⟨rfl, rfl⟩
  rw [HS.out, HQ.out, ← HN.out]
  have hq1 := fun v => run_quo (P := Try.prog) v 44 t d
  go_wp2_with fail
  refine (same_any _ _ _).mono ?_
  rw [quo_alike HX.out (quo_qv _ _ _)]
  rintro e w3 ⟨rfl, hw3⟩
  have hb3 : Below w.heap.size w w3 := by rw [← hw3]; exact below_drewN (Below.refl _ _) _
  clear hw3
  by_cases hq0 : q = 0
  · have hN : isNB x = true := quo_none (HE.out.1 hq0) HX.out
    have o1 : (fD.order x one64 == some Ordering.gt) = false := by rw [order_nan1 _ hN]; rfl
    have o2 : (fD.order x x != some Ordering.eq) = true := by rw [order_nan1 _ hN]; rfl
    have hf : FloatKind.f64.format = fD := rfl
    have hq1 : ((q : Int) == 0) = true := by subst hq0; rfl
    clear hN hq0
    go_wp2_with fail
    refine (known_any _).mono ?_
    rintro e w5 ⟨rfl, hb5⟩
    have hb6 : Below w.heap.size w w5 := hb3.trans (hb5.mono hb3.size)
    go_wp2_with fail
    go_ret
    exact ⟨rfl, hb6⟩
  · obtain ⟨r, hr, hle⟩ := HE.out.2 hq0
    obtain rfl := quo_some hr HX.out
    have hN : isNB x = false := isNB_small (by omega)
    have o1 : (fD.order x one64 == some Ordering.gt) = false := by
      apply beq_false_of_ne
      rw [order_sv hN (by decide)]
      intro h
      have h := cmp_gt.1 (Option.some.inj h)
      rw [sv_small (r := x) (show x < 9223372036854775808 by omega), sv_small (r := one64) (by decide)] at h
      have : rv x ≤ rv one64 := rv_le hle
      omega
    have o2 : (fD.order x x != some Ordering.eq) = false := by rw [order_self hN]; rfl
    have hf : FloatKind.f64.format = fD := rfl
    have hq1 : ((q : Int) == 0) = false := by apply beq_false_of_ne; omega
    clear hN hq0 hr hle
    go_wp2_with fail
    refine (known_any _).mono ?_
    rintro e w5 ⟨rfl, hb5⟩
    have hb6 : Below w.heap.size w w5 := hb3.trans (hb5.mono hb3.size)
    go_wp2_with fail
    go_ret
    exact ⟨rfl, hb6⟩
end Go.Proofs.Yticaheiomidanaa
