/- Walks of ratios, of a cut, of sums, of the mean, of how even numbers are. -/
import Derived.Test.YticaheiomidanaaGE
import Derived.Lib.MinMax
namespace Go.Proofs.Yticaheiomidanaa
open Go.RowKit

theorem run_fof (n : Int) (w : World) : (convert 3 44 (.int .i64 n)).run Try.prog w = .ok (.float .f64 (fof n)) w :=
  run_convert_int_float w 3 44 .i64 .f64 n (by kernel_rfl) Try.underlying44

/-- a quotient, answered -/
def QuoP (x y : Nat) (w : World) (e : Ending) (w' : World) : Prop := ∃ z k, e = .returned (.float .f64 z) ∧ Quo x y z ∧ w' = w.drewN k

theorem ratio_any (a b : Int) (w : World) : Calls Try.prog 19 #[.int .i64 a, .int .i64 b] w (QuoP (fof a) (fof b) w) := by
  have hc := run_fof
  have hq := fun v => run_quo (P := Try.prog) v 44 (fof a) (fof b)
  have HQ := Lib.hid (fun v => quo_qv (fof a) (fof b) v)
  go_enter Try.func19, Try.ntmps19
  go_wp2
  go_ret
  exact ⟨_, _, rfl, HQ.out _, rfl⟩

theorem cut_any (x lo hi : Int) (w : World) : Calls Try.prog 32 #[.int .i64 x, .int .i64 lo, .int .i64 hi] w fun e w' => e = .returned (.int .i64 (cut lo hi x)) ∧ w = w' := by
  by_cases h1 : x < lo
  · rw [cut_low h1]
    go_enter Try.func32, Try.ntmps32
    go_wp2
    go_ret
    exact ⟨rfl, rfl⟩
  · by_cases h2 : hi < x
    · rw [cut_high h1 h2]
      go_enter Try.func32, Try.ntmps32
      go_wp2
      go_ret
      exact ⟨rfl, rfl⟩
    · rw [cut_mid h1 h2]
      go_enter Try.func32, Try.ntmps32
      go_wp2
      go_ret
      exact ⟨rfl, rfl⟩

theorem sm_take {lo hi : Int} {l : List Int} {j : Nat} {x : Int} (h : l[j]? = some x) : sm lo hi (l.take (j + 1)) = sm lo hi (l.take j) + cut lo hi x := by rw [take_snoc h, sm_snoc]
theorem sq_take {lo hi : Int} {l : List Int} {j : Nat} {x : Int} (h : l[j]? = some x) : sq lo hi (l.take (j + 1)) = sq lo hi (l.take j) + cut lo hi x * cut lo hi x := by rw [take_snoc h, sq_snoc]

/-- THE REFERENCE'S SUM, all of the numbers, by wide bounds: the sum of squares may be anything -/
theorem sum_wide (ao : Option Addr) (b o c : Nat) (l : List Int) (w : World) (hl : l.length ≤ 100000) (ha : 0 < l.length → ao = some ⟨b, o, none⟩) (hc : ICells w b o l) :
    Calls Try.prog 17 #[.slice ao l.length c, .int .i64 (-1073741824), .int .i64 1073741824, .int .i64 l.length] w fun e w' =>
      (∃ q, e = .returned (.tuple #[.int .i64 (sm (-1073741824) 1073741824 l), .int .i64 q, .int .i64 l.length])) ∧ w = w' := by
  have HC := Lib.hid hc
  have HA := Lib.hid ha
  clear hc ha
  go_enter Try.func17, Try.ntmps17
  go_wp2
  go_loop [11, 12, 13, 18] (fun s q n k => ∃ (j : Nat) (u z : Int), j ≤ l.length ∧ k = .int .i64 j ∧ n = .int .i64 j ∧ s = .int .i64 z ∧ q = .int .i64 u ∧ z = sm (-1073741824) 1073741824 (l.take j)) (fun _ _ _ k => l.length - (intOf k).toNat)
  case atStart => exact ⟨0, 0, 0, Nat.zero_le _, rfl, rfl, rfl, rfl, rfl⟩
  case round =>
    obtain ⟨j, u, z, hj, rfl, rfl, rfl, rfl, hz⟩ := hrel
    by_cases hlt : j < l.length
    · obtain rfl := HA.out (by omega)
      obtain ⟨x, hx⟩ : ∃ x, l[j]? = some x := ⟨l[j], List.getElem?_eq_getElem (by omega)⟩
      obtain ⟨c1, _⟩ := HC.out j _ hx
      have hb := sm_bound 1073741824 (-1073741824) 1073741824 (by decide) (by decide) (by decide) (l.take j)
      rw [← hz, List.length_take, Nat.min_eq_left hj] at hb
      have hr := cut_range (show (-1073741824 : Int) ≤ 1073741824 by decide) x
      have HZ := Lib.hid hz
      have HX := Lib.hid hx
      clear hx hz
      have hcut := fun w => cut_any x (-1073741824) 1073741824 w
      have HCT := Lib.hid hcut
      clear hcut
      generalize hg : cut (-1073741824) 1073741824 x = y at hr
      have HG := Lib.hid hg
      clear hg
      go_wp2_with fail
      refine (HCT.out _).mono ?_
      rintro e w' ⟨rfl, rfl⟩
      rw [HG.out]
      go_wp2
      go_round
      case rel => exact ⟨j + 1, _, z + y, by omega, by go_num, by go_num, rfl, rfl, by rw [sm_take HX.out, ← HZ.out, HG.out]⟩
      case measure => simp [intOf]; omega
    · have : j = l.length := by omega
      subst this
      rw [List.take_length] at hz
      go_wp2
      go_ret3
      rw [← hz]
      exact ⟨⟨_, rfl⟩, rfl⟩

theorem sq_bound (l : List Int) : 0 ≤ sq 0 1048576 l ∧ sq 0 1048576 l ≤ ((1099511627776 * l.length : Nat) : Int) := by
  unfold sq
  induction l with
  | nil => simp
  | cons x l ih =>
    have h := cut_range (show (0 : Int) ≤ 1048576 by decide) x
    have h1 : 0 ≤ cut 0 1048576 x * cut 0 1048576 x := Int.mul_nonneg h.1 h.1
    have h2 : cut 0 1048576 x * cut 0 1048576 x ≤ 1048576 * 1048576 := Int.mul_le_mul h.2 h.2 h.1 (by decide)
    rw [List.map_cons, List.sum_cons, List.length_cons, Nat.mul_add, Nat.mul_one]
    omega

theorem sm_pos (l : List Int) : 0 ≤ sm 0 1048576 l := by
  unfold sm
  induction l with
  | nil => simp
  | cons x l ih =>
    have h := cut_range (show (0 : Int) ≤ 1048576 by decide) x
    rw [List.map_cons, List.sum_cons]
    omega

/-- the numbers that are counted -/
def pre (l : List Int) : List Int := l.take 4096
theorem pre_take {l : List Int} {i : Nat} (h : i = min l.length 4096) : l.take i = pre l := by
  unfold pre
  rw [h]
  rcases Nat.le_total l.length 4096 with h | h
  · rw [Nat.min_eq_left h, List.take_of_length_le (Nat.le_refl _), List.take_of_length_le h]
  · rw [Nat.min_eq_right h]
theorem pre_length (l : List Int) : (pre l).length = min l.length 4096 := by unfold pre; rw [List.length_take, Nat.min_comm]

set_option maxRecDepth 100000 in
/-- THE REFERENCE'S SUM, of so many numbers at most, by the bounds of evenness -/
theorem sum_even (ao : Option Addr) (b o c : Nat) (l : List Int) (w : World) (hl : l.length ≤ 9223372036854775807) (ha : 0 < l.length → ao = some ⟨b, o, none⟩) (hc : ICells w b o l) :
    Calls Try.prog 17 #[.slice ao l.length c, .int .i64 0, .int .i64 1048576, .int .i64 4096] w fun e w' =>
      e = .returned (.tuple #[.int .i64 (sm 0 1048576 (pre l)), .int .i64 (sq 0 1048576 (pre l)), .int .i64 (min l.length 4096 : Nat)]) ∧ w = w' := by
  have HC := Lib.hid hc
  have HA := Lib.hid ha
  clear hc ha
  go_enter Try.func17, Try.ntmps17
  go_wp2
  go_loop [11, 12, 13, 18] (fun s q n k => ∃ (j i : Nat) (u z : Int), j ≤ l.length ∧ k = .int .i64 j ∧ n = .int .i64 i ∧ s = .int .i64 z ∧ q = .int .i64 u ∧ Hid (i = min j 4096) ∧ i ≤ 4096 ∧ Hid (z = sm 0 1048576 (l.take i)) ∧ Hid (u = sq 0 1048576 (l.take i))) (fun _ _ _ k => l.length - (intOf k).toNat)
  case atStart => exact ⟨0, 0, 0, 0, Nat.zero_le _, rfl, rfl, rfl, rfl, Lib.hid rfl, by decide, Lib.hid rfl, Lib.hid rfl⟩
  case round =>
    obtain ⟨j, i, u, z, hj, rfl, rfl, rfl, rfl, hi, hi2, hz, hu⟩ := hrel
    by_cases hlt : j < l.length
    · by_cases hm : j < 4096
      · obtain rfl := HA.out (by omega)
        obtain ⟨x, hx⟩ : ∃ x, l[j]? = some x := ⟨l[j], List.getElem?_eq_getElem (by omega)⟩
        obtain ⟨c1, _⟩ := HC.out j _ hx
        have hij : i = j := by rw [hi.out]; omega
        subst hij
        have hb := sm_bound 1048576 0 1048576 (by decide) (by decide) (by decide) (l.take i)
        have hb0 := sm_pos (l.take i)
        rw [← hz.out, List.length_take, Nat.min_eq_left hj] at hb
        rw [← hz.out] at hb0
        have hs := sq_bound (l.take i)
        rw [← hu.out, List.length_take, Nat.min_eq_left hj] at hs
        have hr := cut_range (show (0 : Int) ≤ 1048576 by decide) x
        have HX := Lib.hid hx
        clear hx
        have HCT := Lib.hid (fun w => cut_any x 0 1048576 w)
        generalize hg : cut 0 1048576 x = y at hr
        have HG := Lib.hid hg
        clear hg
        have hy1 : 0 ≤ y * y := Int.mul_nonneg hr.1 hr.1
        have hy2 : y * y ≤ 1099511627776 := by
          have : y * y ≤ 1048576 * 1048576 := Int.mul_le_mul hr.2 hr.2 hr.1 (by decide)
          omega
        generalize hyy : y * y = yy at hy1 hy2
        have HYY := Lib.hid hyy
        go_wp2_with fail
        refine (HCT.out _).mono ?_
        rintro e w' ⟨rfl, rfl⟩
        rw [HG.out]
        go_wp2
        go_round
        case rel => exact ⟨i + 1, i + 1, u + yy, z + y, by omega, by go_num, by go_num, by go_num, by go_num, Lib.hid (by omega), by omega, Lib.hid (by rw [sm_take HX.out, ← hz.out, HG.out]), Lib.hid (by rw [sq_take HX.out, ← hu.out, HG.out, HYY.out])⟩
        case measure => simp [intOf]; omega
      · have hi4 : i = 4096 := by rw [hi.out]; omega
        go_wp2
        go_round
        case rel => exact ⟨j + 1, i, u, z, by omega, by go_num, rfl, rfl, rfl, Lib.hid (by omega), hi2, hz, hu⟩
        case measure => simp [intOf]; omega
    · have : j = l.length := by omega
      subst this
      have e1 : l.take i = pre l := pre_take hi.out
      have E1 := Lib.hid e1
      clear e1
      go_wp2
      go_ret3
      exact ⟨by rw [← E1.out, ← hz.out, ← hu.out, ← hi.out]; rfl, rfl⟩

/-- THE MEAN -/
theorem mean_any (ao : Option Addr) (b o c : Nat) (l : List Int) (w : World) (hl : l.length ≤ 100000) (ha : 0 < l.length → ao = some ⟨b, o, none⟩) (hc : ICells w b o l) :
    Calls Try.prog 20 #[.slice ao l.length c] w (QuoP (fof (sm (-1073741824) 1073741824 l)) (fof l.length) w) := by
  have HC := Lib.hid hc
  have HA := Lib.hid ha
  clear hc ha
  go_enter Try.func20, Try.ntmps20
  go_wp2
  go_loop [3, 8] (fun s k => ∃ (j : Nat) (z : Int), j ≤ l.length ∧ k = .int .i64 j ∧ s = .int .i64 z ∧ z = sm (-1073741824) 1073741824 (l.take j)) (fun _ k => l.length - (intOf k).toNat)
  case atStart => exact ⟨0, 0, Nat.zero_le _, rfl, rfl, rfl⟩
  case round =>
    obtain ⟨j, z, hj, rfl, rfl, hz⟩ := hrel
    by_cases hlt : j < l.length
    · obtain rfl := HA.out (by omega)
      obtain ⟨x, hx⟩ : ∃ x, l[j]? = some x := ⟨l[j], List.getElem?_eq_getElem (by omega)⟩
      obtain ⟨c1, _⟩ := HC.out j _ hx
      have hb := sm_bound 1073741824 (-1073741824) 1073741824 (by decide) (by decide) (by decide) (l.take j)
      rw [← hz, List.length_take, Nat.min_eq_left hj] at hb
      have hr := cut_range (show (-1073741824 : Int) ≤ 1073741824 by decide) x
      have HZ := Lib.hid hz
      have HX := Lib.hid hx
      clear hx hz
      have hcm := cut_minmax (show (-1073741824 : Int) ≤ 1073741824 by decide) x
      generalize hg : cut (-1073741824) 1073741824 x = y at hr hcm
      have HG := Lib.hid hg
      clear hg
      go_wp2
      go_round
      case rel => exact ⟨j + 1, z + y, by omega, by go_num, by go_num, by rw [sm_take HX.out, ← HZ.out, HG.out]⟩
      case measure => simp [intOf]; omega
    · have : j = l.length := by omega
      subst this
      rw [List.take_length] at hz
      have HZ := Lib.hid hz
      clear hz
      have HR := Lib.hid (fun w => ratio_any z l.length w)
      go_wp2_with fail
      refine (HR.out _).mono ?_
      rintro e w' ⟨q, k, rfl, hq, rfl⟩
      go_wp2
      go_ret
      exact ⟨_, _, rfl, HZ.out ▸ hq, rfl⟩

set_option maxRecDepth 100000 in
/-- HOW EVEN -/
theorem even_any (ao : Option Addr) (b o c : Nat) (l : List Int) (w : World) (hl : l.length ≤ 9223372036854775807) (hcap : l.length ≤ c) (ha : 0 < l.length → ao = some ⟨b, o, none⟩) (hc : ICells w b o l)
    (t d : Nat) (ht : fD.mul (fof (sm 0 1048576 (pre l))) (fof (sm 0 1048576 (pre l))) = some t) (hd : fD.mul (fof (min l.length 4096 : Nat)) (fof (sq 0 1048576 (pre l))) = some d) :
    Calls Try.prog 21 #[.slice ao l.length c] w (QuoP t d w) := by
  have HC := Lib.hid hc
  have HA := Lib.hid ha
  have HT := Lib.hid ht
  have HD := Lib.hid hd
  clear hc ha ht hd
  obtain ⟨n, hn⟩ : ∃ n, n = min l.length 4096 := ⟨_, rfl⟩
  have hm : min (l.length : Int) 4096 = (n : Int) := by omega
  have hnl : n ≤ l.length := by omega
  have hn4 : n ≤ 4096 := by omega
  have HN4 := Lib.hid hn
  clear hn
  go_enter Try.func21, Try.ntmps21
  go_wp2
  go_loop [3, 4, 17] (fun s q k => ∃ (j : Nat) (u z : Int), j ≤ n ∧ k = .int .i64 j ∧ s = .int .i64 z ∧ q = .int .i64 u ∧ Hid (z = sm 0 1048576 (l.take j)) ∧ Hid (u = sq 0 1048576 (l.take j))) (fun _ _ k => n - (intOf k).toNat)
  case atStart => exact ⟨0, 0, 0, Nat.zero_le _, rfl, rfl, rfl, Lib.hid rfl, Lib.hid rfl⟩
  case round =>
    obtain ⟨j, u, z, hj, rfl, rfl, rfl, hz, hu⟩ := hrel
    by_cases hlt : j < n
    · obtain rfl := HA.out (by omega)
      obtain ⟨x, hx⟩ : ∃ x, l[j]? = some x := ⟨l[j], List.getElem?_eq_getElem (by omega)⟩
      obtain ⟨c1, _⟩ := HC.out j _ hx
      have hb := sm_bound 1048576 0 1048576 (by decide) (by decide) (by decide) (l.take j)
      have hb0 := sm_pos (l.take j)
      rw [← hz.out, List.length_take, Nat.min_eq_left (by omega)] at hb
      rw [← hz.out] at hb0
      have hs := sq_bound (l.take j)
      rw [← hu.out, List.length_take, Nat.min_eq_left (by omega)] at hs
      have hr := cut_range (show (0 : Int) ≤ 1048576 by decide) x
      have hcm := cut_minmax (show (0 : Int) ≤ 1048576 by decide) x
      have HX := Lib.hid hx
      clear hx
      generalize hg : cut 0 1048576 x = y at hr hcm
      have HG := Lib.hid hg
      clear hg
      have hy1 : 0 ≤ y * y := Int.mul_nonneg hr.1 hr.1
      have hy2 : y * y ≤ 1099511627776 := by
        have : y * y ≤ 1048576 * 1048576 := Int.mul_le_mul hr.2 hr.2 hr.1 (by decide)
        omega
      generalize hyy : y * y = yy at hy1 hy2
      have HYY := Lib.hid hyy
      go_wp2
      go_round
      case rel => exact ⟨j + 1, u + yy, z + y, by omega, by go_num, by go_num, by go_num, Lib.hid (by rw [sm_take HX.out, ← hz.out, HG.out]), Lib.hid (by rw [sq_take HX.out, ← hu.out, HG.out, HYY.out])⟩
      case measure => simp [intOf]; omega
    · have : j = n := by omega
      subst this
      have e1 : l.take j = pre l := pre_take HN4.out
      have hz' : sm 0 1048576 (pre l) = z := by rw [hz.out, e1]
      have hu' : sq 0 1048576 (pre l) = u := by rw [hu.out, e1]
      have M1 : fD.mul (fof z) (fof z) = some t := by rw [← hz']; exact HT.out
      have M2 : fD.mul (fof j) (fof u) = some d := by rw [← hu', HN4.out]; exact HD.out
      clear e1 hz' hu'
      have m1 := fun v => run_mul (P := Try.prog) v 44 _ _ _ M1
      have m2 := fun v => run_mul (P := Try.prog) v 44 _ _ _ M2
      have hq := fun v => run_quo (P := Try.prog) v 44 t d
      have HQ := Lib.hid (fun v => quo_qv t d v)
      have hf := run_fof
      clear M1 M2
      go_wp2
      go_ret
      exact ⟨_, _, rfl, HQ.out _, rfl⟩
end Go.Proofs.Yticaheiomidanaa
