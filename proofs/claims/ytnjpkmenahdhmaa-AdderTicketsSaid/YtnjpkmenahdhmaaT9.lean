/- Walk of the law AdderTickets. -/
import Derived.Test.YtnjpkmenahdhmaaOAt
import Derived.Test.YtnjpkmenahdhmaaZE
namespace Go.Proofs.Ytnjpkmenahdhmaa
open Go.ChangeShapes Go.WideShapes Go.ChangeAt Go.RowKit
set_option linter.unusedVariables false
def twoCs : List CallV := [⟨0, 0, 2, 0, 0, 0⟩, ⟨1, 0, 2, 0, 0, 0⟩]
theorem two_end : repOf (endM (M := addM) twoCs [0] () [1, 0]) = ⟨[⟨1, 1, 1, 1, ⟨0, 0, []⟩, [2]⟩, ⟨0, 2, 2, 1, ⟨0, 1, []⟩, [4]⟩], [2], ⟨0, 0, 0, 2, 0⟩, 2, 0⟩ := by rfl
set_option maxRecDepth 100000 in
set_option maxHeartbeats 2000000 in
theorem two_any9 (w : World) : Calls Try.prog 26 #[] w fun e w' => e = .returned (.bool true) ∧ Below w.heap.size w w' := by
  go_enter Try.func26, Try.ntmps26
  go_wp2_with fail
  generalize hw2 : (w.alloc (.cells #[.int .i64 0, .int .i64 0, .int .i64 2, .int .u64 0, .int .u64 0, .int .u64 0, .int .i64 1, .int .i64 0, .int .i64 2, .int .u64 0, .int .u64 0, .int .u64 0] 55)).alloc (.cells #[.int .i64 1, .int .i64 0] 3) = w2
  have HB0 : Hid (Below w.heap.size w w2) := Lib.hid (by rw [← hw2]; exact ((Below.refl _ _).alloc (Nat.le_refl _) _).alloc (by simp) _)
  have hsz : w2.heap.size = w.heap.size + 2 := by rw [← hw2]; simp
  have hc : CallsAt w2 w.heap.size 0 twoCs := by
    have e : ∀ k, w2.cell? ⟨w.heap.size, k, none⟩ = (#[.int .i64 0, .int .i64 0, .int .i64 2, .int .u64 0, .int .u64 0, .int .u64 0, .int .i64 1, .int .i64 0, .int .i64 2, .int .u64 0, .int .u64 0, .int .u64 0] : Array Value)[k]? := fun k => by
      rw [← hw2, World.cell?_alloc_past _ _ _ (by simp), World.cell?_alloc_at _ _ _ _ rfl]
    intro i x hx
    match i, hx with
    | 0, hx => cases hx; refine ⟨e _, e _, e _, e _, e _, e _, ?_⟩; decide
    | 1, hx => cases hx; refine ⟨e _, e _, e _, e _, e _, e _, ?_⟩; decide
    | i + 2, hx => simp [twoCs] at hx
  have hp : ICells w2 (w.heap.size + 1) 0 [1, 0] := by
    have e : ∀ k, w2.cell? ⟨w.heap.size + 1, k, none⟩ = (#[.int .i64 1, .int .i64 0] : Array Value)[k]? := fun k => by
      rw [← hw2, World.cell?_alloc_at _ _ _ _ (by simp)]
    intro i x hx
    match i, hx with
    | 0, hx => cases hx; exact ⟨e _, by decide⟩
    | 1, hx => cases hx; exact ⟨e _, by decide⟩
    | i + 2, hx => simp at hx
  have HG := Lib.hid (add_play 2 (some ⟨w.heap.size, 0, none⟩) w.heap.size 0 2 twoCs (some ⟨w.heap.size + 1, 0, none⟩) (w.heap.size + 1) 0 2 [1, 0] w2 (fun _ => rfl) (fun _ => by omega) hc (fun h => by cases h) (fun _ => rfl) (fun _ => by omega) hp (by decide))
  clear hw2 hc hp
  refine (show Calls Try.prog 27 #[.int .i64 2, .slice (some ⟨w.heap.size, 0, none⟩) 2 2, .slice (some ⟨w.heap.size + 1, 0, none⟩) 2 2] w2 (PlayG addM 2 0 twoCs [0] () [1, 0] w2) from HG.out).mono ?_
  rintro e w3 hP
  obtain ⟨aoE, gE, capE, gw, rfl, hao, hev, hrw, _, hb3⟩ := hP.good (by decide)
  rw [two_end] at hao hev hrw ⊢
  obtain rfl := hao (by decide)
  have z := hb3.size
  have HB3 : Hid (Below w.heap.size w w3) := Lib.hid (HB0.out.trans (hb3.mono (by omega)))
  obtain ⟨_, la0, ka0, lc0, kc0, v0⟩ := hev 0 _ rfl
  obtain ⟨_, la1, ka1, lc1, kc1, v1⟩ := hev 1 _ rfl
  have r0 : w3.cell? ⟨gE, 0, none⟩ = some (.int .i64 1) := v0.c0
  have r5 : w3.cell? ⟨gE, 5, none⟩ = some (.int .u64 0) := v0.c5
  have r13 : w3.cell? ⟨gE, 13, none⟩ = some (.int .u64 1) := v1.c5
  have rw0 : w3.cell? ⟨gw, 0, none⟩ = some (.int .u64 2) := hrw.cell rfl
  have l1 := World.block_lt_of_cell? w3 ⟨gE, 0, none⟩ r0
  have l2 := hrw.lt
  clear hao hev hrw hb3 v0 v1 HG hP
  unfold repVs
  go_wp2_with fail
  go_ret
  exact ⟨rfl, HB3.out.alloc (by omega) _⟩

set_option maxRecDepth 20000 in
theorem tix_out (n : Int) (e1 : Int) (ao3 : Option Addr) (np cap3 : Nat) (w : World) (hnp : np ≤ 9223372036854775807) (h : n < 1 ∨ 16 < n ∨ 1000 < np) :
    Calls Try.prog 7 #[.int .i64 n, .int .u8 e1, .slice ao3 np cap3] w fun e w' => e = .returned (.bool true) ∧ Below w.heap.size w w' := by
  by_cases h1 : n < 1
  · clear h
    go_enter Try.func7, Try.ntmps7
    go_wp2_with fail
    refine (two_any9 _).mono ?_
    rintro e w1 ⟨rfl, hb⟩
    have HB := Lib.hid hb
    clear hb
    go_wp2_with fail
    go_ret
    exact ⟨rfl, HB.out⟩
  · by_cases h2 : 16 < n
    · clear h
      go_enter Try.func7, Try.ntmps7
      go_wp2_with fail
      refine (two_any9 _).mono ?_
      rintro e w1 ⟨rfl, hb⟩
      have HB := Lib.hid hb
      clear hb
      go_wp2_with fail
      go_ret
      exact ⟨rfl, HB.out⟩
    · have h3 : 1000 < np := by omega
      have h4 : (1000 : Int) < (np : Int) := by omega
      clear h
      go_enter Try.func7, Try.ntmps7
      go_wp2_with fail
      refine (two_any9 _).mono ?_
      rintro e w1 ⟨rfl, hb⟩
      have HB := Lib.hid hb
      clear hb
      go_wp2_with fail
      go_ret
      exact ⟨rfl, HB.out⟩

def callV6 (x : CallV) : List Value := [.int .i64 x.t, .int .i64 x.o, .int .i64 x.k, .int .u64 (x.a : Int), .int .u64 (x.b : Int), .int .u64 (x.c : Int)]
theorem callV6_get : ∀ (l : List CallV) (i k : Nat) (y : CallV), l[i]? = some y → k < 6 → (l.flatMap callV6)[i * 6 + k]? = (callV6 y)[k]?
  | [], _, _, _, h, _ => by simp at h
  | a :: r, 0, k, y, h, hk => by
    simp at h
    subst h
    rw [List.flatMap_cons, List.getElem?_append_left (by simp [callV6]; omega)]
    simp
  | a :: r, i + 1, k, y, h, hk => by
    have := callV6_get r i k y (by simpa using h) hk
    rw [List.flatMap_cons, List.getElem?_append_right (by simp [callV6]; omega), ← this]
    congr 1
    simp [callV6]
    omega
theorem tix_part {n m : Nat} {x : CallV} {j : Nat} (h : x ∈ tixCs n m ++ (tixRow n).take j) : 0 ≤ x.t ∧ x.t < n ∧ x.o = 0 ∧ x.k = 2 := by
  rcases List.mem_append.1 h with h | h
  · exact tixCs_mem h
  · exact tixCs_mem (n := n) (m := 1) (by
      have e : tixCs n 1 = tixRow n := by unfold tixCs; simp
      rw [e]; exact List.mem_of_mem_take h)
theorem tixRow_get {n j : Nat} (h : j < n) : (tixRow n)[j]? = some ⟨(j : Int), 0, 2, 0, 0, 0⟩ := by unfold tixRow; rw [List.getElem?_map, List.getElem?_range h]; rfl
theorem tix_calls {w : World} {B g cap : Nat} {cs : List CallV} {nn : Nat} (ho : w.ownsRow B 55 6 (.slice (some ⟨g, 0, none⟩) nn cap) nn (cs.flatMap callV6)) (hb : ∀ x ∈ cs, (-9223372036854775808 ≤ x.t ∧ x.t ≤ 9223372036854775807) ∧ (-9223372036854775808 ≤ x.o ∧ x.o ≤ 9223372036854775807) ∧ (-9223372036854775808 ≤ x.k ∧ x.k ≤ 9223372036854775807) ∧ x.a < 18446744073709551616 ∧ x.b < 18446744073709551616 ∧ x.c < 18446744073709551616) : CallsAt w g 0 cs := fun i x hx => by
  have c : ∀ k u, k < 6 → (callV6 x)[k]? = some u → w.cell? ⟨g, i * 6 + k, none⟩ = some u := fun k u hk hu => by
    have h := ho.cells (g := g) rfl (i * 6 + k) u ((callV6_get cs i k x hx hk).trans hu)
    generalize i * 6 + k = m at h ⊢
    by_cases h0 : m = 0
    · subst h0; simpa [Addr.add] using h
    · simpa [Addr.add, h0] using h
  have e : ∀ k, (⟨g, 0 + i * 6 + k, none⟩ : Addr) = ⟨g, i * 6 + k, none⟩ := fun k => by rw [Nat.zero_add]
  exact ⟨by have := c 0 _ (by omega) rfl; simpa using this, by rw [e]; exact c 1 _ (by omega) rfl, by rw [e]; exact c 2 _ (by omega) rfl, by rw [e]; exact c 3 _ (by omega) rfl, by rw [e]; exact c 4 _ (by omega) rfl, by rw [e]; exact c 5 _ (by omega) rfl, hb x (List.mem_of_getElem? hx)⟩
theorem info55 : (Try.prog.info? 55).map (fun i => (i.zero, i.size, i.bytes)) = some (some (.agg #[.int .i64 0, .int .i64 0, .int .i64 0, .int .u64 0, .int .u64 0, .int .u64 0]), 6, 48) := by kernel_rfl

set_option maxRecDepth 20000 in
set_option maxHeartbeats 2000000 in
theorem tix_in (n e1 : Nat) (ao3 : Option Addr) (b3 o3 cap3 : Nat) (picks : List Int) (w : World) (h1 : 1 ≤ n) (h2 : n ≤ 16) (hp : picks.length ≤ 1000) (he1 : e1 < 256)
    (ha3 : 0 < picks.length → ao3 = some ⟨b3, o3, none⟩) (hb3 : 0 < picks.length → b3 < w.heap.size) (hc3 : ICells w b3 o3 picks) :
    Calls Try.prog 7 #[.int .i64 (n : Int), .int .u8 (e1 : Int), .slice ao3 picks.length cap3] w fun e w' => e = .returned (.bool true) ∧ Below w.heap.size w w' := by
  obtain ⟨iC, ja, jb, jc, jd⟩ := info_parts info55
  have HA3 := Lib.hid ha3
  have HB3 := Lib.hid hb3
  have HC3 := Lib.hid hc3
  have n1 : ¬ (n : Int) < 1 := by omega
  have n2 : ¬ (16 : Int) < (n : Int) := by omega
  have n3 : ¬ (1000 : Int) < (picks.length : Int) := by omega
  have r1 : Int.tmod (e1 : Int) 32 = ((e1 % 32 : Nat) : Int) := by rw [Int.tmod_eq_emod_of_nonneg (by omega)]; omega
  obtain ⟨m, hm⟩ : ∃ m, e1 % 32 = m := ⟨_, rfl⟩
  have hm32 : m < 32 := by omega
  rw [hm] at r1
  clear ha3 hb3 hc3 hm
  go_enter Try.func7, Try.ntmps7
  go_wp2_with fail
  go_loopw [7, 27] (fun v k wr => ∃ (i : Nat), i ≤ m ∧ k = .int .i64 i ∧ Hid (wr.ownsRow w.heap.size 55 6 v (tixCs n i).length ((tixCs n i).flatMap callV6)) ∧ Hid (Below w.heap.size w wr)) (fun _ k _ => m - (intOf k).toNat)
  case atStart => exact ⟨0, Nat.zero_le _, rfl, Lib.hid (World.ownsRow_nil _ _ _ _), Lib.hid (Below.refl _ _)⟩
  case round =>
    obtain ⟨i, hi, rfl, hO, hB⟩ := hrel
    by_cases hlt : i < m
    · have i1 : (i : Int) < (m : Int) := by omega
      have i2 : decide ((i : Int) < (m : Int)) = true := decide_eq_true i1
      go_wp2_with fail
      go_loopw [7, 30] (fun v k wr => ∃ (j : Nat), j ≤ n ∧ k = .int .i64 j ∧ Hid (wr.ownsRow w.heap.size 55 6 v (tixCs n i ++ (tixRow n).take j).length ((tixCs n i ++ (tixRow n).take j).flatMap callV6)) ∧ Hid (Below w.heap.size w wr)) (fun _ k _ => n - (intOf k).toNat)
      case atStart => exact ⟨0, Nat.zero_le _, rfl, by rw [List.take_zero, List.append_nil]; exact hO, hB⟩
      case round =>
        obtain ⟨j, hj, rfl, hO, hB⟩ := hrel
        have hsz := hB.out.size
        by_cases hjl : j < n
        · have j1 : (j : Int) < (n : Int) := by omega
          have j2 : decide ((j : Int) < (n : Int)) = true := decide_eq_true j1
          have hlen : (tixCs n i ++ (tixRow n).take j).length ≤ 4294967296 := by
            rw [List.length_append, tixCs_len, List.length_take, tixRow_len]
            have : i * n ≤ 32 * 16 := Nat.mul_le_mul (by omega) h2
            omega
          have HN : Hid (tixCs n i ++ (tixRow n).take (j + 1) = (tixCs n i ++ (tixRow n).take j) ++ [⟨(j : Int), 0, 2, 0, 0, 0⟩]) := Lib.hid (by rw [take_snoc (tixRow_get hjl), List.append_assoc])
          obtain ⟨cs, hcs⟩ : ∃ cs, tixCs n i ++ (tixRow n).take j = cs := ⟨_, rfl⟩
          rw [hcs] at hO HN hlen
          clear hcs
          obtain ⟨ao0, g0, cap0, hv0, _⟩ := owns_open hO.out
          subst hv0
          have hO1 := hO.out
          go_wp2_with (at_builtin; refine append_new rfl _ _ 23 rfl w.heap.size 55 iC (.agg #[.int .i64 0, .int .i64 0, .int .i64 0, .int .u64 0, .int .u64 0, .int .u64 0]) 6 48 Try.underlying23 ja jb jc jd rfl (by decide) (by decide) _ cs.length _ rfl hO1 [.int .i64 (j : Int), .int .i64 0, .int .i64 2, .int .u64 0, .int .u64 0, .int .u64 0] rfl rfl rfl hlen hsz ?_)
          intro v1 w1 ho1 hb1 _ hnn
          have HO1 : Hid (w1.ownsRow w.heap.size 55 6 v1 (tixCs n i ++ (tixRow n).take (j + 1)).length ((tixCs n i ++ (tixRow n).take (j + 1)).flatMap callV6)) := Lib.hid (by rw [HN.out, List.length_append, List.flatMap_append]; exact ho1)
          have HB1 : Hid (Below w.heap.size w w1) := Lib.hid (hB.out.trans hb1)
          clear ho1 hb1 hnn hO1
          go_wp2_with fail
          go_roundw
          case rel => exact ⟨j + 1, by omega, by go_num, HO1, HB1⟩
          case measure => simp [intOf]; omega
        · have j1 : ¬ (j : Int) < (n : Int) := by omega
          have j2 : decide ((j : Int) < (n : Int)) = false := decide_eq_false j1
          have HO1 : Hid (wr.ownsRow w.heap.size 55 6 _ (tixCs n (i + 1)).length ((tixCs n (i + 1)).flatMap callV6)) := Lib.hid (by
            have e : (tixRow n).take j = tixRow n := List.take_of_length_le (by rw [tixRow_len]; omega)
            have h := hO.out
            rw [e] at h
            rw [tixCs_succ]; exact h)
          go_wp2_with fail
          go_roundw
          case rel => exact ⟨i + 1, by omega, by go_num, HO1, hB⟩
          case measure => simp [intOf]; omega
    · have i1 : ¬ (i : Int) < (m : Int) := by omega
      have i2 : decide ((i : Int) < (m : Int)) = false := decide_eq_false i1
      obtain rfl : i = m := by omega
      obtain ⟨cs, hcs⟩ : ∃ cs, tixCs n i = cs := ⟨_, rfl⟩
      have hmem : ∀ x ∈ cs, 0 ≤ x.t ∧ x.t < n ∧ x.o = 0 ∧ x.k = 2 := fun x hx => by rw [← hcs] at hx; exact tixCs_mem hx
      have hlen : cs.length ≤ 1000 := by
        rw [← hcs, tixCs_len]
        have : i * n ≤ 31 * 16 := Nat.mul_le_mul (by omega) h2
        omega
      have hz : ∀ x ∈ cs, x.a = 0 ∧ x.b = 0 ∧ x.c = 0 := fun x hx => by
        rw [← hcs] at hx
        unfold tixCs at hx
        rw [List.mem_flatten] at hx
        obtain ⟨l, hl, hx⟩ := hx
        rw [List.eq_of_mem_replicate hl] at hx
        unfold tixRow at hx
        obtain ⟨t, _, rfl⟩ := List.mem_map.1 hx
        exact ⟨rfl, rfl, rfl⟩
      rw [hcs] at hO
      have hsz := hB.out.size
      obtain ⟨ao1, g1, cap1, hv1, hva, hvb, hvl, _⟩ := owns_open hO.out
      subst hv1
      have hcalls : CallsAt wr g1 0 cs := by
        cases hcl : cs with
        | nil => intro i x hx; simp at hx
        | cons c0 r0 =>
          rw [← hcl]
          have hpos : 0 < cs.length := by rw [hcl]; simp
          have hO' := hO.out
          rw [hva hpos] at hO'
          exact tix_calls hO' (fun x hx => by
            have m1 := hmem x hx
            have m2 := hz x hx
            omega)
      have hcap : ao1 = none → cap1 = 0 := fun e => by
        obtain ⟨_, ⟨e2, _⟩ | ⟨g', cap', cur, e2, _⟩⟩ := hO.out
        · injection e2
        · rw [e] at e2; injection e2 with e3; cases e3
      have hplay : playErr (n : Int) cs picks.length 0 = 0 := by
        have hw0 : wrongL (n : Int) (thr cs) = 0 := by
          unfold wrongL
          rw [if_neg (by omega), if_neg (by rw [thr_len]; omega), if_neg]
          rw [List.any_eq_true]
          rintro ⟨t, ht, hd⟩
          have hd := of_decide_eq_true hd
          obtain ⟨x, hx, rfl⟩ := List.mem_map.1 ht
          have := hmem x hx
          omega
        have hw1 : wrongL (n : Int) [] = 0 := wrongL_ok (by omega) (by simp) (fun t ht => by simp at ht)
        have hck : checkL (n : Int) (thr cs) picks.length = 0 := by
          unfold checkL
          rw [hw1, hw0, if_neg (by simp), if_neg (by omega)]
        unfold playErr
        rw [hck, if_neg (by simp)]
      have HPL := Lib.hid (add_play (n : Int) ao1 g1 0 cap1 cs ao3 b3 o3 cap3 picks wr hva hvl hcalls hcap HA3.out (fun h => by have := HB3.out h; omega) (HC3.out.stays hB.out HB3.out) (by omega))
      have hE := tix_evs (fun x hx => ⟨(hmem x hx).2.2.1, (hmem x hx).2.2.2⟩) (cs := cs) picks (by omega)
      have hevs := endM_evs (M := addM) cs [0] () picks
      obtain ⟨R, hR⟩ : ∃ R, repOf (endM (M := addM) cs [0] () picks) = R := ⟨_, rfl⟩
      have hRl : R.evs.length = R.ticks := by rw [← hR]; show ((endM (M := addM) cs [0] () picks).evs.map _).length = _; rw [List.length_map]; exact hE.1
      have hRt : R.ticks ≤ 1000 := by rw [← hR]; show (endM (M := addM) cs [0] () picks).ticks ≤ _; omega
      have hRe := hE.2
      rw [hR] at hRe
      have HRE := Lib.hid hRe
      have HRR := Lib.hid hR
      have HPE := Lib.hid hplay
      have hRv : R.evs.length ≤ 1000 := by omega
      have HRL := Lib.hid hRl
      clear hRl hRt
      clear hO hcalls hcap hmem hz hplay hE hevs hR hRe hva hvb hvl hcs
      go_wp2_with fail
      refine HPL.out.mono ?_
      rintro e w2 hP
      have hG := hP.good HPE.out
      rw [HRR.out] at hG
      obtain ⟨aoE, gE, capE, gw, rfl, hao, hev, hrw, hgw, hb2⟩ := hG
      have HB2 : Hid (Below w.heap.size w w2) := Lib.hid (hB.out.trans (hb2.mono hsz))
      have HAO := Lib.hid hao
      have HEV := Lib.hid hev
      have z2 := HB2.out.size
      clear hP hb2 hev hrw hao HPL
      unfold repVs
      rw [← HRL.out]
      go_wp2_with fail
      have HRB : Hid (RowBlk 32 (w2.alloc (.cells #[.slice aoE R.evs.length capE, .slice (some ⟨gw, 0, none⟩) R.ws.length R.ws.length, .int .i64 (R.cn.r : Int), .int .i64 (R.cn.w : Int), .int .i64 (R.cn.s : Int), .int .i64 (R.cn.a : Int), .int .i64 (R.cn.f : Int), .int .i64 (R.evs.length : Int), .int .i64 (R.idle : Int)] 32)) w2.heap.size [.slice aoE R.evs.length capE, .slice (some ⟨gw, 0, none⟩) R.ws.length R.ws.length, .int .i64 (R.cn.r : Int), .int .i64 (R.cn.w : Int), .int .i64 (R.cn.s : Int), .int .i64 (R.cn.a : Int), .int .i64 (R.cn.f : Int), .int .i64 (R.evs.length : Int), .int .i64 (R.idle : Int)]) := Lib.hid (RowBlk.new _ _ _)
      have HEV2 : Hid (EvAllG wr.heap.size (w2.alloc (.cells #[.slice aoE R.evs.length capE, .slice (some ⟨gw, 0, none⟩) R.ws.length R.ws.length, .int .i64 (R.cn.r : Int), .int .i64 (R.cn.w : Int), .int .i64 (R.cn.s : Int), .int .i64 (R.cn.a : Int), .int .i64 (R.cn.f : Int), .int .i64 (R.evs.length : Int), .int .i64 (R.idle : Int)] 32)) gE R.evs) := Lib.hid (HEV.out.below ((Below.refl _ _).alloc (Nat.le_refl _) _) (Nat.le_refl _))
      have HB3' : Hid (Below w.heap.size w (w2.alloc (.cells #[.slice aoE R.evs.length capE, .slice (some ⟨gw, 0, none⟩) R.ws.length R.ws.length, .int .i64 (R.cn.r : Int), .int .i64 (R.cn.w : Int), .int .i64 (R.cn.s : Int), .int .i64 (R.cn.a : Int), .int .i64 (R.cn.f : Int), .int .i64 (R.evs.length : Int), .int .i64 (R.idle : Int)] 32))) := Lib.hid (HB2.out.alloc z2 _)
      generalize w2.alloc (.cells #[.slice aoE R.evs.length capE, .slice (some ⟨gw, 0, none⟩) R.ws.length R.ws.length, .int .i64 (R.cn.r : Int), .int .i64 (R.cn.w : Int), .int .i64 (R.cn.s : Int), .int .i64 (R.cn.a : Int), .int .i64 (R.cn.f : Int), .int .i64 (R.evs.length : Int), .int .i64 (R.idle : Int)] 32) = w3 at HRB HEV2 HB3' ⊢
      go_loopw [60] (fun k wr => ∃ (j : Nat), j ≤ R.evs.length ∧ k = .int .i64 j ∧ wr = w3) (fun k _ => R.evs.length - (intOf k).toNat)
      case atStart => exact ⟨0, Nat.zero_le _, rfl, rfl⟩
      case round =>
        obtain ⟨j, hj, rfl, rfl⟩ := hrel
        have r0 : wr.cell? ⟨w2.heap.size, 0, none⟩ = some (.slice aoE R.evs.length capE) := HRB.out.cell rfl
        by_cases hjl : j < R.evs.length
        · obtain rfl := HAO.out (by omega)
          obtain ⟨x, hx⟩ : ∃ x, R.evs[j]? = some x := ⟨R.evs[j], List.getElem?_eq_getElem hjl⟩
          obtain ⟨_, la, ka, lc, kc, hv⟩ := HEV2.out j x hx
          obtain ⟨e1, e2⟩ := HRE.out j x hx
          have v5 := hv.c5
          have v2 := hv.c2
          rw [e2] at v5
          rw [e1] at v2
          have v2' : wr.cell? ⟨gE, j * 8 + 2, none⟩ = some (.int .i64 ((j : Int) + 1)) := by rw [v2]; simp
          have j0 : (0 : Int) ≤ (j : Int) := Int.natCast_nonneg _
          have j1 : (j : Int) < (R.evs.length : Int) := by omega
          have j2 : decide ((j : Int) < (R.evs.length : Int)) = true := decide_eq_true j1
          have j3 : j ≤ 1000 := by omega
          clear hv v2 hx e1 e2
          go_wp2_with fail
          go_roundw
          case rel => exact ⟨j + 1, by omega, by go_num, (by first | trivial | rfl)⟩
          case measure => simp [intOf]; omega
        · have j1 : ¬ (j : Int) < (R.evs.length : Int) := by omega
          have j2 : decide ((j : Int) < (R.evs.length : Int)) = false := decide_eq_false j1
          go_wp2_with fail
          refine (two_any9 _).mono ?_
          rintro e w4 ⟨rfl, hb4⟩
          have HB4 : Hid (Below w.heap.size w w4) := Lib.hid (HB3'.out.trans (hb4.mono HB3'.out.size))
          clear hb4
          go_wp2_with fail
          go_ret
          exact ⟨rfl, HB4.out⟩
theorem tickets_all (n : Int) (e1 : Nat) (ao3 : Option Addr) (b3 o3 cap3 : Nat) (picks : List Int) (w : World) (he1 : e1 < 256)
    (ha3 : 0 < picks.length → ao3 = some ⟨b3, o3, none⟩) (hb3 : 0 < picks.length → b3 < w.heap.size) (hc3 : ICells w b3 o3 picks) (hnp : picks.length ≤ 9223372036854775807) :
    Calls Try.prog 7 #[.int .i64 n, .int .u8 (e1 : Int), .slice ao3 picks.length cap3] w fun e w' => e = .returned (.bool true) ∧ Below w.heap.size w w' := by
  by_cases h : n < 1 ∨ 16 < n ∨ 1000 < picks.length
  · exact tix_out n e1 ao3 picks.length cap3 w hnp h
  · obtain ⟨k, rfl⟩ : ∃ k : Nat, n = (k : Int) := ⟨n.toNat, by omega⟩
    exact tix_in k e1 ao3 b3 o3 cap3 picks w (by omega) (by omega) (by omega) he1 ha3 hb3 hc3
end Go.Proofs.Ytnjpkmenahdhmaa
