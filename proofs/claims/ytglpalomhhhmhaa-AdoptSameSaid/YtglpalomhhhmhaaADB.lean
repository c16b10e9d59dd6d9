/- Walk of the law AdoptSame. -/
import Derived.Test.YtglpalomhhhmhaaAD9
import Derived.Test.YtglpalomhhhmhaaZE
import Derived.Test.YtglpalomhhhmhaaK3
namespace Go.Proofs.Ytglpalomhhhmhaa
open Go.ChangeShapes Go.WideShapes Go.ChangeAt Go.RowKit
set_option linter.unusedVariables false
set_option linter.unusedSimpArgs false
def callV6 (x : CallV) : List Value := [.int .i64 x.t, .int .i64 x.o, .int .i64 x.k, .int .u64 (x.a : Int), .int .u64 (x.b : Int), .int .u64 (x.c : Int)]
theorem callV6_get : ∀ (l : List CallV) (i k : Nat) (y : CallV), l[i]? = some y → k < 6 → (l.flatMap callV6)[i * 6 + k]? = (callV6 y)[k]?
  | [], _, _, _, h, _ => by simp at h
  | a :: r, 0, k, y, h, hk => by
    simp at h
    subst h
    rw [List.flatMap_cons, List.getElem?_append_left (by simp [callV6]; omega)]
    simp
  | a :: r, i + 1, k, y, h, hk => by
    have := callV6_get r i k y (by simpa using h) hk
    rw [List.flatMap_cons, List.getElem?_append_right (by simp [callV6]; omega), ← this]
    congr 1
    simp [callV6]
    omega
theorem same_calls {w : World} {B g cap : Nat} {cs : List CallV} {nn : Nat} (ho : w.ownsRow B 43 6 (.slice (some ⟨g, 0, none⟩) nn cap) nn (cs.flatMap callV6)) (hb : ∀ x ∈ cs, (-9223372036854775808 ≤ x.t ∧ x.t ≤ 9223372036854775807) ∧ (-9223372036854775808 ≤ x.o ∧ x.o ≤ 9223372036854775807) ∧ (-9223372036854775808 ≤ x.k ∧ x.k ≤ 9223372036854775807) ∧ x.a < 18446744073709551616 ∧ x.b < 18446744073709551616 ∧ x.c < 18446744073709551616) : CallsAt w g 0 cs := fun i x hx => by
  have c : ∀ k u, k < 6 → (callV6 x)[k]? = some u → w.cell? ⟨g, i * 6 + k, none⟩ = some u := fun k u hk hu => by
    have h := ho.cells (g := g) rfl (i * 6 + k) u ((callV6_get cs i k x hx hk).trans hu)
    generalize i * 6 + k = m at h ⊢
    by_cases h0 : m = 0
    · subst h0; simpa [Addr.add] using h
    · simpa [Addr.add, h0] using h
  have e : ∀ k, (⟨g, 0 + i * 6 + k, none⟩ : Addr) = ⟨g, i * 6 + k, none⟩ := fun k => by rw [Nat.zero_add]
  exact ⟨by have := c 0 _ (by omega) rfl; simpa using this, by rw [e]; exact c 1 _ (by omega) rfl, by rw [e]; exact c 2 _ (by omega) rfl, by rw [e]; exact c 3 _ (by omega) rfl, by rw [e]; exact c 4 _ (by omega) rfl, by rw [e]; exact c 5 _ (by omega) rfl, hb x (List.mem_of_getElem? hx)⟩
theorem info55 : (Try.prog.info? 43).map (fun i => (i.zero, i.size, i.bytes)) = some (some (.agg #[.int .i64 0, .int .i64 0, .int .i64 0, .int .u64 0, .int .u64 0, .int .u64 0]), 6, 48) := by kernel_rfl

set_option maxRecDepth 20000 in
theorem same_out (n : Int) (e1 : Int) (ao3 : Option Addr) (np cap3 : Nat) (w : World) (hnp : np ≤ 9223372036854775807) (h : n < 1 ∨ 16 < n ∨ 2000 < np) :
    Calls Try.prog 5 #[.int .i64 n, .int .u32 e1, .slice ao3 np cap3] w fun e w' => e = .returned (.bool true) ∧ Below w.heap.size w w' := by
  by_cases h1 : n < 1
  · clear h
    go_enter Try.func5, Try.ntmps5
    go_wp2_with fail
    refine (late_any _).mono ?_
    rintro e w1 ⟨rfl, hb⟩
    have HB := Lib.hid hb
    clear hb
    go_wp2_with fail
    go_ret
    exact ⟨rfl, HB.out⟩
  · by_cases h2 : 16 < n
    · clear h
      go_enter Try.func5, Try.ntmps5
      go_wp2_with fail
      refine (late_any _).mono ?_
      rintro e w1 ⟨rfl, hb⟩
      have HB := Lib.hid hb
      clear hb
      go_wp2_with fail
      go_ret
      exact ⟨rfl, HB.out⟩
    · have h3 : 2000 < np := by omega
      have h4 : (2000 : Int) < (np : Int) := by omega
      clear h
      go_enter Try.func5, Try.ntmps5
      go_wp2_with fail
      refine (late_any _).mono ?_
      rintro e w1 ⟨rfl, hb⟩
      have HB := Lib.hid hb
      clear hb
      go_wp2_with fail
      go_ret
      exact ⟨rfl, HB.out⟩
def sameRow (n a : Nat) : List CallV := (List.range n).map fun t : Nat => ⟨(t : Int), 0, 0, a, 0, 0⟩
theorem sameRow_len (n a : Nat) : (sameRow n a).length = n := by unfold sameRow; simp
theorem sameRow_get {n a j : Nat} (h : j < n) : (sameRow n a)[j]? = some ⟨(j : Int), 0, 0, a, 0, 0⟩ := by unfold sameRow; rw [List.getElem?_map, List.getElem?_range h]; rfl
theorem sameRow_is {n a : Nat} (i : Nat) (x : CallV) (h : (sameRow n a)[i]? = some x) : x.t = (i : Int) ∧ x.o = 0 ∧ x.k = 0 ∧ x.a = a := by
  have hi := (List.getElem?_eq_some_iff.1 h).1
  rw [sameRow_len] at hi
  rw [sameRow_get hi] at h
  cases h
  exact ⟨rfl, rfl, rfl, rfl⟩
theorem sameRow_mem {n a : Nat} {x : CallV} (h : x ∈ sameRow n a) : 0 ≤ x.t ∧ x.t < n ∧ x.o = 0 ∧ x.k = 0 ∧ x.a = a ∧ x.b = 0 ∧ x.c = 0 := by
  unfold sameRow at h
  obtain ⟨t, ht, rfl⟩ := List.mem_map.1 h
  have := List.mem_range.1 ht
  exact ⟨by show (0 : Int) ≤ (t : Int); omega, by show (t : Int) < n; omega, rfl, rfl, rfl, rfl, rfl⟩
set_option maxRecDepth 20000 in
set_option maxHeartbeats 4000000 in
theorem same_in (n e1 : Nat) (ao3 : Option Addr) (b3 o3 cap3 : Nat) (picks : List Int) (w : World) (h1 : 1 ≤ n) (h2 : n ≤ 16) (hp : picks.length ≤ 2000) (he1 : e1 < 4294967296)
    (ha3 : 0 < picks.length → ao3 = some ⟨b3, o3, none⟩) (hb3 : 0 < picks.length → b3 < w.heap.size) (hc3 : ICells w b3 o3 picks) :
    Calls Try.prog 5 #[.int .i64 (n : Int), .int .u32 (e1 : Int), .slice ao3 picks.length cap3] w fun e w' => e = .returned (.bool true) ∧ Below w.heap.size w w' := by
  obtain ⟨iC, ja, jb, jc, jd⟩ := info_parts info55
  have HA3 := Lib.hid ha3
  have HB3 := Lib.hid hb3
  have HC3 := Lib.hid hc3
  have n1 : ¬ (n : Int) < 1 := by omega
  have n2 : ¬ (16 : Int) < (n : Int) := by omega
  have n3 : ¬ (2000 : Int) < (picks.length : Int) := by omega
  obtain ⟨a, ha⟩ : ∃ a, e1 / 2 = a := ⟨_, rfl⟩
  have ha31 : a < 2147483648 := by omega
  have r1 : Int.tdiv (e1 : Int) 2 = (a : Int) := by rw [Int.tdiv_eq_ediv_of_nonneg (by omega)]; omega
  have r2 : (e1 : Int) / 2 = (a : Int) := by omega
  have r3 : IntKind.u32.wrap (a : Int) = (a : Int) := by unfold IntKind.wrap; simp [IntKind.bits, IntKind.signed]; omega
  have r4 : IntKind.u64.wrap (a : Int) = (a : Int) := by unfold IntKind.wrap; simp [IntKind.bits, IntKind.signed]; omega
  have r5 : IntKind.u64.wrap (2 * (a : Int)) = 2 * (a : Int) := by unfold IntKind.wrap; simp [IntKind.bits, IntKind.signed]; omega
  have r6 : IntKind.u64.wrap (2 * (a : Int) + 1) = 2 * (a : Int) + 1 := by unfold IntKind.wrap; simp [IntKind.bits, IntKind.signed]; omega
  clear ha3 hb3 hc3 ha
  go_enter Try.func5, Try.ntmps5
  go_wp2_with fail
  go_loopw [7, 25] (fun v k wr => ∃ (j : Nat), j ≤ n ∧ k = .int .i64 j ∧ Hid (wr.ownsRow w.heap.size 43 6 v ((sameRow n a).take j).length (((sameRow n a).take j).flatMap callV6)) ∧ Hid (Below w.heap.size w wr)) (fun _ k _ => n - (intOf k).toNat)
  case atStart => exact ⟨0, Nat.zero_le _, rfl, Lib.hid (World.ownsRow_nil _ _ _ _), Lib.hid (Below.refl _ _)⟩
  case round =>
    obtain ⟨j, hj, rfl, hO, hB⟩ := hrel
    have hsz := hB.out.size
    by_cases hjl : j < n
    · have j1 : (j : Int) < (n : Int) := by omega
      have j2 : decide ((j : Int) < (n : Int)) = true := decide_eq_true j1
      have hlen : ((sameRow n a).take j).length ≤ 4294967296 := by rw [List.length_take, sameRow_len]; omega
      have HN : Hid ((sameRow n a).take (j + 1) = (sameRow n a).take j ++ [⟨(j : Int), 0, 0, a, 0, 0⟩]) := Lib.hid (take_snoc (sameRow_get hjl))
      obtain ⟨cs, hcs⟩ : ∃ cs, (sameRow n a).take j = cs := ⟨_, rfl⟩
      rw [hcs] at hO HN hlen
      clear hcs
      obtain ⟨ao0, g0, cap0, hv0, _⟩ := owns_open hO.out
      subst hv0
      have hO1 := hO.out
      go_wp2_with (at_builtin; refine append_new rfl _ _ 22 rfl w.heap.size 43 iC (.agg #[.int .i64 0, .int .i64 0, .int .i64 0, .int .u64 0, .int .u64 0, .int .u64 0]) 6 48 Try.underlying22 ja jb jc jd rfl (by decide) (by decide) _ cs.length _ rfl hO1 [.int .i64 (j : Int), .int .i64 0, .int .i64 0, .int .u64 (a : Int), .int .u64 0, .int .u64 0] rfl rfl rfl hlen hsz ?_)
      intro v1 w1 ho1 hb1 _ hnn
      have HO1 : Hid (w1.ownsRow w.heap.size 43 6 v1 ((sameRow n a).take (j + 1)).length (((sameRow n a).take (j + 1)).flatMap callV6)) := Lib.hid (by rw [HN.out, List.length_append, List.flatMap_append]; exact ho1)
      have HB1 : Hid (Below w.heap.size w w1) := Lib.hid (hB.out.trans hb1)
      clear ho1 hb1 hnn hO1
      go_wp2_with fail
      go_roundw
      case rel => exact ⟨j + 1, by omega, by go_num, HO1, HB1⟩
      case measure => simp [intOf]; omega
    · have i1 : ¬ (j : Int) < (n : Int) := by omega
      have i2 : decide ((j : Int) < (n : Int)) = false := decide_eq_false i1
      have htk : (sameRow n a).take j = sameRow n a := List.take_of_length_le (by rw [sameRow_len]; omega)
      rw [htk] at hO
      obtain ⟨cs, hcs⟩ : ∃ cs, sameRow n a = cs := ⟨_, rfl⟩
      have hmem : ∀ x ∈ cs, 0 ≤ x.t ∧ x.t < n ∧ x.o = 0 ∧ x.k = 0 ∧ x.a = a ∧ x.b = 0 ∧ x.c = 0 := fun x hx => by rw [← hcs] at hx; exact sameRow_mem hx
      have hlen : cs.length = n := by rw [← hcs, sameRow_len]
      rw [hcs] at hO
      obtain ⟨ao1, g1, cap1, hv1, hva, hvb, hvl, _⟩ := owns_open hO.out
      subst hv1
      have hcalls : CallsAt wr g1 0 cs := by
        have hpos : 0 < cs.length := by omega
        have hO' := hO.out
        rw [hva hpos] at hO'
        exact same_calls hO' (fun x hx => by
          have m1 := hmem x hx
          omega)
      have hcap : ao1 = none → cap1 = 0 := fun e => by
        obtain ⟨_, ⟨e2, _⟩ | ⟨g', cap', cur, e2, _⟩⟩ := hO.out
        · injection e2
        · rw [e] at e2; injection e2 with e3; cases e3
      have hplay : playErr (n : Int) cs picks.length 0 = 0 := by
        have hw0 : wrongL (n : Int) (thr cs) = 0 := by
          unfold wrongL
          rw [if_neg (by omega), if_neg (by rw [thr_len]; omega), if_neg]
          rw [List.any_eq_true]
          rintro ⟨t, ht, hd⟩
          have hd := of_decide_eq_true hd
          obtain ⟨x, hx, rfl⟩ := List.mem_map.1 ht
          have := hmem x hx
          omega
        have hw1 : wrongL (n : Int) [] = 0 := wrongL_ok (by omega) (by simp) (fun t ht => by simp at ht)
        have hck : checkL (n : Int) (thr cs) picks.length = 0 := by
          unfold checkL
          rw [hw1, hw0, if_neg (by simp), if_neg (by omega)]
        unfold playErr
        rw [hck, if_neg (by simp)]
      have hth : ∀ x ∈ cs, 0 ≤ x.t ∧ x.t < n := fun x hx => by have := hmem x hx; omega
      have HPL := Lib.hid (ad_play (n : Int) ao1 g1 0 cap1 cs ao3 b3 o3 cap3 picks wr hva hvl hcalls hcap HA3.out (fun h => by have := HB3.out h; omega) (HC3.out.stays hB.out HB3.out) (by omega))
      obtain ⟨hF, _⟩ := adT_end (n := n) (cs := cs) h1 hth picks
      have hRI := rowI_end (M := adM n) cs (List.replicate (2 * n) 0) ad0 picks
      have hevs := endM_evs (M := adM n) cs (List.replicate (2 * n) 0) ad0 picks
      have hS := ad_same h1 ha31 (fun i x hx => by rw [← hcs] at hx; exact sameRow_is i x hx) hF hRI
      obtain ⟨R, hR⟩ : ∃ R, repOf (endM (M := adM (n : Int).toNat) cs (List.replicate (2 * (n : Int).toNat) 0) ad0 picks) = R := ⟨_, rfl⟩
      have hRv : R.evs.length ≤ 2000 := by rw [← hR]; show ((endM (M := adM n) cs (List.replicate (2 * n) 0) ad0 picks).evs.map _).length ≤ _; rw [List.length_map]; omega
      have hRe : ∀ x ∈ R.evs, x.resp ≠ 0 → x.ans.val = 2 * a + 1 := by rw [← hR]; exact hS
      have HRE := Lib.hid hRe
      have HRR := Lib.hid hR
      have HPE := Lib.hid hplay
      clear hO hcalls hcap hmem hplay hF hRI hevs hS hR hRe hva hvb hvl hcs htk hth hlen
      go_wp2_with fail
      refine HPL.out.mono ?_
      rintro e w2 hP
      have hG := hP.good HPE.out
      rw [HRR.out] at hG
      obtain ⟨aoE, gE, capE, gw, rfl, hao, hev, hrw, hgw, hb2⟩ := hG
      have HB2 : Hid (Below w.heap.size w w2) := Lib.hid (hB.out.trans (hb2.mono hsz))
      have HAO := Lib.hid hao
      have z2 := HB2.out.size
      have HRB : Hid (RowBlk 31 (w2.alloc (.cells (repVs (.slice aoE R.evs.length capE) gw R).toArray 31)) w2.heap.size (repVs (.slice aoE R.evs.length capE) gw R)) := Lib.hid (RowBlk.new _ _ _)
      have HEV2 : Hid (EvAllG wr.heap.size (w2.alloc (.cells (repVs (.slice aoE R.evs.length capE) gw R).toArray 31)) gE R.evs) := Lib.hid (hev.below ((Below.refl _ _).alloc (Nat.le_refl _) _) (Nat.le_refl _))
      have HB3' : Hid (Below w.heap.size w (w2.alloc (.cells (repVs (.slice aoE R.evs.length capE) gw R).toArray 31))) := Lib.hid (HB2.out.alloc z2 _)
      clear hP hb2 hev hrw hao HPL
      unfold repVs
      rw [show (repVs (.slice aoE R.evs.length capE) gw R).toArray = #[.slice aoE R.evs.length capE, .slice (some ⟨gw, 0, none⟩) R.ws.length R.ws.length, .int .i64 (R.cn.r : Int), .int .i64 (R.cn.w : Int), .int .i64 (R.cn.s : Int), .int .i64 (R.cn.a : Int), .int .i64 (R.cn.f : Int), .int .i64 (R.ticks : Int), .int .i64 (R.idle : Int)] from rfl] at HRB HEV2 HB3'
      go_wp2_with fail
      generalize w2.alloc (.cells #[.slice aoE R.evs.length capE, .slice (some ⟨gw, 0, none⟩) R.ws.length R.ws.length, .int .i64 (R.cn.r : Int), .int .i64 (R.cn.w : Int), .int .i64 (R.cn.s : Int), .int .i64 (R.cn.a : Int), .int .i64 (R.cn.f : Int), .int .i64 (R.ticks : Int), .int .i64 (R.idle : Int)] 31) = w3 at HRB HEV2 HB3' ⊢
      have ra : w3.cell? ⟨w2.heap.size, 0, none⟩ = some (.slice aoE R.evs.length capE) := HRB.out.cell rfl
      go_wp2_with fail
      clear ra
      go_loopw [49] (fun k wr => ∃ (j : Nat), j ≤ R.evs.length ∧ k = .int .i64 j ∧ wr = w3) (fun k _ => R.evs.length - (intOf k).toNat)
      case atStart => exact ⟨0, Nat.zero_le _, rfl, rfl⟩
      case round =>
        obtain ⟨j, hj, rfl, rfl⟩ := hrel
        have r0 : wr.cell? ⟨w2.heap.size, 0, none⟩ = some (.slice aoE R.evs.length capE) := HRB.out.cell rfl
        by_cases hjl : j < R.evs.length
        · obtain rfl := HAO.out (by omega)
          obtain ⟨x, hx⟩ : ∃ x, R.evs[j]? = some x := ⟨R.evs[j], List.getElem?_eq_getElem hjl⟩
          obtain ⟨_, la, ka, lc, kc, hv⟩ := HEV2.out j x hx
          have hxe := HRE.out x (List.mem_of_getElem? hx)
          have v5 := hv.c5
          have v2 := hv.c2
          have j0 : (0 : Int) ≤ (j : Int) := Int.natCast_nonneg _
          have j1 : (j : Int) < (R.evs.length : Int) := by omega
          have j2 : decide ((j : Int) < (R.evs.length : Int)) = true := decide_eq_true j1
          have j3 : j ≤ 2000 := by omega
          clear hv hx
          by_cases q0 : x.resp = 0
          · rw [q0] at v2
            have v2' : wr.cell? ⟨gE, j * 8 + 2, none⟩ = some (.int .i64 0) := v2
            clear v2 hxe q0
            go_wp2_with fail
            go_roundw
            case rel => exact ⟨j + 1, by omega, by go_num, (by first | trivial | rfl)⟩
            case measure => simp [intOf]; omega
          · have hval := hxe q0
            rw [hval] at v5
            have v5' : wr.cell? ⟨gE, j * 8 + 5, none⟩ = some (.int .u64 (2 * (a : Int) + 1)) := v5
            have q1 : ¬ (x.resp : Int) = 0 := by omega
            have q2 : ((x.resp : Int) == 0) = false := by rw [beq_eq_false_iff_ne]; exact q1
            have q3 : ((x.resp : Int) != 0) = true := by rw [bne_iff_ne]; exact q1
            clear v5 hxe hval q0
            go_wp2_with fail
            go_roundw
            case rel => exact ⟨j + 1, by omega, by go_num, (by first | trivial | rfl)⟩
            case measure => simp [intOf]; omega
        · have j1 : ¬ (j : Int) < (R.evs.length : Int) := by omega
          have j2 : decide ((j : Int) < (R.evs.length : Int)) = false := decide_eq_false j1
          go_wp2_with fail
          refine (late_any _).mono ?_
          rintro e w4 ⟨rfl, hb4⟩
          have HB4 : Hid (Below w.heap.size w w4) := Lib.hid (HB3'.out.trans (hb4.mono HB3'.out.size))
          clear hb4
          go_wp2_with fail
          go_ret
          exact ⟨rfl, HB4.out⟩
theorem same_all (n : Int) (e1 : Nat) (ao3 : Option Addr) (b3 o3 cap3 : Nat) (picks : List Int) (w : World) (he1 : e1 < 4294967296)
    (ha3 : 0 < picks.length → ao3 = some ⟨b3, o3, none⟩) (hb3 : 0 < picks.length → b3 < w.heap.size) (hc3 : ICells w b3 o3 picks) (hnp : picks.length ≤ 9223372036854775807) :
    Calls Try.prog 5 #[.int .i64 n, .int .u32 (e1 : Int), .slice ao3 picks.length cap3] w fun e w' => e = .returned (.bool true) ∧ Below w.heap.size w w' := by
  by_cases h : n < 1 ∨ 16 < n ∨ 2000 < picks.length
  · exact same_out n e1 ao3 picks.length cap3 w hnp h
  · obtain ⟨k, rfl⟩ : ∃ k : Nat, n = (k : Int) := ⟨n.toNat, by omega⟩
    exact same_in k e1 ao3 b3 o3 cap3 picks w (by omega) (by omega) (by omega) he1 ha3 hb3 hc3
end Go.Proofs.Ytglpalomhhhmhaa
