/- history: Width, walked: the first loop, the sorts, the sweep. -/
import Derived.Test.YtigcmcmapbomoaaHF
namespace Go.Proofs.Ytigcmcmapbomoaa
open Go.RowKit
set_option linter.unusedVariables false
set_option linter.unusedSimpArgs false

/-- how far the sweep has come ahead of its round k -/
def swept (B E : List Int) : Nat → Nat
  | 0 => 0
  | k + 1 => lower E (B[k]?.getD 0)
theorem swept_le {B E : List Int} (hB : B.Pairwise (· ≤ ·)) {k : Nat} {x : Int} (hx : B[k]? = some x) : swept B E k ≤ lower E x := by
  cases k with
  | zero => exact Nat.zero_le _
  | succ k =>
    obtain ⟨y, hy⟩ : ∃ y, B[k]? = some y := ⟨_, List.getElem?_eq_getElem (by have := (List.getElem?_eq_some_iff.1 hx).1; omega)⟩
    show lower E (B[k]?.getD 0) ≤ _
    rw [hy, Option.getD_some]
    refine lower_mono ?_
    obtain ⟨h1, h2⟩ := List.getElem?_eq_some_iff.1 hx
    obtain ⟨h3, h4⟩ := List.getElem?_eq_some_iff.1 hy
    rw [← h2, ← h4]
    exact List.pairwise_iff_getElem.1 hB k (k + 1) h3 h1 (by omega)

theorem row_below {w w' : World} {B : Nat} {e : TypeId} {s n : Nat} {v : Value} {xs : List Value} (h : w.ownsRow B e s v n xs) (hb : Below w.heap.size w w') : w'.ownsRow B e s v n xs :=
  h.kept (below_grown hb) (by cases hv : v.ownBlock with | none => exact .inl rfl | some g => right; intro h; cases h)

set_option maxRecDepth 100000 in
set_option maxHeartbeats 2000000 in
theorem width_ok (ao : Option Addr) (b o c : Nat) (l : List EvL) (w : World) (hl : l.length ≤ 100) (ha : 0 < l.length → ao = some ⟨b, o, none⟩) (hb : 0 < l.length → b < w.heap.size) (hc : EvsAt w b o l) :
    Calls Try.prog 14 #[.slice ao l.length c] w fun e w' => e = .returned (.int .i64 (wdt l)) ∧ Below w.heap.size w w' := by
  have HA := Lib.hid ha
  have HB := Lib.hid hb
  have HC := Lib.hid hc
  have HD : Hid (∀ (x : EvL) (w : World), Calls Try.prog 18 #[x.v] w fun e w' => e = .returned (.bool (done x)) ∧ Below w.heap.size w w') := Lib.hid done_ok
  clear ha hb hc
  go_enter Try.func14, Try.ntmps14
  go_wp2
  go_loopw [3, 4, 13] (fun v u i wr => ∃ (j : Nat) (ao1 ao2 : Option Addr) (n1 n2 c1 c2 : Nat), j ≤ l.length ∧ i = .int .i64 j ∧ v = .slice ao1 n1 c1 ∧ u = .slice ao2 n2 c2 ∧ Hid (n1 = (bgs (l.take j)).length ∧ n2 = (ens (l.take j)).length ∧ wr.ownsRow w.heap.size 3 1 (.slice ao1 n1 c1) (bgs (l.take j)).length (zvs (bgs (l.take j))) ∧
      wr.ownsRow w.heap.size 3 1 (.slice ao2 n2 c2) (ens (l.take j)).length (zvs (ens (l.take j))) ∧ Apart (.slice ao1 n1 c1) (.slice ao2 n2 c2)) ∧ Below w.heap.size w wr) (fun _ _ i _ => l.length - (intOf i).toNat)
  case atStart => exact ⟨0, none, none, 0, 0, 0, 0, Nat.zero_le _, rfl, rfl, rfl, Lib.hid ⟨rfl, rfl, World.ownsRow_nil _ _ _ _, World.ownsRow_nil _ _ _ _, .inl rfl⟩, Below.refl _ _⟩
  case round =>
    obtain ⟨j, ao1, ao2, n1, n2, c1, c2, hj, rfl, rfl, rfl, HR, hbw⟩ := hrel
    by_cases hlt : j < l.length
    · obtain rfl := HA.out (by omega)
      have hbb := HB.out (by omega)
      obtain ⟨x, hx⟩ : ∃ x, l[j]? = some x := ⟨l[j], List.getElem?_eq_getElem hlt⟩
      obtain ⟨d0, d1, d2, d3, d4, d5, d6, d7⟩ := (HC.out.stays hbw HB.out).cells hx
      have HX := Lib.hid hx
      clear hx
      have hD := Lib.hid (HD.out x)
      cases hdn : done x with
      | true =>
        rw [hdn] at hD
        by_cases hle : x.iv ≤ x.rs
        · have e1 : begOf x = [x.iv] := by unfold begOf; rw [if_pos (.inr hle)]
          have e2 : endOf x = [x.rs] := by unfold endOf; rw [if_pos ⟨hdn, hle⟩]
          have E1 : Hid (bgs (l.take (j + 1)) = bgs (l.take j) ++ [x.iv]) := Lib.hid (by rw [bgs_snoc HX.out, e1])
          have E2 : Hid (ens (l.take (j + 1)) = ens (l.take j) ++ [x.rs]) := Lib.hid (by rw [ens_snoc HX.out, e2])
          have dle : decide (x.iv ≤ x.rs) = true := decide_eq_true hle
          clear e1 e2 hdn
          go_wp2_with (first | (go_at_call 18; refine (hD.out _).mono ?_; rintro e w1 ⟨rfl, hb1⟩; (have g1 : w1.cell? ⟨wr.heap.size, 1, none⟩ = some (.int .i64 x.iv) := (hb1.cell (by simp)).trans (World.cell?_alloc_at _ _ _ _ rfl)); (have g2 : w1.cell? ⟨wr.heap.size, 2, none⟩ = some (.int .i64 x.rs) := (hb1.cell (by simp)).trans (World.cell?_alloc_at _ _ _ _ rfl)); (have hb2 : Below wr.heap.size wr w1 := ((Below.refl _ _).alloc (Nat.le_refl _) _).trans (hb1.mono (by simp))); (obtain ⟨-, -, r1, r2, hap⟩ := HR.out); (have hne : Hid (Value.ownBlock (.slice ao1 n1 c1) ≠ some wr.heap.size ∧ Value.ownBlock (.slice ao2 n2 c2) ≠ some wr.heap.size) := Lib.hid ⟨fun e => Nat.lt_irrefl _ (r1.lt _ e).2, fun e => Nat.lt_irrefl _ (r2.lt _ e).2⟩); (have hws := World.block_lt_of_cell? w1 _ g1); (have R1 := Lib.hid (row_below r1 hb2)); (have R2 := Lib.hid (row_below r2 hb2)); clear r1 r2 hb1) | (at_builtin; refine append_apart (v := .slice ao1 n1 c1) (u := .slice ao2 n2 c2) rfl _ _ 35 rfl w.heap.size 3 Try.underlying35 infoInt _ (bgs (l.take j)) rfl R1.out _ (ens (l.take j)) R2.out hap x.iv rfl (by have := bgs_len l j; omega) (Nat.le_trans hbw.size hb2.size) ?_; intro g1' cap1 w3 q1 q2 q3 hb3 hfar; (have k2 : w3.cell? ⟨wr.heap.size, 2, none⟩ = some (.int .i64 x.rs) := (hfar _ hws hne.out.1).trans g2); clear hfar; replace q1 := Lib.hid q1; replace q2 := Lib.hid q2; replace q3 := Lib.hid q3; clear R1 R2 hap) | (at_builtin; refine append_apart (v := .slice ao2 n2 c2) (u := .slice (some ⟨g1', 0, none⟩) ((bgs (l.take j)).length + 1) cap1) rfl _ _ 35 rfl w.heap.size 3 Try.underlying35 infoInt _ (ens (l.take j)) rfl q2.out _ _ q1.out q3.out.symm' x.rs rfl (by have := ens_len l j; omega) (Nat.le_trans (Nat.le_trans hbw.size hb2.size) hb3.size) ?_; intro g2' cap2 w4 q5 q6 q7 hb4 _))
          have hb5 : Below w.heap.size w w4 := hbw.trans ((hb2.mono hbw.size).trans (hb3.trans hb4))
          go_roundw
          case rel => exact ⟨j + 1, _, _, _, _, _, _, by omega, by go_num, rfl, rfl, Lib.hid ⟨by rw [E1.out]; simp, by rw [E2.out]; simp, by rw [E1.out, List.length_append]; exact q6, by rw [E2.out, List.length_append]; exact q5, q7.symm'⟩, hb5⟩
          case measure => simp [intOf]; omega
        · have e1 : begOf x = [] := by unfold begOf; rw [if_neg (by rw [hdn]; exact fun h => h.elim (fun h => by cases h) hle)]
          have e2 : endOf x = [] := by unfold endOf; rw [if_neg (fun h => hle h.2)]
          have E1 : Hid (bgs (l.take (j + 1)) = bgs (l.take j)) := Lib.hid (by rw [bgs_snoc HX.out, e1, List.append_nil])
          have E2 : Hid (ens (l.take (j + 1)) = ens (l.take j)) := Lib.hid (by rw [ens_snoc HX.out, e2, List.append_nil])
          have dle : decide (x.iv ≤ x.rs) = false := decide_eq_false hle
          clear e1 e2 hdn
          go_wp2_with (go_at_call 18; refine (hD.out _).mono ?_; rintro e w1 ⟨rfl, hb1⟩; (have g1 : w1.cell? ⟨wr.heap.size, 1, none⟩ = some (.int .i64 x.iv) := (hb1.cell (by simp)).trans (World.cell?_alloc_at _ _ _ _ rfl)); (have g2 : w1.cell? ⟨wr.heap.size, 2, none⟩ = some (.int .i64 x.rs) := (hb1.cell (by simp)).trans (World.cell?_alloc_at _ _ _ _ rfl)); (have hb2 : Below wr.heap.size wr w1 := ((Below.refl _ _).alloc (Nat.le_refl _) _).trans (hb1.mono (by simp))); (obtain ⟨-, -, r1, r2, hap⟩ := HR.out); (have hne : Hid (Value.ownBlock (.slice ao1 n1 c1) ≠ some wr.heap.size ∧ Value.ownBlock (.slice ao2 n2 c2) ≠ some wr.heap.size) := Lib.hid ⟨fun e => Nat.lt_irrefl _ (r1.lt _ e).2, fun e => Nat.lt_irrefl _ (r2.lt _ e).2⟩); (have hws := World.block_lt_of_cell? w1 _ g1); (have R1 := Lib.hid (row_below r1 hb2)); (have R2 := Lib.hid (row_below r2 hb2)); clear r1 r2 hb1)
          have hb5 : Below w.heap.size w w1 := hbw.trans (hb2.mono hbw.size)
          go_roundw
          case rel => exact ⟨j + 1, _, _, _, _, _, _, by omega, by go_num, rfl, rfl, Lib.hid ⟨by rw [E1.out]; exact HR.out.1, by rw [E2.out]; exact HR.out.2.1, by rw [E1.out]; exact R1.out, by rw [E2.out]; exact R2.out, hap⟩, hb5⟩
          case measure => simp [intOf]; omega
      | false =>
        rw [hdn] at hD
        have e1 : begOf x = [x.iv] := by unfold begOf; rw [if_pos (.inl hdn)]
        have e2 : endOf x = [] := by unfold endOf; rw [if_neg (by rw [hdn]; exact fun h => by cases h.1)]
        have E1 : Hid (bgs (l.take (j + 1)) = bgs (l.take j) ++ [x.iv]) := Lib.hid (by rw [bgs_snoc HX.out, e1])
        have E2 : Hid (ens (l.take (j + 1)) = ens (l.take j)) := Lib.hid (by rw [ens_snoc HX.out, e2, List.append_nil])
        clear e1 e2 hdn
        go_wp2_with (first | (go_at_call 18; refine (hD.out _).mono ?_; rintro e w1 ⟨rfl, hb1⟩; (have g1 : w1.cell? ⟨wr.heap.size, 1, none⟩ = some (.int .i64 x.iv) := (hb1.cell (by simp)).trans (World.cell?_alloc_at _ _ _ _ rfl)); (have g2 : w1.cell? ⟨wr.heap.size, 2, none⟩ = some (.int .i64 x.rs) := (hb1.cell (by simp)).trans (World.cell?_alloc_at _ _ _ _ rfl)); (have hb2 : Below wr.heap.size wr w1 := ((Below.refl _ _).alloc (Nat.le_refl _) _).trans (hb1.mono (by simp))); (obtain ⟨-, -, r1, r2, hap⟩ := HR.out); (have hne : Hid (Value.ownBlock (.slice ao1 n1 c1) ≠ some wr.heap.size ∧ Value.ownBlock (.slice ao2 n2 c2) ≠ some wr.heap.size) := Lib.hid ⟨fun e => Nat.lt_irrefl _ (r1.lt _ e).2, fun e => Nat.lt_irrefl _ (r2.lt _ e).2⟩); (have hws := World.block_lt_of_cell? w1 _ g1); (have R1 := Lib.hid (row_below r1 hb2)); (have R2 := Lib.hid (row_below r2 hb2)); clear r1 r2 hb1) | (at_builtin; refine append_apart (v := .slice ao1 n1 c1) (u := .slice ao2 n2 c2) rfl _ _ 35 rfl w.heap.size 3 Try.underlying35 infoInt _ (bgs (l.take j)) rfl R1.out _ (ens (l.take j)) R2.out hap x.iv rfl (by have := bgs_len l j; omega) (Nat.le_trans hbw.size hb2.size) ?_; intro g1' cap1 w3 q1 q2 q3 hb3 hfar; (have k2 : w3.cell? ⟨wr.heap.size, 2, none⟩ = some (.int .i64 x.rs) := (hfar _ hws hne.out.1).trans g2); clear hfar; replace q1 := Lib.hid q1; replace q2 := Lib.hid q2; replace q3 := Lib.hid q3; clear R1 R2 hap))
        have hb5 : Below w.heap.size w w3 := hbw.trans ((hb2.mono hbw.size).trans hb3)
        go_roundw
        case rel => exact ⟨j + 1, _, _, _, _, _, _, by omega, by go_num, rfl, rfl, Lib.hid ⟨by rw [E1.out]; simp, by rw [E2.out]; exact HR.out.2.1, by rw [E1.out, List.length_append]; exact q1.out, by rw [E2.out]; exact q2.out, q3.out⟩, hb5⟩
        case measure => simp [intOf]; omega
    · obtain rfl : j = l.length := by omega
      have hl1 := bgs_len l l.length
      have hl2 := ens_len l l.length
      rw [List.take_length] at HR hl1 hl2
      obtain ⟨hn1, hn2, r1, r2, hap⟩ := HR.out
      have hwz := hbw.size
      have Z1 := Lib.hid (sort_ok w.heap.size (.slice ao1 n1 c1) (bgs l) (.slice ao2 n2 c2) _ (ens l) wr r1 r2 hap (by omega) hwz)
      obtain ⟨B, hB⟩ : ∃ B, B = srt (bgs l) := ⟨_, rfl⟩
      obtain ⟨E, hE⟩ : ∃ E, E = srt (ens l) := ⟨_, rfl⟩
      obtain rfl : n1 = B.length := by rw [hB, srt_len]; exact hn1
      obtain rfl : n2 = E.length := by rw [hE, srt_len]; exact hn2
      have hsB : Hid (B.Pairwise (· ≤ ·)) := Lib.hid (by rw [hB]; exact srt_sorted _)
      have hsE : Hid (E.Pairwise (· ≤ ·)) := Lib.hid (by rw [hE]; exact srt_sorted _)
      have hWd : Hid (wdI B E B.length = wdt l) := Lib.hid (by rw [hB, hE]; rfl)
      have hBl : B.length ≤ 100 := by omega
      have hEl : E.length ≤ 100 := by omega
      have hl3 : Hid ((ens l).length ≤ 4294967296) := Lib.hid (by omega)
      rw [← hB] at Z1
      have HE := Lib.hid hE
      have HLE : Hid (E.length = (ens l).length) := Lib.hid (by rw [hE, srt_len])
      have HLB : Hid (B.length = (bgs l).length) := Lib.hid (by rw [hB, srt_len])
      clear hn1 hn2 r1 r2 hl1 hl2 HR hB hE
      go_wp2_with (first
        | (go_at_call 23; (with_reducible refine Z1.out.mono ?_); rintro e w1 ⟨rfl, t1, t2, hb1⟩; (have T1 := Lib.hid t1); (have Z2 := Lib.hid (sort_ok w.heap.size _ (ens l) _ _ B w1 t2 t1 hap.symm' hl3.out (Nat.le_trans hwz hb1.size))); clear Z1 t1 t2)
        | (go_at_call 23; (with_reducible refine Z2.out.mono ?_); rintro e w2 ⟨rfl, u1, u2, hb2⟩; (rw [← HE.out] at u1); (have U1 := Lib.hid (owns_open u1)); (have U2 := Lib.hid (owns_open u2)); clear Z2 u1 u2 T1))
      have hbz : Hid (Below w.heap.size w w2) := Lib.hid (hbw.trans (hb1.trans hb2))
      obtain ⟨x1, gE, y1, e1, eE, -, -, hcE⟩ := U1.out
      obtain ⟨x2, gB, y2, e2, eB, -, -, hcB⟩ := U2.out
      simp only [Value.slice.injEq] at e1 e2
      obtain ⟨rfl, -, rfl⟩ := e1
      obtain ⟨rfl, -, rfl⟩ := e2
      rw [← HLE.out] at eE
      rw [← HLB.out] at eB
      have EE := Lib.hid eE
      have EB := Lib.hid eB
      have CE := Lib.hid hcE
      have CB := Lib.hid hcB
      clear eE eB hcE hcB U1 U2 hb1 hb2 hap hbw hwz HLE HLB HE hl3
      go_loop [7, 8, 47] (fun a b i => ∃ k : Nat, k ≤ B.length ∧ i = .int .i64 k ∧ a = .int .i64 (wdI B E k) ∧ b = .int .i64 (swept B E k : Int)) (fun _ _ i => B.length - (intOf i).toNat)
      case atStart => exact ⟨0, Nat.zero_le _, rfl, rfl, rfl⟩
      case round =>
        obtain ⟨k, hk, rfl, rfl, rfl⟩ := hrel
        by_cases hlt2 : k < B.length
        · obtain rfl := EB.out (by omega)
          obtain ⟨x, hx⟩ : ∃ x, B[k]? = some x := ⟨B[k], List.getElem?_eq_getElem hlt2⟩
          have cx := CB.out k _ (zvs_get hx)
          have hsw := swept_le hsB.out (E := E) hx
          have hlow : lower E x ≤ E.length := List.countP_le_length
          have hW1 := wdI_nonneg B E k
          have hW2 := wdI_le B E k
          have hS1 : Hid (wdI B E (k + 1) = max (wdI B E k) ((k : Int) + 1 - (lower E x : Int))) := Lib.hid (by show max _ _ = _; rw [hx, Option.getD_some])
          have hS2 : Hid (swept B E (k + 1) = lower E x) := Lib.hid (by show lower E (B[k]?.getD 0) = _; rw [hx, Option.getD_some])
          have PC : Hid (∀ (i : Nat) (e : Int), E[i]? = some e → (e < x ↔ i < lower E x)) := Lib.hid (fun i e he => by
            have := pre_count (fun e => decide (e < x)) (fun a b hab hb => low_lt x a b hab hb) E hsE.out i e he
            rw [decide_eq_true_eq] at this
            exact this)
          clear hx
          obtain ⟨WI, hWI⟩ : ∃ WI, WI = wdI B E k := ⟨_, rfl⟩
          rw [← hWI] at hS1 hW1 hW2 ⊢
          obtain ⟨c0, hc0⟩ : ∃ c0, c0 = swept B E k := ⟨_, rfl⟩
          rw [← hc0] at hsw ⊢
          clear hWI hc0
          go_wp2
          go_loop [8] (fun b => ∃ q : Nat, q ≤ lower E x ∧ b = .int .i64 (q : Int)) (fun b => lower E x - (intOf b).toNat)
          case atStart => exact ⟨c0, hsw, rfl⟩
          case round =>
            obtain ⟨q, hq, rfl⟩ := hrel
            by_cases hq2 : q < E.length
            · obtain rfl := EE.out (by omega)
              obtain ⟨e, he⟩ : ∃ e, E[q]? = some e := ⟨E[q], List.getElem?_eq_getElem hq2⟩
              have ce := CE.out q _ (zvs_get he)
              have hpc := PC.out q e he
              clear he
              by_cases hex : e < x
              · have dex : decide (e < x) = true := decide_eq_true hex
                have hq3 := hpc.1 hex
                clear hpc hex
                go_wp2
                go_round
                case rel => exact ⟨q + 1, by omega, by go_num⟩
                case measure => simp [intOf]; omega
              · have dex : decide (e < x) = false := decide_eq_false hex
                have hq3 : ¬ q < lower E x := fun h => hex (hpc.2 h)
                obtain rfl : q = lower E x := by omega
                clear hpc hex
                go_wp2
                go_round
                case rel => exact ⟨k + 1, by omega, by go_num, by rw [hS1.out], by rw [hS2.out]⟩
                case measure => simp [intOf]; omega
            · obtain rfl : q = lower E x := by omega
              go_wp2
              go_round
              case rel => exact ⟨k + 1, by omega, by go_num, by rw [hS1.out], by rw [hS2.out]⟩
              case measure => simp [intOf]; omega
        · obtain rfl : k = B.length := by omega
          rw [hWd.out]
          go_wp2
          go_ret
          exact ⟨rfl, hbz.out⟩
end Go.Proofs.Ytigcmcmapbomoaa
