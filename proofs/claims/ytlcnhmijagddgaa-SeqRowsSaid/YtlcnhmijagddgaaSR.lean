/- SeqRows' walk. -/
import Derived.Test.YtlcnhmijagddgaaSQ
namespace Go.Proofs.Ytlcnhmijagddgaa
open Go.ChangeShapes Go.WideShapes Go.ChangeAt Go.RowKit
set_option linter.unusedVariables false
set_option linter.unusedSimpArgs false

theorem sqRight_row {t : Int} {s : List Nat} (ht : t = 2 ∨ t = 3) (hs : s.length ≤ 8) : sqRight t s = true := by
  rcases ht with rfl | rfl
  · exact (sqRight_ok (t := 2) (by decide)).2 ⟨Nat.zero_le _, hs⟩
  · exact (sqRight_ok (t := 3) (by decide)).2 ⟨Nat.zero_le _, hs⟩
theorem push_eq {t : Int} {s : List Nat} {x : Nat} (ht : t = 2 ∨ t = 3) (hs : s.length < 8) : sqAp t 0 s x = (s ++ [x], 0, 0) := by
  unfold sqAp
  rw [sqRight_row ht (by omega), if_pos rfl]
  rcases ht with rfl | rfl
  · show (if 8 ≤ s.length then (s, 0, 6) else (s ++ [x], 0, 0)) = _
    exact if_neg (by omega)
  · show (if 8 ≤ s.length then (s, 0, 6) else (s ++ [x], 0, 0)) = _
    exact if_neg (by omega)
theorem pop2_eq {s : List Nat} {x : Nat} (hs : s.length < 8) : sqAp 2 1 (s ++ [x]) 0 = (s, x, 0) := by
  unfold sqAp
  rw [sqRight_row (.inl rfl) (by simp; omega), if_pos rfl]
  show (if (s ++ [x]).length = 0 then (s ++ [x], 0, 7) else ((s ++ [x]).dropLast, (s ++ [x]).getLastD 0, 0)) = _
  rw [if_neg (by simp)]
  simp
theorem pop3_eq {s : List Nat} {x : Nat} (hs : s.length < 8) : sqAp 3 1 (x :: s) 0 = (s, x, 0) := by
  unfold sqAp
  rw [sqRight_row (.inr rfl) (by simp; omega), if_pos rfl]
  rfl

/-- what the law's loops hold on to -/
structure RowsR (w wr : World) (v3 v4 : Value) (s3 s4 : List Nat) : Prop where
  a3 : ArgW wr v3 s3
  a4 : ArgW wr v4 s4
  bel : Below w.heap.size w wr
theorem RowsR.next {w wr w' : World} {v3 v4 : Value} {s3 s4 : List Nat} (h : RowsR w wr v3 v4 s3 s4) (hb : Below wr.heap.size wr w') : RowsR w w' v3 v4 s3 s4 :=
  ⟨h.a3.below hb, h.a4.below hb, h.bel.trans (hb.mono h.bel.size)⟩

set_option maxRecDepth 100000 in
set_option maxHeartbeats 4000000 in
theorem seqRows_walk (v : Value) (l : List Nat) (w : World) (hA : ArgW w v l) (hl : l.length ≤ 9223372036854775807) (hx : ∀ x ∈ l, x < 18446744073709551616) :
    Calls Try.prog 5 #[v] w fun e w' => e = .returned (.bool true) ∧ Below w.heap.size w w' := by
  have HP2 : Hid (∀ (s : List Nat) (x : Nat) (v : Value) (W : World), s.length < 8 → (∀ y ∈ s, y < 18446744073709551616) → x < 18446744073709551616 → ArgW W v s → Calls Try.prog 14 #[.int .i64 2, v, .int .i64 0, .int .u64 (x : Int)] W (ApP W (s ++ [x], 0, 0))) := Lib.hid (fun s x v W hs hy hx h => push_eq (.inl rfl) hs ▸ apply_any 2 0 v s x W h (by omega) hy hx)
  have HP3 : Hid (∀ (s : List Nat) (x : Nat) (v : Value) (W : World), s.length < 8 → (∀ y ∈ s, y < 18446744073709551616) → x < 18446744073709551616 → ArgW W v s → Calls Try.prog 14 #[.int .i64 3, v, .int .i64 0, .int .u64 (x : Int)] W (ApP W (s ++ [x], 0, 0))) := Lib.hid (fun s x v W hs hy hx h => push_eq (.inr rfl) hs ▸ apply_any 3 0 v s x W h (by omega) hy hx)
  have HO2 : Hid (∀ (s : List Nat) (x : Nat) (v : Value) (W : World), s.length < 8 → (∀ y ∈ s ++ [x], y < 18446744073709551616) → ArgW W v (s ++ [x]) → Calls Try.prog 14 #[.int .i64 2, v, .int .i64 1, .int .u64 0] W (ApP W (s, x, 0))) := Lib.hid (fun s x v W hs hy h => pop2_eq hs ▸ apply_any 2 1 v (s ++ [x]) 0 W h (by simp; omega) hy (by decide))
  have HO3 : Hid (∀ (s : List Nat) (x : Nat) (v : Value) (W : World), s.length < 8 → (∀ y ∈ x :: s, y < 18446744073709551616) → ArgW W v (x :: s) → Calls Try.prog 14 #[.int .i64 3, v, .int .i64 1, .int .u64 0] W (ApP W (s, x, 0))) := Lib.hid (fun s x v W hs hy h => pop3_eq hs ▸ apply_any 3 1 v (x :: s) 0 W h (by simp; omega) hy (by decide))
  have HE2 : Hid (∀ (v : Value) (W : World), ArgW W v [] → Calls Try.prog 14 #[.int .i64 2, v, .int .i64 1, .int .u64 0] W (ApP W ([], 0, 7))) := Lib.hid (fun v W h => apply_any 2 1 v [] 0 W h (by simp) (by simp) (by decide))
  have HE3 : Hid (∀ (v : Value) (W : World), ArgW W v [] → Calls Try.prog 14 #[.int .i64 3, v, .int .i64 2, .int .u64 0] W (ApP W ([], 0, 7))) := Lib.hid (fun v W h => apply_any 3 2 v [] 0 W h (by simp) (by simp) (by decide))
  obtain ⟨ao, b, o, cap, rfl, ha, hn, hc⟩ := hA
  have HAO := Lib.hid ha
  have HX := Lib.hid hx
  have HC : Hid (∀ (W : World), Below w.heap.size w W → ∀ (i x : Nat), l[i]? = some x → W.cell? ⟨b, o + i, none⟩ = some (.int .u64 (x : Int))) := Lib.hid (fun W hb i x hi => by
    have := hc i x hi
    exact (hb.cell (World.block_lt_of_cell? w _ this)).trans this)
  clear ha hn hc hx
  go_enter Try.func5, Try.ntmps5
  go_wp2_with fail
  go_loopw [3, 4, 5] (fun x y k wr => ∃ n : Nat, n ≤ l.length ∧ n ≤ 8 ∧ k = .int .i64 n ∧ RowsR w wr x y (l.take n) (l.take n)) (fun _ _ k _ => 8 - (intOf k).toNat)
  case atStart => exact ⟨0, Nat.zero_le _, by omega, rfl, ArgW.nil _, ArgW.nil _, Below.refl _ _⟩
  case round =>
    obtain ⟨n, hn1, hn2, rfl, hR⟩ := hrel
    have HR := Lib.hid hR
    have HST : Hid (RowsR w wr _ _ (l.take (n - 0)) ((l.take n).drop 0)) := Lib.hid (by simpa using hR)
    clear hR
    by_cases h1 : n < l.length
    · by_cases h2 : n < 8
      · obtain rfl := HAO.out (by omega)
        obtain ⟨x, hx⟩ : ∃ x, l[n]? = some x := ⟨l[n], List.getElem?_eq_getElem h1⟩
        have d0 := HC.out wr HR.out.bel n x hx
        have HT : Hid (l.take n ++ [x] = l.take (n + 1)) := Lib.hid (take_snoc hx).symm
        have HLT : Hid ((l.take n).length < 8) := Lib.hid (by simp; omega)
        have HXX : Hid (x < 18446744073709551616) := Lib.hid (HX.out x (List.mem_of_getElem? hx))
        have HXT : Hid (∀ y ∈ l.take n, y < 18446744073709551616) := Lib.hid (fun y hy => HX.out y (List.mem_of_mem_take hy))
        have HXX2 := Lib.hid hx
        clear hx
        go_wp2_with (first
          | (go_at_call 14; (with_reducible refine (HP2.out _ x _ _ HLT.out HXT.out HXX.out HR.out.a3).mono ?_); rintro e w1 ⟨v1, rfl, ho, hb⟩; (have HR1 := Lib.hid ((HR.out.next hb).next ((Below.refl _ _).alloc (Nat.le_refl _) (Obj.cells #[.int .i64 0, .int .u64 0, .slice none 0 0] 32)))); (have HO1 : Hid (ArgW (w1.alloc (Obj.cells #[.int .i64 0, .int .u64 0, .slice none 0 0] 32)) v1 (l.take n ++ [x])) := Lib.hid (ho.arg.alloc _)); (have d0 := HC.out (w1.alloc (Obj.cells #[.int .i64 0, .int .u64 0, .slice none 0 0] 32)) HR1.out.bel n x HXX2.out); clear ho hb)
          | (go_at_call 14; (with_reducible refine (HP3.out _ x _ _ HLT.out HXT.out HXX.out HR1.out.a4).mono ?_); rintro e w2 ⟨v2, rfl, ho, hb⟩; (have HR2 := Lib.hid ((HR1.out.next hb).next ((Below.refl _ _).alloc (Nat.le_refl _) (Obj.cells #[.int .i64 0, .int .u64 0, .slice none 0 0] 32)))); (have HO12 := Lib.hid ((HO1.out.below hb).alloc (Obj.cells #[.int .i64 0, .int .u64 0, .slice none 0 0] 32))); (have HO2b : Hid (ArgW (w2.alloc (Obj.cells #[.int .i64 0, .int .u64 0, .slice none 0 0] 32)) v2 (l.take n ++ [x])) := Lib.hid (ho.arg.alloc _)); (have hbk : w2.heap[w1.heap.size]? = some (Obj.cells #[.int .i64 0, .int .u64 0, .slice none 0 0] 32) := (hb.block _ (by simp)).trans (heap_alloc_new _ _)); (have k0 : w2.cell? ⟨w1.heap.size, 0, none⟩ = some (.int .i64 0) := cell_of_blk (k := 0) hbk rfl); (have hlt := blk_lt hbk); clear ho hb hbk))
        go_roundw
        case rel => exact ⟨n + 1, by omega, by omega, by go_num, HT.out ▸ HO12.out, HT.out ▸ HO2b.out, HR2.out.bel⟩
        case measure => simp [intOf]; omega
      · have hm1 := hn1
        have hm2 := hn2
        go_wp2_with fail
        go_loopw [3, 4, 58] (fun x y k wr => ∃ i : Nat, i ≤ n ∧ k = .int .i64 i ∧ RowsR w wr x y (l.take (n - i)) ((l.take n).drop i)) (fun _ _ k _ => 8 - (intOf k).toNat)
        case atStart => exact ⟨0, Nat.zero_le _, rfl, HST.out⟩
        case round =>
          clear HST HR
          obtain ⟨i, hi, rfl, hR⟩ := hrel
          by_cases h3 : i < n
          · obtain ⟨j, hj⟩ : ∃ j, n = i + j + 1 := ⟨n - i - 1, by omega⟩
            obtain rfl := HAO.out (by omega)
            obtain ⟨x, hx⟩ : ∃ x, l[i]? = some x := ⟨l[i], List.getElem?_eq_getElem (by omega)⟩
            obtain ⟨z, hz⟩ : ∃ z, l[j]? = some z := ⟨l[j], List.getElem?_eq_getElem (by omega)⟩
            have e3 : l.take (n - i) = l.take j ++ [z] := by rw [← take_snoc hz]; congr 1; omega
            have e4 : (l.take n).drop i = x :: (l.take n).drop (i + 1) := by
              rw [List.drop_eq_getElem_cons (by simp; omega), List.getElem_take]
              congr 1
              exact (List.getElem?_eq_some_iff.1 hx).2
            rw [e3, e4] at hR
            have HR := Lib.hid hR
            have HXX := Lib.hid hx
            have HZZ := Lib.hid hz
            have HL3 : Hid ((l.take j).length < 8) := Lib.hid (by simp; omega)
            have HL4 : Hid (((l.take n).drop (i + 1)).length < 8) := Lib.hid (by simp; omega)
            have HX3 : Hid (∀ y ∈ l.take j ++ [z], y < 18446744073709551616) := Lib.hid (fun y hy => by
              rw [← take_snoc hz] at hy; exact HX.out y (List.mem_of_mem_take hy))
            have HX4 : Hid (∀ y ∈ x :: (l.take n).drop (i + 1), y < 18446744073709551616) := Lib.hid (fun y hy => by
              rw [← e4] at hy; exact HX.out y (List.mem_of_mem_take (List.mem_of_mem_drop hy)))
            have HZ64 : Hid (z < 18446744073709551616) := Lib.hid (HX.out z (List.mem_of_getElem? hz))
            have hj1 : (n : Int) - 1 - (i : Int) = (j : Int) := by omega
            have HN1 : Hid (l.take (n - (i + 1)) = l.take j) := Lib.hid (by congr 1; omega)
            have hj2 : j < l.length := by omega
            have hi2 : i < l.length := by omega
            have HJ := Lib.hid hj
            clear hx hz e3 e4 hR hj
            go_wp2_with (first
              | (go_at_call 14; (with_reducible refine (HO2.out _ z _ _ HL3.out HX3.out HR.out.a3).mono ?_); rintro e w1 ⟨v1, rfl, ho, hb⟩; (have HR1 := Lib.hid ((HR.out.next hb).next ((Below.refl _ _).alloc (Nat.le_refl _) (Obj.cells #[.int .i64 0, .int .u64 (z : Int), .slice none 0 0] 32)))); (have HO1 : Hid (ArgW (w1.alloc (Obj.cells #[.int .i64 0, .int .u64 (z : Int), .slice none 0 0] 32)) v1 (l.take j)) := Lib.hid (ho.arg.alloc _)); clear ho hb)
              | (go_at_call 14; (with_reducible refine (HO3.out _ x _ _ HL4.out HX4.out HR1.out.a4).mono ?_); rintro e w2 ⟨v2, rfl, ho, hb⟩; (have HR2 := Lib.hid ((HR1.out.next hb).next ((Below.refl _ _).alloc (Nat.le_refl _) (Obj.cells #[.int .i64 0, .int .u64 (x : Int), .slice none 0 0] 32)))); (have HO12 := Lib.hid ((HO1.out.below hb).alloc (Obj.cells #[.int .i64 0, .int .u64 (x : Int), .slice none 0 0] 32))); (have HO2b : Hid (ArgW (w2.alloc (Obj.cells #[.int .i64 0, .int .u64 (x : Int), .slice none 0 0] 32)) v2 ((l.take n).drop (i + 1))) := Lib.hid (ho.arg.alloc _)); (have hbk : w2.heap[w1.heap.size]? = some (Obj.cells #[.int .i64 0, .int .u64 (z : Int), .slice none 0 0] 32) := (hb.block _ (by simp)).trans (heap_alloc_new _ _)); (have k0 : w2.cell? ⟨w1.heap.size, 0, none⟩ = some (.int .i64 0) := cell_of_blk (k := 0) hbk rfl); (have k1 : w2.cell? ⟨w1.heap.size, 1, none⟩ = some (.int .u64 (z : Int)) := cell_of_blk (k := 1) hbk rfl); (have hlt := blk_lt hbk); (have d0 := HC.out _ HR2.out.bel i x HXX.out); (have d1 := HC.out _ HR2.out.bel j z HZZ.out); clear ho hb hbk))
            go_quiet (fail)
            go_wp2_with fail
            go_roundw
            case rel =>
              have R : ∃ i' : Nat, i' ≤ n ∧ Value.int .i64 ((i : Int) + 1) = .int .i64 (i' : Int) ∧ RowsR w ((w2.alloc (Obj.cells #[.int .i64 0, .int .u64 (x : Int), .slice none 0 0] 32)).drewN nq) v1 v2 (l.take (n - i')) ((l.take n).drop i') :=
                ⟨i + 1, by omega, by go_num, ⟨by rw [HN1.out]; exact HO12.out.drewN nq, HO2b.out.drewN nq, below_drewN HR2.out.bel nq⟩⟩
              exact R
            case measure => simp [intOf]; omega
          · have e3 : l.take (n - i) = [] := by rw [show n - i = 0 by omega]; rfl
            have e4 : (l.take n).drop i = [] := List.drop_eq_nil_of_le (by simp; omega)
            rw [e3, e4] at hR
            have HR := Lib.hid hR
            obtain rfl : i = n := by omega
            clear e3 e4 hR
            go_wp2_with (first
              | (go_at_call 14; (with_reducible refine (HE2.out _ _ HR.out.a3).mono ?_); rintro e w1 ⟨v1, rfl, ho, hb⟩; (have HR1 := Lib.hid ((HR.out.next hb).next ((Below.refl _ _).alloc (Nat.le_refl _) (Obj.cells #[.int .i64 7, .int .u64 0, .slice none 0 0] 32)))); clear ho hb)
              | (go_at_call 14; (with_reducible refine (HE3.out _ _ HR1.out.a4).mono ?_); rintro e w2 ⟨v2, rfl, ho, hb⟩; (have HR2 := Lib.hid ((HR1.out.next hb).next ((Below.refl _ _).alloc (Nat.le_refl _) (Obj.cells #[.int .i64 7, .int .u64 0, .slice none 0 0] 32)))); (have hbk : w2.heap[w1.heap.size]? = some (Obj.cells #[.int .i64 7, .int .u64 0, .slice none 0 0] 32) := (hb.block _ (by simp)).trans (heap_alloc_new _ _)); (have k0 : w2.cell? ⟨w1.heap.size, 0, none⟩ = some (.int .i64 7) := cell_of_blk (k := 0) hbk rfl); (have hlt := blk_lt hbk); (obtain ⟨ao3, c3, rfl⟩ := HR2.out.a3.isSlice); (obtain ⟨ao4, c4, rfl⟩ := HR2.out.a4.isSlice); clear ho hb hbk)
              | (go_at_call 13; refine (known_any _).mono ?_; rintro e w8 ⟨rfl, hb⟩; (have HB8 := Lib.hid (HR2.out.bel.trans (hb.mono HR2.out.bel.size))); clear hb))
            go_ret
            exact ⟨rfl, HB8.out⟩
    · have hm1 := hn1
      have hm2 := hn2
      go_wp2_with fail
      go_loopw [3, 4, 58] (fun x y k wr => ∃ i : Nat, i ≤ n ∧ k = .int .i64 i ∧ RowsR w wr x y (l.take (n - i)) ((l.take n).drop i)) (fun _ _ k _ => 8 - (intOf k).toNat)
      case atStart => exact ⟨0, Nat.zero_le _, rfl, HST.out⟩
      case round =>
        clear HST HR
        obtain ⟨i, hi, rfl, hR⟩ := hrel
        by_cases h3 : i < n
        · obtain ⟨j, hj⟩ : ∃ j, n = i + j + 1 := ⟨n - i - 1, by omega⟩
          obtain rfl := HAO.out (by omega)
          obtain ⟨x, hx⟩ : ∃ x, l[i]? = some x := ⟨l[i], List.getElem?_eq_getElem (by omega)⟩
          obtain ⟨z, hz⟩ : ∃ z, l[j]? = some z := ⟨l[j], List.getElem?_eq_getElem (by omega)⟩
          have e3 : l.take (n - i) = l.take j ++ [z] := by rw [← take_snoc hz]; congr 1; omega
          have e4 : (l.take n).drop i = x :: (l.take n).drop (i + 1) := by
            rw [List.drop_eq_getElem_cons (by simp; omega), List.getElem_take]
            congr 1
            exact (List.getElem?_eq_some_iff.1 hx).2
          rw [e3, e4] at hR
          have HR := Lib.hid hR
          have HXX := Lib.hid hx
          have HZZ := Lib.hid hz
          have HL3 : Hid ((l.take j).length < 8) := Lib.hid (by simp; omega)
          have HL4 : Hid (((l.take n).drop (i + 1)).length < 8) := Lib.hid (by simp; omega)
          have HX3 : Hid (∀ y ∈ l.take j ++ [z], y < 18446744073709551616) := Lib.hid (fun y hy => by
            rw [← take_snoc hz] at hy; exact HX.out y (List.mem_of_mem_take hy))
          have HX4 : Hid (∀ y ∈ x :: (l.take n).drop (i + 1), y < 18446744073709551616) := Lib.hid (fun y hy => by
            rw [← e4] at hy; exact HX.out y (List.mem_of_mem_take (List.mem_of_mem_drop hy)))
          have HZ64 : Hid (z < 18446744073709551616) := Lib.hid (HX.out z (List.mem_of_getElem? hz))
          have hj1 : (n : Int) - 1 - (i : Int) = (j : Int) := by omega
          have HN1 : Hid (l.take (n - (i + 1)) = l.take j) := Lib.hid (by congr 1; omega)
          have hj2 : j < l.length := by omega
          have hi2 : i < l.length := by omega
          have HJ := Lib.hid hj
          clear hx hz e3 e4 hR hj
          go_wp2_with (first
            | (go_at_call 14; (with_reducible refine (HO2.out _ z _ _ HL3.out HX3.out HR.out.a3).mono ?_); rintro e w1 ⟨v1, rfl, ho, hb⟩; (have HR1 := Lib.hid ((HR.out.next hb).next ((Below.refl _ _).alloc (Nat.le_refl _) (Obj.cells #[.int .i64 0, .int .u64 (z : Int), .slice none 0 0] 32)))); (have HO1 : Hid (ArgW (w1.alloc (Obj.cells #[.int .i64 0, .int .u64 (z : Int), .slice none 0 0] 32)) v1 (l.take j)) := Lib.hid (ho.arg.alloc _)); clear ho hb)
            | (go_at_call 14; (with_reducible refine (HO3.out _ x _ _ HL4.out HX4.out HR1.out.a4).mono ?_); rintro e w2 ⟨v2, rfl, ho, hb⟩; (have HR2 := Lib.hid ((HR1.out.next hb).next ((Below.refl _ _).alloc (Nat.le_refl _) (Obj.cells #[.int .i64 0, .int .u64 (x : Int), .slice none 0 0] 32)))); (have HO12 := Lib.hid ((HO1.out.below hb).alloc (Obj.cells #[.int .i64 0, .int .u64 (x : Int), .slice none 0 0] 32))); (have HO2b : Hid (ArgW (w2.alloc (Obj.cells #[.int .i64 0, .int .u64 (x : Int), .slice none 0 0] 32)) v2 ((l.take n).drop (i + 1))) := Lib.hid (ho.arg.alloc _)); (have hbk : w2.heap[w1.heap.size]? = some (Obj.cells #[.int .i64 0, .int .u64 (z : Int), .slice none 0 0] 32) := (hb.block _ (by simp)).trans (heap_alloc_new _ _)); (have k0 : w2.cell? ⟨w1.heap.size, 0, none⟩ = some (.int .i64 0) := cell_of_blk (k := 0) hbk rfl); (have k1 : w2.cell? ⟨w1.heap.size, 1, none⟩ = some (.int .u64 (z : Int)) := cell_of_blk (k := 1) hbk rfl); (have hlt := blk_lt hbk); (have d0 := HC.out _ HR2.out.bel i x HXX.out); (have d1 := HC.out _ HR2.out.bel j z HZZ.out); clear ho hb hbk))
          go_quiet (fail)
          go_wp2_with fail
          go_roundw
          case rel =>
            have R : ∃ i' : Nat, i' ≤ n ∧ Value.int .i64 ((i : Int) + 1) = .int .i64 (i' : Int) ∧ RowsR w ((w2.alloc (Obj.cells #[.int .i64 0, .int .u64 (x : Int), .slice none 0 0] 32)).drewN nq) v1 v2 (l.take (n - i')) ((l.take n).drop i') :=
              ⟨i + 1, by omega, by go_num, ⟨by rw [HN1.out]; exact HO12.out.drewN nq, HO2b.out.drewN nq, below_drewN HR2.out.bel nq⟩⟩
            exact R
          case measure => simp [intOf]; omega
        · have e3 : l.take (n - i) = [] := by rw [show n - i = 0 by omega]; rfl
          have e4 : (l.take n).drop i = [] := List.drop_eq_nil_of_le (by simp; omega)
          rw [e3, e4] at hR
          have HR := Lib.hid hR
          obtain rfl : i = n := by omega
          clear e3 e4 hR
          go_wp2_with (first
            | (go_at_call 14; (with_reducible refine (HE2.out _ _ HR.out.a3).mono ?_); rintro e w1 ⟨v1, rfl, ho, hb⟩; (have HR1 := Lib.hid ((HR.out.next hb).next ((Below.refl _ _).alloc (Nat.le_refl _) (Obj.cells #[.int .i64 7, .int .u64 0, .slice none 0 0] 32)))); clear ho hb)
            | (go_at_call 14; (with_reducible refine (HE3.out _ _ HR1.out.a4).mono ?_); rintro e w2 ⟨v2, rfl, ho, hb⟩; (have HR2 := Lib.hid ((HR1.out.next hb).next ((Below.refl _ _).alloc (Nat.le_refl _) (Obj.cells #[.int .i64 7, .int .u64 0, .slice none 0 0] 32)))); (have hbk : w2.heap[w1.heap.size]? = some (Obj.cells #[.int .i64 7, .int .u64 0, .slice none 0 0] 32) := (hb.block _ (by simp)).trans (heap_alloc_new _ _)); (have k0 : w2.cell? ⟨w1.heap.size, 0, none⟩ = some (.int .i64 7) := cell_of_blk (k := 0) hbk rfl); (have hlt := blk_lt hbk); (obtain ⟨ao3, c3, rfl⟩ := HR2.out.a3.isSlice); (obtain ⟨ao4, c4, rfl⟩ := HR2.out.a4.isSlice); clear ho hb hbk)
            | (go_at_call 13; refine (known_any _).mono ?_; rintro e w8 ⟨rfl, hb⟩; (have HB8 := Lib.hid (HR2.out.bel.trans (hb.mono HR2.out.bel.size))); clear hb))
          go_ret
          exact ⟨rfl, HB8.out⟩

end Go.Proofs.Ytlcnhmijagddgaa
