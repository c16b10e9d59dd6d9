/- Walk of the law WordBack. -/
import Derived.Test.YtehcfflofacapaaH
import Derived.Deep.RegionLaw
namespace Go.Proofs.Ytehcfflofacapaa
open Go.RowKit

theorem info39 : (Try.prog.info? 39).map (fun i => (i.zero, i.size, i.bytes)) = some (some (.agg #[.int .i64 0, .int .u64 0]), 2, 16) := by kernel_rfl

/-- the cells of fields -/
def fcells : List (Int × Nat) → List Value
  | [] => []
  | (s, v) :: l => .int .i64 s :: .int .u64 (v : Int) :: fcells l
theorem fcells_snoc (l : List (Int × Nat)) (x : Int × Nat) : fcells (l ++ [x]) = fcells l ++ [.int .i64 x.1, .int .u64 (x.2 : Int)] := by
  induction l with
  | nil => rfl
  | cons y l ih => obtain ⟨s, v⟩ := y; simp [fcells, ih]
theorem fcells_get (l : List (Int × Nat)) : ∀ (i : Nat) (x : Int × Nat), l[i]? = some x → (fcells l)[i * 2]? = some (.int .i64 x.1) ∧ (fcells l)[i * 2 + 1]? = some (.int .u64 (x.2 : Int)) := by
  induction l with
  | nil => intro i x h; simp at h
  | cons y l ih =>
    intro i x h
    obtain ⟨s, v⟩ := y
    cases i with
    | zero => simp at h; subst h; exact ⟨rfl, rfl⟩
    | succ i =>
      simp at h
      obtain ⟨h1, h2⟩ := ih i x h
      rw [show (i + 1) * 2 = i * 2 + 1 + 1 by omega]
      exact ⟨h1, h2⟩
/-- the cells of the first j fields -/
def fcs (l : List (Int × Nat)) (j : Nat) : List Value := fcells (l.take j)
theorem fcs_succ {l : List (Int × Nat)} {j : Nat} {x : Int × Nat} (h : l[j]? = some x) : fcs l (j + 1) = fcs l j ++ [.int .i64 x.1, .int .u64 (x.2 : Int)] := by
  unfold fcs; rw [take_snoc h, fcells_snoc]

theorem ICells.stays {w wr : World} {b o B : Nat} {l : List Int} (h : ICells w b o l) (hb : Below B w wr) (hB : 0 < l.length → b < B) : ICells wr b o l := by
  intro i x hx
  have hl : 0 < l.length := by have := (List.getElem?_eq_some_iff.1 hx).1; omega
  obtain ⟨h1, h3⟩ := h i x hx
  exact ⟨(hb.cell (p := ⟨b, _, none⟩) (hB hl)).trans h1, h3⟩

set_option maxHeartbeats 400000 in
theorem back_no (n : Nat) (ao : Option Addr) (b o c : Nat) (l : List Int) (w : World) (hn : n < 18446744073709551616) (hl : l.length ≤ 9223372036854775807) (hb : 0 < l.length → b < w.heap.size)
    (ha : 0 < l.length → ao = some ⟨b, o, none⟩) (hc : ICells w b o l) (hs : 100 < l.length ∨ sizesGo l 0 = false) :
    Calls Try.prog 6 #[.int .u64 n, .slice ao l.length c] w fun e w' => e = .returned (.bool true) ∧ Below w.heap.size w w' := by
  have HC := Lib.hid hc
  clear hc
  have HA := Lib.hid ha
  clear ha
  have HB := Lib.hid hb
  clear hb
  by_cases h100 : 100 < l.length
  · have HS := Lib.hid hs
    clear hs
    go_enter Try.func6, Try.ntmps6
    go_wp2_with fail
    refine (packed_any _).mono ?_
    rintro e w' ⟨rfl, hb⟩
    go_wp2_with fail
    go_ret
    exact ⟨rfl, hb⟩
  · have hs' : Hid (sizesGo l 0 = false) := Lib.hid (hs.resolve_left h100)
    clear hs
    go_enter Try.func6, Try.ntmps6
    go_wp2_with fail
    refine (unpack_any n ao b o c l _ hn hl HB.out HA.out HC.out).mono ?_
    rintro e w1 ⟨v, _, hy, hb1⟩
    obtain rfl := hy hs'.out
    clear hy
    go_wp2_with fail
    refine (sizes_any ao b o c l _ hl HA.out (HC.out.stays hb1 HB.out)).mono ?_
    rw [hs'.out]
    rintro e w2 ⟨rfl, rfl⟩
    go_wp2_with fail
    refine (packed_any _).mono ?_
    rintro e w' ⟨rfl, hb2⟩
    go_wp2_with fail
    go_ret
    exact ⟨rfl, hb1.trans (hb2.mono hb1.size)⟩

set_option maxHeartbeats 600000 in
theorem back_yes (n : Nat) (ao : Option Addr) (b o c : Nat) (l : List Int) (w : World) (hn : n < 18446744073709551616) (hl : l.length ≤ 100) (hb : 0 < l.length → b < w.heap.size)
    (ha : 0 < l.length → ao = some ⟨b, o, none⟩) (hc : ICells w b o l) (hs : sizesGo l 0 = true) :
    Calls Try.prog 6 #[.int .u64 n, .slice ao l.length c] w fun e w' => e = .returned (.bool true) ∧ Below w.heap.size w w' := by
  obtain ⟨i39, i39a, i39b, i39c, i39d⟩ := info_parts info39
  have HC := Lib.hid hc
  clear hc
  have HA := Lib.hid ha
  clear ha
  have HB := Lib.hid hb
  clear hb
  have HS := Lib.hid hs
  have hzl : (l.zip (fields n l 0)).length = l.length := by rw [List.length_zip, fields_length]; omega
  have hpk : Hid (packGo (l.zip (fields n l 0)) 0 0 = (0, fld n 0 (total l))) := Lib.hid (by
    have := pack_fields n l 0 (by omega) hs
    rw [fld_none, Nat.zero_add] at this
    exact this)
  have htl : total l ≤ 64 := by have := total_le l 0 (by omega) hs; omega
  have hze : Hid (∀ i s, l[i]? = some s → (l.zip (fields n l 0))[i]? = some (s, fld n (total (l.take i)) s.toNat)) := by
    intro i s h
    have := fields_get n l 0 i s h
    rw [Nat.zero_add] at this
    rw [List.getElem?_zip_eq_some]
    exact ⟨h, this⟩
  have HZ := Lib.hid hzl
  clear hs hzl
  go_enter Try.func6, Try.ntmps6
  go_wp2_with fail
  refine (unpack_any n ao b o c l _ hn (by omega) HB.out HA.out HC.out).mono ?_
  rintro e w1 ⟨v, hy, _, hb1⟩
  obtain ⟨rfl, hown⟩ := hy HS.out
  clear hy
  obtain ⟨ao1, g1, k1, rfl, hA1, _, hG1, hC1⟩ := owns_open hown
  clear hown
  have HA1 := Lib.hid hA1
  have HG1 := Lib.hid hG1
  have HC1 : Hid (∀ (i : Nat) (s : Int), l[i]? = some s → w1.cell? ⟨g1, i, none⟩ = some (.int .u64 (fld n (total (l.take i)) s.toNat : Nat))) := by
    intro i s h
    refine hC1 i _ ?_
    rw [List.getElem?_map, fields_get n l 0 i s h, Nat.zero_add]; rfl
  clear hA1 hG1 hC1
  go_wp2_with fail
  refine (sizes_any ao b o c l _ (by omega) HA.out (HC.out.stays hb1 HB.out)).mono ?_
  rw [HS.out]
  rintro e w2 ⟨rfl, rfl⟩
  go_wp2_with fail
  go_loopw [7, 8, 9] (fun v p k wr => ∃ j : Nat, j ≤ l.length ∧ k = .int .i64 j ∧ p = .int .i64 (total (l.take j)) ∧ wr.ownsRow w1.heap.size 39 2 v j (fcs (l.zip (fields n l 0)) j) ∧ Below w1.heap.size w1 wr) (fun _ _ k _ => l.length - (intOf k).toNat)
  case atStart => exact ⟨0, Nat.zero_le _, rfl, rfl, World.ownsRow_nil _ _ _ _, Below.refl _ _⟩
  case round =>
    obtain ⟨j, hj, rfl, rfl, ho, hbl⟩ := hrel
    have hsz := hbl.size
    by_cases hlt : j < l.length
    · obtain rfl := HA.out (by omega)
      obtain rfl := HA1.out (by omega)
      obtain ⟨s, hx⟩ : ∃ x, l[j]? = some x := ⟨l[j], List.getElem?_eq_getElem hlt⟩
      obtain ⟨e1, e2⟩ := sizes_each l 0 HS.out j s hx
      obtain ⟨t, rfl⟩ : ∃ t : Nat, s = t := ⟨s.toNat, by omega⟩
      rw [Nat.zero_add] at e2
      have ht1 : 1 ≤ t := by omega
      have ht2 : total (l.take j) + t ≤ 64 := by omega
      clear e1 e2
      obtain ⟨c1, _⟩ := HC.out.stays (hb1.trans (hbl.mono hb1.size)) HB.out j _ hx
      have c2 := (hbl.cell (p := ⟨g1, j, none⟩) (HG1.out (by omega))).trans (HC1.out j _ hx)
      rw [Int.toNat_natCast] at c2
      have hz := hze.out j _ hx
      rw [Int.toNat_natCast] at hz
      have hf := Lib.hid (fcs_succ hz)
      have htt := total_succ l j _ hx
      rw [Int.toNat_natCast] at htt
      have HT := Lib.hid htt
      have HX := Lib.hid hx
      clear hz hx htt
      obtain ⟨a, haa⟩ : ∃ a, a = total (l.take j) := ⟨_, rfl⟩
      rw [← haa] at ht2 c2 hf HT
      rw [← haa]
      have HAA := Lib.hid haa
      clear haa
      have hj' : j ≤ 4294967296 := by omega
      go_wp2_with fail
      go_quiet ((go_at_call 12; exact call_keeps ⟨_, rfl⟩ (get_ref n a t _ hn ht1 ht2)))
      go_wp2
      go_region_law (refine step_append_new (w := wr.drewN _) rfl _ _ 35 rfl w1.heap.size 39 i39 (.agg #[.int .i64 0, .int .u64 0]) 2 16 Try.underlying35 i39a i39b i39c i39d rfl (by decide) (by decide) _ j _ rfl (owns_drewN ho _) [.int .i64 t, .int .u64 (fld n a t : Nat)] rfl rfl rfl hj' hsz ?_; intro v2 w2 hown2 hbl2 _ _)
      all_goals
        have hown2' : w2.ownsRow w1.heap.size 39 2 v2 (j + 1) (fcs (l.zip (fields n l 0)) (j + 1)) := by rw [hf.out]; exact hown2
        have hb2 : Below w1.heap.size w1 w2 := hbl.trans ((below_drewN (Below.refl _ _) _).trans hbl2)
        have c3 := (HC.out.stays (hb1.trans (hb2.mono hb1.size)) HB.out j _ HX.out).1
        clear hown2 hbl2 hbl ho
        go_wp2
        go_roundw
        case rel => exact ⟨j + 1, by omega, by go_num, by rw [HT.out]; go_num, hown2', hb2⟩
        case measure => simp [intOf]; omega
    · have : j = l.length := by omega
      subst this
      have hat : Hid (total (l.take l.length) = total l) := Lib.hid (by rw [List.take_length])
      have hfc : Hid (fcs (l.zip (fields n l 0)) l.length = fcells (l.zip (fields n l 0))) := Lib.hid (by unfold fcs; rw [← HZ.out, List.take_length])
      rw [hfc.out] at ho
      rw [hat.out]
      have HO := Lib.hid ho
      clear ho
      obtain ⟨ao2, g2, k2, rfl, hA2, _, hG2, hC2⟩ := owns_open HO.out
      have hF : FCells wr g2 0 (l.zip (fields n l 0)) := by
        intro i x hx
        obtain ⟨f1, f2⟩ := fcells_get _ i x hx
        obtain ⟨x1, x2⟩ := x
        rw [List.getElem?_zip_eq_some] at hx
        obtain ⟨hx1, hx2⟩ := hx
        have hx3 := fields_get n l 0 i _ hx1
        rw [hx2, Option.some.injEq] at hx3
        refine ⟨?_, ?_, (HC.out i _ hx1).2, ?_⟩
        · rw [Nat.zero_add]; exact hC2 _ _ f1
        · rw [Nat.zero_add]; exact hC2 _ _ f2
        · have := fld_le n (0 + total (l.take i)) x1.toNat
          simp only at hx3 ⊢
          omega
      have hcall := pack_any ao2 g2 0 k2 (l.zip (fields n l 0)) wr (by rw [HZ.out]; omega) (by rw [HZ.out]; exact hG2) (by rw [HZ.out]; exact hA2) hF
      rw [HZ.out, hpk.out] at hcall
      have HP := Lib.hid hcall
      have hb2 := hb1.trans (hbl.mono hb1.size)
      clear hC2 hF hA2 hG2 hcall HO hbl
      by_cases h0 : 0 < total l
      · go_wp2_with fail
        refine HP.out.mono ?_
        rintro e w2 ⟨rfl, hb3⟩
        go_wp2_with fail
        refine (get_ref n 0 (total l) _ hn (by omega) (by omega)).mono ?_
        rintro e w3 ⟨rfl, rfl⟩
        go_wp2_with fail
        refine (packed_any _).mono ?_
        rintro e w4 ⟨rfl, hb4⟩
        go_wp2_with fail
        go_ret
        have hb5 := hb2.trans (hb3.mono hb2.size)
        exact ⟨rfl, hb5.trans (hb4.mono hb5.size)⟩
      · have hz0 : Hid (total l = 0) := Lib.hid (by omega)
        have hfz : Hid (fld n 0 (total l) = 0) := Lib.hid (by rw [hz0.out, fld_none])
        rw [hfz.out] at HP
        go_wp2_with fail
        refine HP.out.mono ?_
        rintro e w2 ⟨rfl, hb3⟩
        go_wp2_with fail
        refine (packed_any _).mono ?_
        rintro e w4 ⟨rfl, hb4⟩
        go_wp2_with fail
        go_ret
        have hb5 := hb2.trans (hb3.mono hb2.size)
        exact ⟨rfl, hb5.trans (hb4.mono hb5.size)⟩
end Go.Proofs.Ytehcfflofacapaa
