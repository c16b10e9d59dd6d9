/- Walks of Pack and Unpack. -/
import Derived.Test.YtgfmidpcgoadlaaDoorDA2
import Derived.Test.YtgfmidpcgoadlaaDoorP
namespace Go.Proofs.YtgfmidpcgoadlaaDoor
open Go.RowKit

/-- the fields lie in a row from (b, off) on -/
def FCells (w : World) (b off : Nat) (l : List (Int × Nat)) : Prop :=
  ∀ (i : Nat) (x : Int × Nat), l[i]? = some x → w.cell? ⟨b, off + i * 2, none⟩ = some (.int .i64 x.1) ∧ w.cell? ⟨b, off + i * 2 + 1, none⟩ = some (.int .u64 x.2) ∧
    (-9223372036854775808 ≤ x.1 ∧ x.1 ≤ 9223372036854775807) ∧ x.2 < 18446744073709551616

set_option maxHeartbeats 400000 in
theorem pack_any (ao : Option Addr) (b off cap : Nat) (l : List (Int × Nat)) (w : World) (hl : l.length ≤ 9223372036854775807) (hb : 0 < l.length → b < w.heap.size) (ha : 0 < l.length → ao = some ⟨b, off, none⟩) (hc : FCells w b off l) :
    Calls Tryd.prog 21 #[.slice ao l.length cap] w fun e w' => e = .returned (.tuple #[.int .u64 (packGo l 0 0).2, .int .i64 (packGo l 0 0).1]) ∧ Below w.heap.size w w' := by
  have HC := Lib.hid hc
  clear hc
  have HA := Lib.hid ha
  clear ha
  have HB := Lib.hid hb
  clear hb
  go_enter Tryd.func21, Tryd.ntmps21
  go_wp2
  go_loopw [4, 5, 12] (fun x p k wr => ∃ j a v : Nat, j ≤ l.length ∧ a ≤ 64 ∧ v < 18446744073709551616 ∧ k = .int .i64 j ∧ p = .int .i64 a ∧ x = .int .u64 v ∧ Hid (packGo (l.drop j) a v = packGo l 0 0) ∧ Below w.heap.size w wr) (fun _ _ k _ => l.length - (intOf k).toNat)
  case atStart => exact ⟨0, 0, 0, Nat.zero_le _, Nat.zero_le _, by omega, rfl, rfl, rfl, Lib.hid rfl, Below.refl _ _⟩
  case round =>
    obtain ⟨j, a, v, hj, ha, hv, rfl, rfl, rfl, hp, hbl⟩ := hrel
    by_cases hlt : j < l.length
    · obtain rfl := HA.out (by omega)
      obtain ⟨⟨s, f⟩, hx⟩ : ∃ x, l[j]? = some x := ⟨l[j], List.getElem?_eq_getElem hlt⟩
      obtain ⟨c1, c2, hs, hf⟩ := HC.out j _ hx
      have hd : Hid (l.drop j = (s, f) :: l.drop (j + 1)) := by
        apply Lib.hid
        rw [List.drop_eq_getElem_cons hlt]
        rw [List.getElem?_eq_getElem hlt, Option.some.injEq] at hx
        rw [hx]
      have hbw : ∀ o, wr.cell? ⟨b, o, none⟩ = w.cell? ⟨b, o, none⟩ := fun o => hbl.cell (p := ⟨b, o, none⟩) (HB.out (by omega))
      have d1 := (hbw _).trans c1
      have d2 := (hbw _).trans c2
      clear hbw c1 c2
      have HX := Lib.hid hx
      clear hx
      by_cases hex : s < 1 ∨ 64 < a + s
      · have hres : Hid (packGo l 0 0 = (1, 0)) := Lib.hid (by rw [← hp.out, hd.out]; exact packGo_arg hex)
        have HE := Lib.hid hex
        clear hex
        go_wp2_with fail
        refine (wput_no v a s f _ hs.1 hs.2 (by have := HE.out; omega)).mono ?_
        rintro e w' ⟨rfl, rfl⟩
        go_wp2
        go_ret2
        rw [hres.out]
        exact ⟨rfl, hbl.alloc hbl.size _⟩
      · obtain ⟨t, rfl⟩ : ∃ t : Nat, s = t := ⟨s.toNat, by omega⟩
        have ht : 1 ≤ t ∧ a + t ≤ 64 := by omega
        clear hex hs
        by_cases hr : f < 2 ^ t
        · have hn := packGo_next (l := l.drop (j + 1)) (a := a) (w := v) ht.1 ht.2 hr
          rw [← hd.out, hp.out] at hn
          have HN := Lib.hid hn.symm
          have hpl := pu_lt v a t f hv hr ht.2
          have HR := Lib.hid hr
          clear hn hr
          go_wp2_with fail
          refine (wput_yes v a t f _ hv ht.1 ht.2 HR.out).mono ?_
          rintro e w' ⟨rfl, m, rfl⟩
          go_wp2
          go_roundw
          case rel => exact ⟨j + 1, a + t, pu v a t f, by omega, by omega, hpl, by go_num, by go_num, rfl, HN, below_drewN (hbl.alloc hbl.size _) _⟩
          case measure => simp [intOf]; omega
        · have hres : Hid (packGo l 0 0 = (10, 0)) := Lib.hid (by rw [← hp.out, hd.out]; exact packGo_range ht.1 ht.2 hr)
          have HR := Lib.hid hr
          clear hr
          go_wp2_with fail
          refine (wput_range v a t f _ hf ht.1 ht.2 HR.out).mono ?_
          rintro e w' ⟨rfl, rfl⟩
          go_wp2
          go_ret2
          rw [hres.out]
          exact ⟨rfl, hbl.alloc hbl.size _⟩
    · have hres : Hid (packGo l 0 0 = (0, v)) := Lib.hid (by
        have : j = l.length := by omega
        rw [← hp.out, this, List.drop_length]; rfl)
      go_wp2
      go_ret2
      rw [hres.out]
      exact ⟨rfl, hbl⟩

end Go.Proofs.YtgfmidpcgoadlaaDoor
