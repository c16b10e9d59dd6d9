/- Walks of Unpack. -/
import Derived.Test.YtehcfflofacapaaD
namespace Go.Proofs.Ytehcfflofacapaa
open Go.RowKit

def UnpackPost (n : Nat) (l : List Int) (w : World) (e : Ending) (w' : World) : Prop :=
  ∃ v, (sizesGo l 0 = true → e = .returned (.tuple #[v, .int .i64 0]) ∧ w'.ownsRow w.heap.size 22 1 v l.length ((fields n l 0).map fun x : Nat => Value.int .u64 (x : Int))) ∧
    (sizesGo l 0 = false → e = .returned (.tuple #[.slice none 0 0, .int .i64 1])) ∧ Below w.heap.size w w'

set_option maxHeartbeats 400000 in
theorem unpack_any (n : Nat) (ao : Option Addr) (b o c : Nat) (l : List Int) (w : World) (hn : n < 18446744073709551616) (hl : l.length ≤ 9223372036854775807) (hb : 0 < l.length → b < w.heap.size)
    (ha : 0 < l.length → ao = some ⟨b, o, none⟩) (hc : ICells w b o l) :
    Calls Try.prog 18 #[.int .u64 n, .slice ao l.length c] w (UnpackPost n l w) := by
  obtain ⟨i0, hi, hz0, hz1, hz2⟩ := info_parts info22
  have HC := Lib.hid hc
  clear hc
  have HA := Lib.hid ha
  clear ha
  have HB := Lib.hid hb
  clear hb
  go_enter Try.func18, Try.ntmps18
  go_wp2
  go_loopw [6, 7, 14] (fun v p k wr => ∃ (j a : Nat) (acc : List Nat), j ≤ l.length ∧ j ≤ a ∧ a ≤ 64 ∧ k = .int .i64 j ∧ p = .int .i64 a ∧ Hid (sizesGo (l.drop j) a = sizesGo l 0) ∧ Hid (acc ++ fields n (l.drop j) a = fields n l 0) ∧ Hid (acc.length = j) ∧
     wr.ownsRow w.heap.size 22 1 v acc.length (acc.map fun x : Nat => Value.int .u64 (x : Int)) ∧ Below w.heap.size w wr) (fun _ _ k _ => l.length - (intOf k).toNat)
  case atStart => exact ⟨0, 0, [], Nat.zero_le _, Nat.zero_le _, Nat.zero_le _, rfl, rfl, Lib.hid rfl, Lib.hid rfl, Lib.hid rfl, World.ownsRow_nil _ _ _ _, Below.refl _ _⟩
  case round =>
    obtain ⟨j, a, acc, hj, hja, ha, rfl, rfl, hp, hq, hr, hown, hbl⟩ := hrel
    by_cases hlt : j < l.length
    · obtain rfl := HA.out (by omega)
      obtain ⟨s, hx⟩ : ∃ x, l[j]? = some x := ⟨l[j], List.getElem?_eq_getElem hlt⟩
      obtain ⟨c1, hs⟩ := HC.out j _ hx
      have hd : Hid (l.drop j = s :: l.drop (j + 1)) := by
        apply Lib.hid
        rw [List.drop_eq_getElem_cons hlt]
        rw [List.getElem?_eq_getElem hlt, Option.some.injEq] at hx
        rw [hx]
      have hbw : ∀ o, wr.cell? ⟨b, o, none⟩ = w.cell? ⟨b, o, none⟩ := fun o => hbl.cell (p := ⟨b, o, none⟩) (HB.out (by omega))
      have d1 := (hbw _).trans c1
      clear hbw c1
      have HX := Lib.hid hx
      clear hx
      by_cases hex : s < 1 ∨ 64 < a + s
      · have hres : Hid (sizesGo l 0 = false) := Lib.hid (by rw [← hp.out, hd.out]; exact sizesGo_arg hex)
        have HE := Lib.hid hex
        clear hex
        go_wp2_with fail
        refine (wget_no n a s _ hs.1 hs.2 (by have := HE.out; omega)).mono ?_
        rintro e w' ⟨rfl, rfl⟩
        go_wp2
        go_ret2
        exact ⟨.slice none 0 0, fun h => absurd (hres.out.symm.trans h) (by decide), fun _ => rfl, hbl⟩
      · obtain ⟨t, rfl⟩ : ∃ t : Nat, s = t := ⟨s.toNat, by omega⟩
        have ht : 1 ≤ t ∧ a + t ≤ 64 := by omega
        clear hex hs
        obtain ⟨ht1, ht2⟩ := ht
        have hN : Hid (sizesGo (l.drop (j + 1)) (a + t) = sizesGo l 0) := Lib.hid (by rw [← hp.out, hd.out, sizesGo_next ht1 ht2])
        have hF : Hid ((acc ++ [fld n a t]) ++ fields n (l.drop (j + 1)) (a + t) = fields n l 0) := Lib.hid (by rw [← hq.out, hd.out]; simp [fields])
        have hsz := hbl.size
        have hal : acc.length ≤ 64 := by rw [hr.out]; omega
        go_wp2_with fail
        refine (wget_yes n a t _ hn ht1 ht2).mono ?_
        rintro e w' ⟨rfl, m, rfl⟩
        go_wp2_with (at_builtin; refine wpList_append_own _ rfl _ _ 37 rfl w.heap.size 22 i0 (.int .u64 0) 1 8 Try.underlying37 hi hz0 hz1 hz2 rfl (by decide) _ _ _ rfl ((owns_drewN hown m).alloc _) ⟨wr.heap.size, 0, none⟩ 1 1 [.int .u64 (fld n a t)] rfl rfl ?c1 ?c2 ?c3 ?c4 ?c5 ?_)
        case c1 =>
          intro j u hj
          match j, hj with
          | 0, hj => simp at hj; subst hj; exact cell_new0 _ _ _ rfl
        case c2 => intro u hu; simp at hu; subst hu; rfl
        case c3 => unfold maxLen; omega
        case c4 => omega
        case c5 => simp; omega
        intro v' w1 hown' hgrow _
        have hown2 : w1.ownsRow w.heap.size 22 1 v' (acc ++ [fld n a t]).length ((acc ++ [fld n a t]).map fun x : Nat => Value.int .u64 (x : Int)) := by
          rw [List.length_append, List.map_append]; exact hown'
        have hb2 : Below w.heap.size w w1 := ((below_drewN hbl m).alloc hsz _).grown hgrow (by simp; omega) (fun k hk => (hown.lt k hk).1)
        have hr2 : Hid ((acc ++ [fld n a t]).length = j + 1) := Lib.hid (by rw [List.length_append, hr.out]; rfl)
        clear hown' hgrow hown hbl
        go_wp2
        go_roundw
        case rel => exact ⟨j + 1, a + t, acc ++ [fld n a t], by omega, by omega, by omega, by go_num, by go_num, hN, hF, hr2, hown2, hb2⟩
        case measure => simp [intOf]; omega
    · have : j = l.length := by omega
      subst this
      have hres : Hid (sizesGo l 0 = true) := Lib.hid (by
        rw [← hp.out, List.drop_length]; rfl)
      have hf : Hid (acc = fields n l 0) := Lib.hid (by rw [← hq.out, List.drop_length]; simp [fields])
      go_wp2
      go_ret2
      refine ⟨_, fun _ => ⟨rfl, ?_⟩, fun h => absurd (hres.out.symm.trans h) (by decide), hbl⟩
      rw [← hf.out]
      rw [hr.out] at hown
      exact hown

end Go.Proofs.Ytehcfflofacapaa
