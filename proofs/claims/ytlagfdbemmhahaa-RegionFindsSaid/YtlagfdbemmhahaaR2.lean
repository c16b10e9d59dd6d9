/- Walks of region: Lay, and the reference's Wrong and Begin. -/
import Derived.Test.YtlagfdbemmhahaaProg
import Derived.Test.YtlagfdbemmhahaaR
import Derived.Test.YtlagfdbemmhahaaK3
import Derived.WalkLawsBesides
namespace Go.Proofs.Ytlagfdbemmhahaa
open Go.RowKit

theorem infoI : (Try.prog.info? 3).map (fun i => (i.zero, i.size, i.bytes)) = some (some (.int .i64 0), 1, 8) := by kernel_rfl

set_option maxHeartbeats 400000 in
theorem begin_any (ao : Option Addr) (b o c : Nat) (l : List Int) (i : Nat) (w : World) (hi : i ≤ l.length) (hl : l.length ≤ 9223372036854775807) (ha : 0 < l.length → ao = some ⟨b, o, none⟩) (hc : ICells w b o l) (hg : wrongGo l 0 = 0) :
    Calls Try.prog 11 #[.slice ao l.length c, .int .i64 i] w fun e w' => e = .returned (.int .i64 (beg l i)) ∧ w = w' := by
  have HC := Lib.hid hc
  have HA := Lib.hid ha
  have HG := Lib.hid hg
  clear hc ha hg
  go_enter Try.func11, Try.ntmps11
  go_wp2
  go_loop [5, 6] (fun x k => ∃ j : Nat, j ≤ i ∧ k = .int .i64 j ∧ x = .int .i64 (beg l j)) (fun _ k => i - (intOf k).toNat)
  case atStart => exact ⟨0, Nat.zero_le _, rfl, by rw [beg_zero]⟩
  case round =>
    obtain ⟨j, hj, rfl, rfl⟩ := hrel
    by_cases hlt : j < i
    · obtain rfl := HA.out (by omega)
      obtain ⟨s, hx⟩ : ∃ x, l[j]? = some x := ⟨l[j], List.getElem?_eq_getElem (by omega)⟩
      obtain ⟨c1, _⟩ := HC.out j _ hx
      have h1 := laid_at HG.out (i := j) (by omega)
      have h2 := laid_size HG.out hx
      have HB := Lib.hid (beg_succ hx)
      clear hx
      go_wp2
      go_round
      case rel => exact ⟨j + 1, by omega, by go_num, by rw [HB.out]⟩
      case measure => simp [intOf]; omega
    · go_wp2
      go_ret
      have : j = i := by omega
      subst this
      exact ⟨rfl, rfl⟩

set_option maxHeartbeats 400000 in
theorem wrong_any (ao : Option Addr) (b o c : Nat) (l : List Int) (w : World) (hl : l.length ≤ 9223372036854775807) (ha : 0 < l.length → ao = some ⟨b, o, none⟩) (hc : ICells w b o l) :
    Calls Try.prog 10 #[.slice ao l.length c] w fun e w' => e = .returned (.int .i64 (wrongGo l 0 : Nat)) ∧ w = w' := by
  have HC := Lib.hid hc
  have HA := Lib.hid ha
  clear hc ha
  go_enter Try.func10, Try.ntmps10
  go_wp2
  go_loop [3, 4] (fun x k => ∃ (j : Nat) (e : Int), j ≤ l.length ∧ 0 ≤ e ∧ e ≤ 65536 ∧ k = .int .i64 j ∧ x = .int .i64 e ∧ Hid (wrongGo (l.drop j) e = wrongGo l 0)) (fun _ k => l.length - (intOf k).toNat)
  case atStart => exact ⟨0, 0, Nat.zero_le _, by omega, by omega, rfl, rfl, Lib.hid rfl⟩
  case round =>
    obtain ⟨j, e, hj, he0, he1, rfl, rfl, hp⟩ := hrel
    by_cases hlt : j < l.length
    · obtain rfl := HA.out (by omega)
      obtain ⟨s, hx⟩ : ∃ x, l[j]? = some x := ⟨l[j], List.getElem?_eq_getElem (by omega)⟩
      obtain ⟨c1, hs⟩ := HC.out j _ hx
      have hd := Lib.hid (drop_cons hx)
      clear hx
      by_cases h1 : s < 0
      · have hres : Hid (wrongGo l 0 = 1) := Lib.hid (by rw [← hp.out, hd.out]; exact wrongGo_arg h1)
        go_wp2
        go_ret
        rw [hres.out]
        exact ⟨rfl, rfl⟩
      · by_cases h2 : 65536 - e < s
        · have hres : Hid (wrongGo l 0 = 3) := Lib.hid (by rw [← hp.out, hd.out]; exact wrongGo_long (by omega) h2)
          go_wp2
          go_ret
          rw [hres.out]
          exact ⟨rfl, rfl⟩
        · have hN : Hid (wrongGo (l.drop (j + 1)) (e + s) = wrongGo l 0) := Lib.hid (by rw [← hp.out, hd.out, wrongGo_next (by omega) (by omega)])
          go_wp2
          go_round
          case rel => exact ⟨j + 1, e + s, by omega, by omega, by omega, by go_num, rfl, hN⟩
          case measure => simp [intOf]; omega
    · have : j = l.length := by omega
      subst this
      have hres : Hid (wrongGo l 0 = 0) := Lib.hid (by rw [← hp.out, List.drop_length]; rfl)
      go_wp2
      go_ret
      rw [hres.out]
      exact ⟨rfl, rfl⟩

/-- what Lay gives -/
def LayPost (l : List Int) (w : World) (e : Ending) (w' : World) : Prop :=
  ∃ v, (wrongGo l 0 = 0 → e = .returned (.tuple #[v, .int .i64 (beg l l.length), .int .i64 0]) ∧ w'.ownsRow w.heap.size 3 1 v l.length (bgs l l.length)) ∧
    (wrongGo l 0 ≠ 0 → e = .returned (.tuple #[.slice none 0 0, .int .i64 0, .int .i64 (wrongGo l 0 : Nat)])) ∧ Below w.heap.size w w'

set_option maxHeartbeats 400000 in
theorem lay_any (ao : Option Addr) (b o c : Nat) (l : List Int) (w : World) (hl : l.length ≤ 4294967296) (ha : 0 < l.length → ao = some ⟨b, o, none⟩) (hb : 0 < l.length → b < w.heap.size) (hc : ICells w b o l) :
    Calls Try.prog 9 #[.slice ao l.length c] w (LayPost l w) := by
  obtain ⟨iI, ia, ib, ic, id⟩ := info_parts infoI
  have HC := Lib.hid hc
  have HA := Lib.hid ha
  have HB := Lib.hid hb
  clear hc ha hb
  go_enter Try.func9, Try.ntmps9
  go_wp2
  go_loopw [5, 6, 11] (fun v x k wr => ∃ (j : Nat), j ≤ l.length ∧ 0 ≤ beg l j ∧ beg l j ≤ 65536 ∧ k = .int .i64 j ∧ x = .int .i64 (beg l j) ∧ Hid (wrongGo (l.drop j) (beg l j) = wrongGo l 0) ∧
     wr.ownsRow w.heap.size 3 1 v j (bgs l j) ∧ Below w.heap.size w wr) (fun _ _ k _ => l.length - (intOf k).toNat)
  case atStart => exact ⟨0, Nat.zero_le _, by rw [beg_zero]; omega, by rw [beg_zero]; omega, rfl, rfl, Lib.hid rfl, World.ownsRow_nil _ _ _ _, Below.refl _ _⟩
  case round =>
    obtain ⟨j, hj, he0, he1, rfl, rfl, hp, hown, hbl⟩ := hrel
    have hsz := hbl.size
    by_cases hlt : j < l.length
    · obtain rfl := HA.out (by omega)
      obtain ⟨s, hx⟩ : ∃ x, l[j]? = some x := ⟨l[j], List.getElem?_eq_getElem (by omega)⟩
      obtain ⟨c1, hs⟩ := HC.out.stays hbl HB.out j _ hx
      have hd := Lib.hid (drop_cons hx)
      have hsc := Lib.hid (beg_succ hx)
      clear hx
      by_cases h1 : s < 0
      · have hres : Hid (wrongGo l 0 = 1) := Lib.hid (by rw [← hp.out, hd.out]; exact wrongGo_arg h1)
        go_wp2
        go_ret3
        exact ⟨.slice none 0 0, fun h => absurd (hres.out.symm.trans h) (by decide), fun _ => by rw [hres.out]; rfl, hbl⟩
      · by_cases h2 : 65536 - beg l j < s
        · have hres : Hid (wrongGo l 0 = 3) := Lib.hid (by rw [← hp.out, hd.out]; exact wrongGo_long (by omega) h2)
          go_wp2
          go_ret3
          exact ⟨.slice none 0 0, fun h => absurd (hres.out.symm.trans h) (by decide), fun _ => by rw [hres.out]; rfl, hbl⟩
        · have hN : Hid (wrongGo (l.drop (j + 1)) (beg l (j + 1)) = wrongGo l 0) := Lib.hid (by rw [← hp.out, hd.out, wrongGo_next (by omega) (by omega), hsc.out])
          have hj' : j ≤ 4294967296 := by omega
          have e1 : 0 ≤ beg l (j + 1) ∧ beg l (j + 1) ≤ 65536 := by rw [hsc.out]; omega
          go_wp2_with (at_builtin; refine append_new rfl _ _ 22 rfl w.heap.size 3 iI (.int .i64 0) 1 8 Try.underlying22 ia ib ic id rfl (by decide) (by decide) _ j _ rfl hown [.int .i64 (beg l j)] rfl rfl rfl hj' hsz ?_)
          intro v1 w1 hown1 hbl1 _ _
          have hown1' : w1.ownsRow w.heap.size 3 1 v1 (j + 1) (bgs l (j + 1)) := by rw [bgs_succ]; exact hown1
          have hb2 := hbl.trans hbl1
          clear hown1 hown hbl hbl1 c1
          go_wp2
          go_roundw
          case rel => exact ⟨j + 1, by omega, e1.1, e1.2, by go_num, by rw [hsc.out], hN, hown1', hb2⟩
          case measure => simp [intOf]; omega
    · have : j = l.length := by omega
      subst this
      have hres : Hid (wrongGo l 0 = 0) := Lib.hid (by rw [← hp.out, List.drop_length]; rfl)
      go_wp2
      go_ret3
      exact ⟨_, fun _ => ⟨rfl, hown⟩, fun h => absurd hres.out h, hbl⟩
end Go.Proofs.Ytlagfdbemmhahaa
