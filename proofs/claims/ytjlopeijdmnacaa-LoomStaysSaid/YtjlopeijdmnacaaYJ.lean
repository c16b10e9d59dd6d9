/- Opening: a slice's room; the law LoomStays whole. -/
import Derived.Test.YtjlopeijdmnacaaYI
import Derived.Test.YtjlopeijdmnacaaUO
namespace Go.Proofs.Ytjlopeijdmnacaa
open Go.ChangeShapes Go.WideShapes Go.ChangeAt Go.RowKit

theorem slice_room {H : Type} {enc : TypeId × Value → H} {P : Program} {w : World} {base : Nat} {spare : Nat → Bool} {held : Bool} {fuel : Nat} {t e : TypeId} {ao : Option Addr} {n cap : Nat} {x : DataW H × List MemPlace} (ht : P.underlying t = some (.slice e))
    (h : DataW.trod enc P w base spare held fuel t [.slice ao n cap] = some x) : n ≤ cap := by
  rcases Go.Deep.open_slice ht h with ⟨h1, _⟩ | ⟨a, len, cap', m, n', D, Pl, h1, _, hl, hc, _⟩
  · simp at h1; omega
  · simp at h1
    obtain ⟨_, rfl, rfl⟩ := h1
    omega

theorem lstays_all (q0 q1 q2 : Int) (ao : Option Addr) (b o cap : Nat) (cs : List CallV) (ao3 : Option Addr) (b3 o3 cap3 : Nat) (ps : List Int) (w : World) (hpm : ps.length ≤ 9223372036854775807)
    (ha : 0 < cs.length → ao = some ⟨b, o, none⟩) (hb : 0 < cs.length → b < w.heap.size) (hc : CallsAt w b o cs) (hcap : ao = none → cap = 0)
    (ha3 : 0 < ps.length → ao3 = some ⟨b3, o3, none⟩) (hb3 : 0 < ps.length → b3 < w.heap.size) (hc3 : ICells w b3 o3 ps) (hcap3 : ps.length ≤ cap3) (hn3 : ao3 = none → cap3 = 0) :
    Calls Try.prog 7 #[.agg #[.int .i64 q0, .int .i64 q1, .int .i64 q2], .slice ao cs.length cap, .slice ao3 ps.length cap3] w fun e w' => e = .returned (.bool true) ∧ Below w.heap.size w w' := by
  by_cases hl : longB cs.length ps.length
  · exact stays_long _ _ _ _ _ _ _ _ _ w (by omega) hl
  · by_cases hq : q2 < 0 ∨ (ps.length : Int) < q2
    · exact stays_off _ _ _ _ _ _ _ _ _ w (by omega) hl hq
    · obtain ⟨k, rfl⟩ : ∃ k : Nat, q2 = (k : Int) := ⟨q2.toNat, by omega⟩
      have hk : k ≤ ps.length := by omega
      by_cases hne : 0 < ps.length
      · obtain rfl := ha3 hne
        by_cases hf : cellsErr q0 q1 cs ps.length = 0
        · exact stays_good q0 q1 k ao b o cap cs b3 o3 cap3 none ps w hl hk hpm ha hb hc hcap (fun _ => rfl) hb3 hc3 hcap3 hf
        · exact stays_bad q0 q1 k ao b o cap cs b3 o3 cap3 none ps w hl hk hpm ha hb hc hcap (fun _ => rfl) hb3 hc3 hcap3 hf
      · have hp0 : ps = [] := List.eq_nil_of_length_eq_zero (by omega)
        subst hp0
        cases ao3 with
        | none =>
          obtain rfl : k = 0 := by simpa using hk
          obtain rfl : cap3 = 0 := hn3 rfl
          by_cases hf : cellsErr q0 q1 cs 0 = 0
          · exact stays_good_nil q0 q1 ao b o cap cs w hl ha hb hc hcap hf
          · exact stays_bad_nil q0 q1 ao b o cap cs w hl ha hb hc hcap hf
        | some ad =>
          obtain ⟨b', o', s'⟩ := ad
          by_cases hf : cellsErr q0 q1 cs ([] : List Int).length = 0
          · exact stays_good q0 q1 k ao b o cap cs b' o' cap3 s' [] w hl hk hpm ha hb hc hcap (fun h => absurd h (by simp)) (fun h => absurd h (by simp)) (fun i x h => by simp at h) hcap3 hf
          · exact stays_bad q0 q1 k ao b o cap cs b' o' cap3 s' [] w hl hk hpm ha hb hc hcap (fun h => absurd h (by simp)) (fun h => absurd h (by simp)) (fun i x h => by simp at h) hcap3 hf
end Go.Proofs.Ytjlopeijdmnacaa
