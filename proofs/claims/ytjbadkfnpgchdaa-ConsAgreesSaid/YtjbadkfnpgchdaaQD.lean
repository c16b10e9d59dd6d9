/- The law ConsAgrees, for all its inputs. -/
import Derived.Test.YtjbadkfnpgchdaaQB
import Derived.Test.YtjbadkfnpgchdaaQC
namespace Go.Proofs.Ytjbadkfnpgchdaa
open Go.RowKit

theorem cons_agreed (cs : List CallV) (picks : List Int) : Agreed cs (repOf (endM (M := consM) cs [0] () picks)).evs ((endM (M := consM) cs [0] () picks).ws.getD 0 0 - 1) := by
  have h := consP_end cs picks
  have hmem : ∀ x ∈ (repOf (endM (M := consM) cs [0] () picks)).evs, ∃ v ∈ (endM (M := consM) cs [0] () picks).evs, x = evR (endM (M := consM) cs [0] () picks).s v := fun x hx => by
    obtain ⟨v, hv, rfl⟩ := List.mem_map.1 hx
    exact ⟨v, hv, rfl⟩
  refine ⟨fun x hx => ?_, fun x hx hg => ?_, fun ⟨x, hx, hg⟩ => ?_⟩
  · obtain ⟨v, hv, rfl⟩ := hmem x hx
    obtain ⟨y, hy, _⟩ := (h.ev v hv).call
    exact ⟨(List.getElem?_eq_some_iff.1 hy).1, (h.ev v hv).steps⟩
  · obtain ⟨v, hv, rfl⟩ := hmem x hx
    have := (h.ev v hv).good hg.1 hg.2
    show v.ans.val = _
    omega
  · obtain ⟨v, hv, rfl⟩ := hmem x hx
    have hw := ((h.ev v hv).good hg.1 hg.2).1
    obtain ⟨k, u, y, h1, h2, h3, h4, h5⟩ := h.prop hw
    refine ⟨k, evR (endM (M := consM) cs [0] () picks).s u, y, ?_, h2, h3, h4, by omega⟩
    show ((endM (M := consM) cs [0] () picks).evs.map _)[k]? = _
    rw [List.getElem?_map, h1]; rfl
theorem play_len {n : Int} {cs : List CallV} {np er : Nat} (h : playErr n cs np er = 0) : np ≤ 65536 := by
  unfold playErr at h
  split at h
  · next h1 => exact absurd h h1
  · next h1 => exact (check_zero (by simpa using h1)).2

theorem agrees_all (n : Int) (ao : Option Addr) (b o cap : Nat) (cs : List CallV) (ao3 : Option Addr) (b3 o3 cap3 : Nat) (picks : List Int) (w : World) (ha : 0 < cs.length → ao = some ⟨b, o, none⟩) (hb : 0 < cs.length → b < w.heap.size) (hc : CallsAt w b o cs) (hcap : ao = none → cap = 0)
    (ha3 : 0 < picks.length → ao3 = some ⟨b3, o3, none⟩) (hb3 : 0 < picks.length → b3 < w.heap.size) (hc3 : ICells w b3 o3 picks) (hnp : picks.length ≤ 9223372036854775807) (hcl : cs.length ≤ 9223372036854775807) :
    Calls Try.prog 5 #[.int .i64 n, .slice ao cs.length cap, .slice ao3 picks.length cap3] w fun e w' => e = .returned (.bool true) ∧ Below w.heap.size w w' := by
  by_cases hl : longB cs.length picks.length
  · exact agrees_long n ao ao3 cs.length cap picks.length cap3 w hnp hl
  · by_cases he : playErr n cs picks.length 0 = 0
    · refine agrees_good n ao b o cap cs ao3 b3 o3 cap3 picks w hl ha hb hc hcap ha3 hb3 hc3 hnp hcl he _ (cons_agreed cs picks) ?_
      show ((endM (M := consM) cs [0] () picks).evs.map _).length ≤ _
      rw [List.length_map]
      have h1 := endM_evs (M := consM) cs [0] () picks
      have h2 := play_len he
      omega
    · exact agrees_bad n ao b o cap cs ao3 b3 o3 cap3 picks w hl ha hb hc hcap ha3 hb3 hc3 hnp he
end Go.Proofs.Ytjbadkfnpgchdaa
