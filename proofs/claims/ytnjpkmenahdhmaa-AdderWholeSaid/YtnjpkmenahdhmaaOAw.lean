/- The adder, one by one, plainly. -/
import Derived.Test.YtnjpkmenahdhmaaO9
import Derived.Test.YtnjpkmenahdhmaaQJ
namespace Go.Proofs.Ytnjpkmenahdhmaa
open Go.RowKit
set_option linter.unusedVariables false
def addD : Mod := ⟨[0], fun st x => if x.k = 0 then ([(st.getD 0 0 + x.a) % 18446744073709551616], ⟨0, st.getD 0 0, []⟩) else if x.k = 1 then (st, ⟨0, st.getD 0 0, []⟩) else if x.k = 2 then ([(st.getD 0 0 + 1) % 18446744073709551616], ⟨0, st.getD 0 0, []⟩) else (st, ⟨9, 0, []⟩)⟩
theorem addD_ap (st : List Nat) (x : CallV) : addD.ap st x = if x.k = 0 then ([(st.getD 0 0 + x.a) % 18446744073709551616], ⟨0, st.getD 0 0, []⟩) else if x.k = 1 then (st, ⟨0, st.getD 0 0, []⟩) else if x.k = 2 then ([(st.getD 0 0 + 1) % 18446744073709551616], ⟨0, st.getD 0 0, []⟩) else (st, ⟨9, 0, []⟩) := rfl
theorem one_word {l : List Nat} (h : l.length = 1) : ∃ y, l = [y] := by
  match l, h with
  | [y], _ => exact ⟨y, rfl⟩
theorem addFirst (cs : List CallV) : FirstM (M := addM) addD cs AddI (fun _ _ _ _ _ => False) where
  key := fun _ _ _ _ _ h => h.elim
  first := fun st i x t hI hx ht => by
    obtain ⟨y, hy⟩ := one_word (show st.ws.length = 1 from hI)
    have hm : (addM.m : Int) = 1 := rfl
    by_cases ho : x.o < 0 ∨ 1 ≤ x.o
    · have e : invQ (M := addM) st.s x = (st.s, .inr 12) := by unfold invQ; rw [if_pos (by rw [hm]; exact ho)]
      rw [e, mStep_off hx ho, mAns_off hx ho]
      exact ⟨rfl, fun a h => ⟨(Option.some.inj h).symm, rfl⟩, fun h => (by cases h), fun _ _ _ h => h.elim⟩
    · have e : invQ (M := addM) st.s x = addM.inv st.s x := by unfold invQ; rw [if_neg (by rw [hm]; exact ho)]
      rw [e, add_inv_eq, mStep_on hx ho, mAns_on hx ho, addD_ap, hy]
      by_cases k0 : x.k = 0
      · rw [if_pos k0, if_pos k0]
        exact ⟨rfl, fun a h => ⟨(Option.some.inj h).symm, rfl⟩, fun h => (by cases h), fun _ _ _ h => h.elim⟩
      · by_cases k1 : x.k = 1
        · rw [if_neg k0, if_neg k0, if_pos k1, if_pos k1]
          exact ⟨rfl, fun a h => ⟨(Option.some.inj h).symm, rfl⟩, fun h => (by cases h), fun _ _ _ h => h.elim⟩
        · by_cases k2 : x.k = 2
          · rw [if_neg k0, if_neg k0, if_neg k1, if_neg k1, if_pos k2, if_pos k2]
            exact ⟨rfl, fun a h => ⟨(Option.some.inj h).symm, rfl⟩, fun h => (by cases h), fun _ _ _ h => h.elim⟩
          · rw [if_neg k0, if_neg k0, if_neg k1, if_neg k1, if_neg k2, if_neg k2]
            exact ⟨rfl, fun a h => ⟨(Option.some.inj h).symm, rfl⟩, fun h => (by cases h), fun _ _ _ h => h.elim⟩
  more := fun _ _ _ _ _ _ h _ => h.elim
theorem add_wrong (cs : List CallV) (picks : List Int) : WrongOk addD cs (repOf (endM (M := addM) cs [0] () picks)).evs :=
  linI_wrong (addFirst cs) (linI_end (addFirst cs) (add_ok' cs) [0] () (addI_first cs) rfl picks) (rowI_end cs _ _ picks)
theorem add_in (cs : List CallV) (picks : List Int) : KeysIn (endM (M := addM) cs [0] () picks) :=
  linI_in (addFirst cs) (linI_end (addFirst cs) (add_ok' cs) [0] () (addI_first cs) rfl picks) (rowI_end cs _ _ picks)
end Go.Proofs.Ytnjpkmenahdhmaa
