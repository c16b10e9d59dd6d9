/- Tickets, plainly. -/
import Derived.Test.YtnjpkmenahdhmaaOAw
import Derived.Test.YtnjpkmenahdhmaaQK
namespace Go.Proofs.Ytnjpkmenahdhmaa
open Go.RowKit
set_option linter.unusedVariables false
def tixRow (n : Nat) : List CallV := (List.range n).map fun (t : Nat) => (⟨(t : Int), 0, 2, 0, 0, 0⟩ : CallV)
def tixCs (n m : Nat) : List CallV := (List.replicate m (tixRow n)).flatten
theorem tixRow_len (n : Nat) : (tixRow n).length = n := by unfold tixRow; simp
theorem tixCs_succ (n m : Nat) : tixCs n (m + 1) = tixCs n m ++ tixRow n := by unfold tixCs; rw [List.replicate_succ', List.flatten_append]; simp
theorem tixCs_len (n : Nat) : ∀ m, (tixCs n m).length = m * n
  | 0 => by simp [tixCs]
  | m + 1 => by rw [tixCs_succ, List.length_append, tixCs_len n m, tixRow_len, Nat.succ_mul]
theorem tixCs_mem {n m : Nat} {x : CallV} (h : x ∈ tixCs n m) : 0 ≤ x.t ∧ x.t < n ∧ x.o = 0 ∧ x.k = 2 := by
  unfold tixCs at h
  rw [List.mem_flatten] at h
  obtain ⟨l, hl, hx⟩ := h
  rw [List.eq_of_mem_replicate hl] at hx
  unfold tixRow at hx
  obtain ⟨t, ht, rfl⟩ := List.mem_map.1 hx
  have := List.mem_range.1 ht
  exact ⟨by show (0 : Int) ≤ (t : Int); omega, by show (t : Int) < n; omega, rfl, rfl⟩
theorem tix_fold {cs : List CallV} (hcs : ∀ x ∈ cs, x.o = 0 ∧ x.k = 2) : ∀ (is : List Nat), (∀ i ∈ is, i < cs.length) → is.length < 18446744073709551616 → ∀ st : Nat, st + is.length < 18446744073709551616 → is.foldl (mStep addD cs) [st] = [st + is.length]
  | [], _, _, st, _ => rfl
  | i :: r, hi, hl, st, hst => by
    have hil := hi i List.mem_cons_self
    have hx : cs[i]? = some cs[i] := List.getElem?_eq_getElem hil
    have hc := hcs _ (List.getElem_mem hil)
    rw [List.length_cons] at hst hl
    rw [List.foldl_cons, mStep_on hx (by omega), addD_ap, if_neg (by omega), if_neg (by omega), if_pos hc.2]
    show r.foldl (mStep addD cs) [([st].getD 0 0 + 1) % 18446744073709551616] = _
    rw [show ([st].getD 0 0 + 1) % 18446744073709551616 = st + 1 from Nat.mod_eq_of_lt (by show st + 1 < _; omega)]
    rw [tix_fold hcs r (fun j hj => hi j (List.mem_cons_of_mem _ hj)) (by omega) (st + 1) (by omega), List.length_cons]
    congr 1; omega
/-- tickets come in order -/
theorem tix_evs {cs : List CallV} (hcs : ∀ x ∈ cs, x.o = 0 ∧ x.k = 2) (picks : List Int) (hp : picks.length ≤ 65536) : (endM (M := addM) cs [0] () picks).evs.length = (endM (M := addM) cs [0] () picks).ticks ∧
    ∀ (j : Nat) (x : EvR), (repOf (endM (M := addM) cs [0] () picks)).evs[j]? = some x → x.resp = j + 1 ∧ x.ans.val = j := by
  have h1 := oneI_end (M := addM) (fun s q r t => ⟨_, rfl⟩) cs [0] () picks
  have h2 := linI_end (addFirst cs) (add_ok' cs) [0] () (addI_first cs) rfl picks
  have h3 := rowI_end (M := addM) cs [0] () picks
  have h4 := endM_evs (M := addM) cs [0] () picks
  refine ⟨h1.len, fun j x hx => ?_⟩
  have hx' : ((endM (M := addM) cs [0] () picks).evs.map (evR _))[j]? = some x := hx
  rw [List.getElem?_map] at hx'
  obtain ⟨v, hv, rfl⟩ := Option.map_eq_some_iff.1 hx'
  have hr := (h1.ev j v hv).2.1
  refine ⟨hr, ?_⟩
  have hjl := (List.getElem?_eq_some_iff.1 hv).1
  have ha := (h2.done j v hv (by omega)).1
  have hil := (h3.call v (List.mem_of_getElem? hv)).1
  have hxx : cs[v.i]? = some cs[v.i] := List.getElem?_eq_getElem hil
  have hc := hcs _ (List.getElem_mem hil)
  show v.ans.val = j
  have hf : mFold addD cs (((endM (M := addM) cs [0] () picks).evs.take j).map Ev.i) = [j] := by
    unfold mFold
    have hlen : (((endM (M := addM) cs [0] () picks).evs.take j).map Ev.i).length = j := by rw [List.length_map, List.length_take]; omega
    have := tix_fold hcs (((endM (M := addM) cs [0] () picks).evs.take j).map Ev.i) (fun i hi => by
      obtain ⟨u, hu, rfl⟩ := List.mem_map.1 hi
      exact (h3.call u (List.mem_of_mem_take hu)).1) (by omega) 0 (by omega)
    rw [hlen, Nat.zero_add] at this
    exact this
  rw [ha, hf, mAns_on hxx (by omega), addD_ap, if_neg (by omega), if_neg (by omega), if_pos hc.2]
  rfl
end Go.Proofs.Ytnjpkmenahdhmaa
