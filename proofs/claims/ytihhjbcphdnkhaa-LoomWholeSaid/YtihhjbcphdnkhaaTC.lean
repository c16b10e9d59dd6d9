/- Cells, one by one, plainly. -/
import Derived.Test.YtihhjbcphdnkhaaO6
import Derived.Test.YtihhjbcphdnkhaaQJ
import Derived.Test.YtihhjbcphdnkhaaQK
namespace Go.Proofs.Ytihhjbcphdnkhaa
open Go.RowKit
set_option linter.unusedVariables false
theorem run_ind (a : Acc) (l : List Nat) (c c' : Cn) : (a.run l c).1 = (a.run l c').1 ∧ (a.run l c).2.1 = (a.run l c').2.1 := by
  cases a with
  | rd a => exact ⟨rfl, rfl⟩
  | wr a v => exact ⟨rfl, rfl⟩
  | sw a x y => simp only [Acc.run]; split <;> exact ⟨rfl, rfl⟩
  | ad a d => exact ⟨rfl, rfl⟩
def cQ (x : CallV) : CellQ := ⟨x.k.toNat, x.a, x.b, x.c⟩
def cellD (size : Nat) : Mod := ⟨List.replicate size 0, fun st x => if x.k < 0 ∨ 3 < x.k then (st, ⟨9, 0, []⟩) else if size ≤ x.a then (st, ⟨10, 0, []⟩) else (((cellAcc (cQ x)).run st ⟨0, 0, 0, 0, 0⟩).2.1, ⟨0, ((cellAcc (cQ x)).run st ⟨0, 0, 0, 0, 0⟩).1, []⟩)⟩
theorem cellD_ap (size : Nat) (st : List Nat) (x : CallV) : (cellD size).ap st x = if x.k < 0 ∨ 3 < x.k then (st, ⟨9, 0, []⟩) else if size ≤ x.a then (st, ⟨10, 0, []⟩) else (((cellAcc (cQ x)).run st ⟨0, 0, 0, 0, 0⟩).2.1, ⟨0, ((cellAcc (cQ x)).run st ⟨0, 0, 0, 0, 0⟩).1, []⟩) := rfl
theorem cellFirst (size : Nat) (cs : List CallV) : FirstM (M := cellsM size) (cellD size) cs (fun st => st.ws.length = size) (fun _ _ _ _ _ => False) where
  key := fun _ _ _ _ _ h => h.elim
  first := fun st i x t hI hx ht => by
    have hm : ((cellsM size).m : Int) = 1 := rfl
    by_cases ho : x.o < 0 ∨ 1 ≤ x.o
    · have e : invQ (M := cellsM size) st.s x = (st.s, .inr 12) := by unfold invQ; rw [if_pos (by rw [hm]; exact ho)]
      rw [e, mStep_off hx ho, mAns_off hx ho]
      exact ⟨rfl, fun a h => ⟨(Option.some.inj h).symm, rfl⟩, fun h => (by cases h), fun _ _ _ h => h.elim⟩
    · have e : invQ (M := cellsM size) st.s x = (cellsM size).inv st.s x := by unfold invQ; rw [if_neg (by rw [hm]; exact ho)]
      rw [e, cells_inv_eq, mStep_on hx ho, mAns_on hx ho, cellD_ap]
      by_cases k0 : x.k < 0 ∨ 3 < x.k
      · rw [if_pos k0, if_pos k0]
        exact ⟨rfl, fun a h => ⟨(Option.some.inj h).symm, rfl⟩, fun h => (by cases h), fun _ _ _ h => h.elim⟩
      · rw [if_neg k0, if_neg k0]
        by_cases k1 : size ≤ x.a
        · rw [if_pos k1, if_pos k1]
          exact ⟨rfl, fun a h => ⟨(Option.some.inj h).symm, rfl⟩, fun h => (by cases h), fun _ _ _ h => h.elim⟩
        · rw [if_neg k1, if_neg k1]
          obtain ⟨r1, r2⟩ := run_ind (cellAcc (cQ x)) st.ws st.cn ⟨0, 0, 0, 0, 0⟩
          refine ⟨r2, fun a h => ⟨?_, rfl⟩, fun h => (by cases h), fun _ _ _ h => h.elim⟩
          have h' : some (⟨0, ((cellAcc (cQ x)).run st.ws st.cn).1, []⟩ : Ans) = some a := h
          rw [← Option.some.inj h', r1]
  more := fun _ _ _ _ _ _ h _ => h.elim
/-- what the law asks, plainly -/
structure LoomW (size : Nat) (cs : List CallV) (R : RepR) : Prop where
  ord : ordP R.evs R.evs.length = List.range R.evs.length
  call : ∀ (j : Nat) (x : EvR), R.evs[j]? = some x → x.i < cs.length
  ans : ∀ (j : Nat) (x : EvR), R.evs[j]? = some x → x.ans = mAns (cellD size) cs (mFold (cellD size) cs ((R.evs.take j).map EvR.i)) x.i
  ws : mFold (cellD size) cs (R.evs.map EvR.i) = R.ws
theorem loomW_end (size : Nat) (cs : List CallV) (h64 : size ≤ 64) (picks : List Int) : LoomW size cs (repOf (endM (M := cellsM size) cs (List.replicate size 0) () picks)) := by
  have hL := linI_end (cellFirst size cs) (cells_ok size cs h64) (List.replicate size 0) () (by show (List.replicate size 0).length = size; simp) rfl picks
  have hR := rowI_end (M := cellsM size) cs (List.replicate size 0) () picks
  have hO := oneI_end (M := cellsM size) (fun s q r t => ⟨_, rfl⟩) cs (List.replicate size 0) () picks
  generalize endM (M := cellsM size) cs (List.replicate size 0) () picks = st at *
  have hget : ∀ (j : Nat) (x : EvR), (repOf st).evs[j]? = some x → ∃ v, st.evs[j]? = some v ∧ x = evR st.s v := fun j x hx => by
    have hx' : (st.evs.map (evR st.s))[j]? = some x := hx
    rw [List.getElem?_map] at hx'
    obtain ⟨v, hv, rfl⟩ := Option.map_eq_some_iff.1 hx'
    exact ⟨v, hv, rfl⟩
  refine ⟨ord_range (linI_keys (cellFirst size cs) hL) (fun i j x y hij hx hy => ?_) _ (Nat.le_refl _), fun j x hx => ?_, fun j x hx => ?_, ?_⟩
  · obtain ⟨u, hu, rfl⟩ := hget i x hx
    obtain ⟨v, hv, rfl⟩ := hget j y hy
    exact hR.grow i j u v hij hu hv
  · obtain ⟨v, hv, rfl⟩ := hget j x hx
    exact (hR.call v (List.mem_of_getElem? hv)).1
  · obtain ⟨v, hv, rfl⟩ := hget j x hx
    have hr : ¬ v.resp = 0 := by have := (hO.ev j v hv).2.1; omega
    have := (hL.done j v hv hr).1
    show v.ans = mAns (cellD size) cs (mFold (cellD size) cs ((((st.evs.map (evR st.s))).take j).map EvR.i)) v.i
    rw [← List.map_take, List.map_map]
    exact this
  · show mFold (cellD size) cs ((st.evs.map (evR st.s)).map EvR.i) = st.ws
    rw [List.map_map]
    exact hL.fold
end Go.Proofs.Ytihhjbcphdnkhaa
