/- Rows, plainly; walk of within. -/
import Derived.Test.YtglpalomhhhmhaaZE
namespace Go.Proofs.Ytglpalomhhhmhaa
open Go.RowKit
set_option linter.unusedVariables false

def thOf (cs : List CallV) (x : EvR) : Nat := match cs[x.i]? with | some y => y.t.toNat | none => 0
def lastZ (x : EvR) : Int := if x.resp = 0 then -1 else x.resp
def lastL (cs : List CallV) (n : Nat) (evs : List EvR) : List Int := evs.foldl (fun l x => l.set (thOf cs x) (lastZ x)) (List.replicate n 0)
def callL (cs : List CallV) (n : Nat) (evs : List EvR) : List Int := evs.foldl (fun l x => l.set (thOf cs x) ((x.i : Int) + 1)) (List.replicate n 0)
def stepsL (evs : List EvR) : Nat := (evs.map EvR.steps).sum
theorem foldl_set_len {α : Type} (f : α → Nat) (g : α → Int) : ∀ (l : List α) (z : List Int), (l.foldl (fun l x => l.set (f x) (g x)) z).length = z.length
  | [], _ => rfl
  | x :: r, z => by rw [List.foldl_cons, foldl_set_len f g r, List.length_set]
theorem lastL_len (cs : List CallV) (n : Nat) (evs : List EvR) : (lastL cs n evs).length = n := by unfold lastL; rw [foldl_set_len, List.length_replicate]
theorem callL_len (cs : List CallV) (n : Nat) (evs : List EvR) : (callL cs n evs).length = n := by unfold callL; rw [foldl_set_len, List.length_replicate]
theorem lastL_snoc {cs : List CallV} {n : Nat} {evs : List EvR} {j : Nat} {x : EvR} (h : evs[j]? = some x) : lastL cs n (evs.take (j + 1)) = (lastL cs n (evs.take j)).set (thOf cs x) (lastZ x) := by
  unfold lastL; rw [take_snoc h, List.foldl_append]; rfl
theorem callL_snoc {cs : List CallV} {n : Nat} {evs : List EvR} {j : Nat} {x : EvR} (h : evs[j]? = some x) : callL cs n (evs.take (j + 1)) = (callL cs n (evs.take j)).set (thOf cs x) ((x.i : Int) + 1) := by
  unfold callL; rw [take_snoc h, List.foldl_append]; rfl
theorem stepsL_snoc {evs : List EvR} {j : Nat} {x : EvR} (h : evs[j]? = some x) : stepsL (evs.take (j + 1)) = stepsL (evs.take j) + x.steps := by
  unfold stepsL; rw [take_snoc h, List.map_append, List.sum_append]; simp

/-- a key lies between two ticks -/
def withinL (k : List Nat) (a b : Nat) : Prop := ∃ x r, k = x :: r ∧ a ≤ x / 2 ∧ (x + 1) / 2 ≤ b
structure RowE (cs : List CallV) (n : Nat) (r : RepR) (j : Nat) (x : EvR) : Prop where
  call : ∃ y, cs[x.i]? = some y ∧ 0 ≤ y.t ∧ y.t < n
  inv1 : 1 ≤ x.inv
  st1 : 1 ≤ x.steps
  invT : x.inv ≤ r.ticks
  prev : ∀ z, r.evs[j - 1]? = some z → 0 < j → z.inv < x.inv
  last : ∃ l : Int, (lastL cs n (r.evs.take j))[thOf cs x]? = some l ∧ 0 ≤ l ∧ l < x.inv
  cal : ∃ c : Int, (callL cs n (r.evs.take j))[thOf cs x]? = some c ∧ c ≤ x.i ∧ 0 ≤ c
  done : ¬ x.resp = 0 → x.inv ≤ x.resp ∧ x.resp ≤ r.ticks ∧ x.steps + x.inv ≤ x.resp + 1 ∧ withinL x.key x.inv x.resp
  pend : x.resp = 0 → x.key = [] ∨ withinL x.key x.inv r.ticks
structure RowsOk (cs : List CallV) (n : Nat) (r : RepR) : Prop where
  n1 : 1 ≤ n ∧ n ≤ 16
  ev : ∀ (j : Nat) (x : EvR), r.evs[j]? = some x → RowE cs n r j x
  sum : stepsL r.evs = r.ticks
  cn : r.cn.r + r.cn.w + r.cn.s + r.cn.a ≤ r.ticks ∧ r.cn.f = 0
  tl : r.ticks ≤ 70000

end Go.Proofs.Ytglpalomhhhmhaa
