/- Over any program: append of a slice onto a row of the call's own; rows of other types stay. -/
import Derived.Test.YticaheiomidanaaKB
import Derived.Laws.AppendOwnNone
namespace Go.Proofs.Yticaheiomidanaa
open Go.ChangeShapes Go.WideShapes Go.ChangeAt Go.RowKit

theorem append_slice {P : Program} {w : World} {ops : Array Oper} {rest : List Oper} {o : Oper} {a : Act} {Q : Exit → Act → World → Prop} (hgd : o.guard = none) (s x : Operand) (t : TypeId)
    (ho : o.op = .call { callee := .builtin .append, args := #[s, x], argTypes := #[t, t] })
    (base : Nat) (e : TypeId) (i : TypeInfo) (z : Value) (bytes : Nat) (ht : P.underlying t = some (.slice e)) (hi : P.info? e = some i) (hz : i.zero = some z)
    (hsize : i.size = 1) (hby : i.bytes = bytes) (hzs : z.cells.size = 1) (hbs : bytes ≤ 4096)
    (v : Value) (n : Nat) (xs : List Value) (hs : a.eval s = v) (hown : w.ownsRow base e 1 v n xs) (ao : Option Addr) (b off cap m : Nat) (us : List Value) (hx : a.eval x = .slice ao m cap) (hn : us.length = m)
    (ha : 0 < m → ao = some ⟨b, off, none⟩) (hcap : ao = none → cap = 0) (hc : ∀ (j : Nat) (u : Value), us[j]? = some u → w.cell? ⟨b, off + j, none⟩ = some u) (h1 : us.all (fun u => u.oneCell') = true) (hle : n + m ≤ 4294967296) (hbase : base ≤ w.heap.size)
    (h : ∀ v' w', w'.ownsRow base e 1 v' (n + m) (xs ++ us) → Below base w w' → Keeps e w w' → wpList P ops Q rest (a.put o.dst v') w') : wpList P ops Q (o :: rest) a w := by
  cases ao with
  | none =>
    have hm0 : m = 0 := by
      cases m with
      | zero => rfl
      | succ m => exact absurd (ha (by omega)) (by simp)
    subst hm0
    obtain rfl : cap = 0 := hcap rfl
    obtain rfl : us = [] := List.length_eq_zero_iff.1 hn
    refine wpList_append_own_none hgd s x t ho base e i 1 ht hi v n xs hs hown hx ?_
    exact h _ _ (by simpa using hown) (Below.refl _ _) (Keeps.refl _ _)
  | some ad =>
    refine wpList_append_own _ hgd s x t ho base e i z 1 bytes ht hi hz hsize hby hzs (by decide) v n xs hs hown ad m cap us hx (by rw [hn, Nat.mul_one]) ?_ (by simpa using h1) (by unfold maxLen; omega) ?_ hbase ?_
    · intro j u hj
      have hl : 0 < m := by have := (List.getElem?_eq_some_iff.1 hj).1; omega
      obtain rfl := Option.some.inj (ha hl)
      rw [addr_add _ j b off rfl]
      exact hc j u hj
    · have : (n + m) * bytes ≤ 4294967296 * 4096 := Nat.mul_le_mul (by omega) hbs
      omega
    · intro v' w' ho2 hg hnn
      refine h v' w' ho2 ((Below.refl _ _).grown hg hbase (fun k hk => (hown.lt k hk).1)) ?_
      intro B e2 s2 n2 v2 xs2 he2 ho3
      exact ho3.kept hg (owns_apart ho3 hown he2)
end Go.Proofs.Yticaheiomidanaa
