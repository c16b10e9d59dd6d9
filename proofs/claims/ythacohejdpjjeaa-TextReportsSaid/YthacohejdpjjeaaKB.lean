/- Over any program: append of elements that were just laid side by side onto a row of the call's own; rows of other types stay. -/
import Derived.Test.YthacohejdpjjeaaK3
import Derived.Test.YthacohejdpjjeaaK
namespace Go.Proofs.Ythacohejdpjjeaa
open Go.ChangeShapes Go.WideShapes Go.ChangeAt Go.RowKit

theorem Keeps.refl (e : TypeId) (w : World) : Keeps e w w := fun _ _ _ _ _ _ _ h => h
theorem Keeps.trans {e : TypeId} {a b c : World} (h : Keeps e a b) (k : Keeps e b c) : Keeps e a c := fun B e2 s n v xs he ho => k B e2 s n v xs he (h B e2 s n v xs he ho)
theorem Keeps.drewN (e : TypeId) (w : World) (n : Nat) : Keeps e w (w.drewN n) := fun _ _ _ _ _ _ _ h => h
theorem Keeps.alloc (e : TypeId) (w : World) (o : Obj) : Keeps e w (w.alloc o) := fun _ _ _ _ _ _ _ h => h.alloc o

theorem append_laid {P : Program} {w : World} {ops : Array Oper} {rest : List Oper} {o : Oper} {a : Act} {Q : Exit → Act → World → Prop} (hgd : o.guard = none) (s x : Operand) (t : TypeId)
    (ho : o.op = .call { callee := .builtin .append, args := #[s, x], argTypes := #[t, t] })
    (base : Nat) (e : TypeId) (i : TypeInfo) (z : Value) (size bytes : Nat) (ht : P.underlying t = some (.slice e)) (hi : P.info? e = some i) (hz : i.zero = some z)
    (hsize : i.size = size) (hby : i.bytes = bytes) (hzs : z.cells.size = size) (hsz : 0 < size) (hbs : bytes ≤ 4096)
    (v : Value) (n : Nat) (xs : List Value) (hs : a.eval s = v) (hown : w.ownsRow base e size v n xs)
    (m : Nat) (_hm : 0 < m) (us : List Value) (hx : a.eval x = .slice (some ⟨w.heap.size, 0, none⟩) m m) (hl : us.length = m * size) (h1 : us.all (fun u => u.oneCell') = true)
    (hn : n + m ≤ 4294967296) (hbase : base ≤ w.heap.size)
    (h : ∀ v' w', w'.ownsRow base e size v' (n + m) (xs ++ us) → Below base w w' → Keeps e w w' → wpList P ops Q rest (a.put o.dst v') w') : wpList P ops Q (o :: rest) a (w.alloc (.cells us.toArray e)) := by
  refine wpList_append_own _ hgd s x t ho base e i z size bytes ht hi hz hsize hby hzs hsz v n xs hs (hown.alloc _) ⟨w.heap.size, 0, none⟩ m m us hx hl ?_ (by simpa using h1) (by unfold maxLen; omega) ?_ (by simp; omega) ?_
  · intro j u hj
    rw [addr_add _ j w.heap.size 0 rfl, World.cell?_alloc_at _ _ _ _ rfl]
    simpa using hj
  · have : (n + m) * bytes ≤ 4294967296 * 4096 := Nat.mul_le_mul hn hbs
    omega
  · intro v' w' h2 h3 h4
    refine h v' w' h2 (((Below.refl _ _).alloc hbase _).grown h3 (by simp; omega) (fun k hk => (hown.lt k hk).1)) ?_
    intro B e2 s2 n2 v2 xs2 he2 ho2
    exact (ho2.alloc _).kept h3 (owns_apart ho2 hown he2)
end Go.Proofs.Ythacohejdpjjeaa
