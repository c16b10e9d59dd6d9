/- Over any program: append of one element that lies in a block made for it, onto a slice of the call's own: what comes of it, in one word for each thing that a walk wants. -/
import Derived.Test.YtglpalomhhhmhaaK2
import Derived.WalkKit
import Derived.Deep.RegionLaw
namespace Go.Proofs.Ytglpalomhhhmhaa
open Go.ChangeShapes Go.WideShapes Go.ChangeAt Go.RowKit

/-- two rows of the call's own, of unlike types, lie in two blocks -/
theorem owns_apart {w : World} {B1 B2 : Nat} {e1 e2 : TypeId} {s1 s2 n1 n2 : Nat} {v1 v2 : Value} {x1 x2 : List Value} (h1 : w.ownsRow B1 e1 s1 v1 n1 x1) (h2 : w.ownsRow B2 e2 s2 v2 n2 x2) (he : e1 ≠ e2) :
    v1.ownBlock = none ∨ v1.ownBlock ≠ v2.ownBlock := by
  obtain ⟨_, ⟨rfl, _⟩ | ⟨g1, c1, u1, rfl, _, hb1, _⟩⟩ := h1
  · exact .inl rfl
  · obtain ⟨_, ⟨rfl, _⟩ | ⟨g2, c2, u2, rfl, _, hb2, _⟩⟩ := h2
    · right; intro h; cases h
    · right
      intro h
      simp only [Value.ownBlock, Option.some.injEq] at h
      subst h
      rw [hb1] at hb2
      simp at hb2
      exact he hb2.2

/-- a row of the call's own, behind a call that turned nothing that there was -/
theorem owns_below {w w' : World} {B : Nat} {e : TypeId} {s n : Nat} {v : Value} {xs : List Value} (h : w.ownsRow B e s v n xs) (hb : Below w.heap.size w w') : w'.ownsRow B e s v n xs :=
  h.kept (row := none) ⟨hb.os, hb.tape, hb.output, hb.size, fun k hk _ => hb.block k hk⟩ (by cases hv : v.ownBlock with | none => exact .inl rfl | some g => right; intro h; cases h)

/-- rows of other types than e stay as they are -/
def Keeps (e : TypeId) (w w' : World) : Prop := ∀ (B : Nat) (e2 : TypeId) (s n : Nat) (v : Value) (xs : List Value), e2 ≠ e → w.ownsRow B e2 s v n xs → w'.ownsRow B e2 s v n xs
theorem Keeps.row {e : TypeId} {w w' : World} (h : Keeps e w w') {B : Nat} {e2 : TypeId} {s n : Nat} {v : Value} {xs : List Value} (ho : w.ownsRow B e2 s v n xs) (he : e2 ≠ e) : w'.ownsRow B e2 s v n xs := h B e2 s n v xs he ho

theorem append_new {P : Program} {w : World} {ops : Array Oper} {rest : List Oper} {o : Oper} {a : Act} {Q : Exit → Act → World → Prop} (hgd : o.guard = none) (s x : Operand) (t : TypeId)
    (ho : o.op = .call { callee := .builtin .append, args := #[s, x], argTypes := #[t, t] })
    (base : Nat) (e : TypeId) (i : TypeInfo) (z : Value) (size bytes : Nat) (ht : P.underlying t = some (.slice e)) (hi : P.info? e = some i) (hz : i.zero = some z)
    (hsize : i.size = size) (hby : i.bytes = bytes) (hzs : z.cells.size = size) (hsz : 0 < size) (hbs : bytes ≤ 4096)
    (v : Value) (n : Nat) (xs : List Value) (hs : a.eval s = v) (hown : w.ownsRow base e size v n xs)
    (us : List Value) (hx : a.eval x = .slice (some ⟨w.heap.size, 0, none⟩) 1 1) (hl : us.length = size) (h1 : us.all (fun u => u.oneCell') = true)
    (hn : n ≤ 4294967296) (hbase : base ≤ w.heap.size)
    (h : ∀ v' w', w'.ownsRow base e size v' (n + 1) (xs ++ us) → Below base w w' → Keeps e w w' → (v' = .slice none 0 0 → False) → wpList P ops Q rest (a.put o.dst v') w') : wpList P ops Q (o :: rest) a (w.alloc (.cells us.toArray e)) := by
  refine wpList_append_own _ hgd s x t ho base e i z size bytes ht hi hz hsize hby hzs hsz v n xs hs (hown.alloc _) ⟨w.heap.size, 0, none⟩ 1 1 us hx (by rw [hl, Nat.one_mul]) ?_ (by simpa using h1) (by unfold maxLen; omega) ?_ (by simp; omega) ?_
  · intro j u hj
    rw [addr_add _ j w.heap.size 0 rfl, World.cell?_alloc_at _ _ _ _ rfl]
    simpa using hj
  · have : (n + 1) * bytes ≤ 4294967297 * 4096 := Nat.mul_le_mul (by omega) hbs
    omega
  · intro v' w' h2 h3 h4
    refine h v' w' h2 (((Below.refl _ _).alloc hbase _).grown h3 (by simp; omega) (fun k hk => (hown.lt k hk).1)) ?_ ?_
    · intro B e2 s2 n2 v2 xs2 he2 ho2
      exact (ho2.alloc _).kept h3 (owns_apart ho2 hown he2)
    · intro hv
      have := (h4.1 hv).2
      omega

/-- the same, as one step of a region that draws its order -/
theorem step_append_new {P : Program} {w : World} {ops : Array Oper} {o : Oper} {a : Act} {K : Act → World → Prop} {Q : Exit → Act → World → Prop} {E : Prop} (hgd : o.guard = none) (s x : Operand) (t : TypeId)
    (ho : o.op = .call { callee := .builtin .append, args := #[s, x], argTypes := #[t, t] })
    (base : Nat) (e : TypeId) (i : TypeInfo) (z : Value) (size bytes : Nat) (ht : P.underlying t = some (.slice e)) (hi : P.info? e = some i) (hz : i.zero = some z)
    (hsize : i.size = size) (hby : i.bytes = bytes) (hzs : z.cells.size = size) (hsz : 0 < size) (hbs : bytes ≤ 4096)
    (v : Value) (n : Nat) (xs : List Value) (hs : a.eval s = v) (hown : w.ownsRow base e size v n xs)
    (us : List Value) (hx : a.eval x = .slice (some ⟨w.heap.size, 0, none⟩) 1 1) (hl : us.length = size) (h1 : us.all (fun u => u.oneCell') = true)
    (hn : n ≤ 4294967296) (hbase : base ≤ w.heap.size)
    (h : ∀ v' w', w'.ownsRow base e size v' (n + 1) (xs ++ us) → Below base w w' → Keeps e w w' → (v' = .slice none 0 0 → False) → K (a.put o.dst v') w') :
    if Region.wanted o (yielded ops a.tmps) = true then Oper.wp P o a (w.alloc (.cells us.toArray e)) K Q else E := by
  have hw : Region.wanted o (yielded ops a.tmps) = true := by simp [Region.wanted, hgd]
  rw [if_pos hw]
  refine wp_append_own _ s x t ho base e i z size bytes ht hi hz hsize hby hzs hsz v n xs hs (hown.alloc _) ⟨w.heap.size, 0, none⟩ 1 1 us hx (by rw [hl, Nat.one_mul]) ?_ (by simpa using h1) (by unfold maxLen; omega) ?_ (by simp; omega) ?_
  · intro j u hj
    rw [addr_add _ j w.heap.size 0 rfl, World.cell?_alloc_at _ _ _ _ rfl]
    simpa using hj
  · have : (n + 1) * bytes ≤ 4294967297 * 4096 := Nat.mul_le_mul (by omega) hbs
    omega
  · intro v' w' h2 h3 h4
    refine h v' w' h2 (((Below.refl _ _).alloc hbase _).grown h3 (by simp; omega) (fun k hk => (hown.lt k hk).1)) ?_ ?_
    · intro B e2 s2 n2 v2 xs2 he2 ho2
      exact (ho2.alloc _).kept h3 (owns_apart ho2 hown he2)
    · intro hv
      have := (h4.1 hv).2
      omega
end Go.Proofs.Ytglpalomhhhmhaa
