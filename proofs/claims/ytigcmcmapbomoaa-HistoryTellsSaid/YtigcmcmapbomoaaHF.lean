/- history: Width, walked. -/
import Derived.Test.YtigcmcmapbomoaaHE
import Derived.Test.YtigcmcmapbomoaaShelf
import Derived.Deep.AppendLies
import Derived.Lib.OwnBridge
namespace Go.Proofs.Ytigcmcmapbomoaa
open Go.RowKit Go.Sort
set_option linter.unusedVariables false
set_option linter.unusedSimpArgs false

def zvs (xs : List Int) : List Value := xs.map (Value.int .i64)
theorem zvs_get {xs : List Int} {i : Nat} {x : Int} (h : xs[i]? = some x) : (zvs xs)[i]? = some (.int .i64 x) := by simp [zvs, h]
theorem zvs_snoc (xs : List Int) (x : Int) : zvs xs ++ [.int .i64 x] = zvs (xs ++ [x]) := by simp [zvs]
/-- two rows of numbers, in two blocks -/
def Apart (v u : Value) : Prop := v.ownBlock = none ∨ v.ownBlock ≠ u.ownBlock
theorem Apart.symm' {v u : Value} (h : Apart v u) : Apart u v := by
  rcases h with h | h
  · by_cases hu : u.ownBlock = none
    · exact .inl hu
    · exact .inr (fun e => hu (e.trans h))
  · exact .inr (fun e => h e.symm)

/-- append of one element onto one of two rows of one type -/
theorem append_apart {P : Program} {w : World} {ops : Array Oper} {rest : List Oper} {o : Oper} {a : Act} {Q : Exit → Act → World → Prop} (hgd : o.guard = none) (s x : Operand) (t : TypeId)
    (ho : o.op = .call { callee := .builtin .append, args := #[s, x], argTypes := #[t, t] })
    (base : Nat) (e : TypeId) (ht : P.underlying t = some (.slice e)) (hi' : (P.info? e).map (fun i => (i.zero, i.size, i.bytes)) = some (some (.int .i64 0), 1, 8))
    {v : Value} (n : Nat) (xs : List Int) (hs : a.eval s = v) (hown : w.ownsRow base e 1 v n (zvs xs)) {u : Value} (m : Nat) (ys : List Int) (hu : w.ownsRow base e 1 u m (zvs ys)) (hap : Apart v u)
    (z : Int) (hx : a.eval x = .slice (some ⟨w.heap.size, 0, none⟩) 1 1) (hn : n ≤ 4294967296) (hbase : base ≤ w.heap.size)
    (h : ∀ g cap w', w'.ownsRow base e 1 (.slice (some ⟨g, 0, none⟩) (n + 1) cap) (n + 1) (zvs (xs ++ [z])) → w'.ownsRow base e 1 u m (zvs ys) → Apart (.slice (some ⟨g, 0, none⟩) (n + 1) cap) u → Below base w w' → (∀ a : Addr, a.block < w.heap.size → v.ownBlock ≠ some a.block → w'.cell? a = w.cell? a) →
      wpList P ops Q rest (a.put o.dst (.slice (some ⟨g, 0, none⟩) (n + 1) cap)) w') : wpList P ops Q (o :: rest) a (w.alloc (.cells #[.int .i64 z] e)) := by
  obtain ⟨i, hi, hz0, hz1, hz2⟩ := info_parts hi'
  refine wpList_append_lies _ hgd s x t ho base e i (.int .i64 0) 1 8 ht hi hz0 hz1 hz2 rfl (by decide) v n (zvs xs) hs (hown.alloc _) ⟨w.heap.size, 0, none⟩ 1 1 [.int .i64 z] hx rfl ?_ (by simp [Value.oneCell']) (by decide) (by unfold maxLen; omega) (by omega) (by simp; omega) _ rfl ?_
  · intro j q hj
    rw [addr_add _ j w.heap.size 0 rfl, World.cell?_alloc_at _ _ _ _ rfl]
    simpa using hj
  · intro g cap w' h2 h3 h4 _
    have hg : some g ≠ u.ownBlock := by
      intro e1
      have hlt := (hu.lt g e1.symm).2
      rcases h4 with h4 | h4
      · rcases hap with h5 | h5
        · rw [h5] at h4; cases h4
        · exact h5 (h4.trans e1)
      · rw [World.size_alloc] at h4; omega
    refine h g cap w' (by rw [← zvs_snoc]; exact h2) ((hu.alloc _).kept h3 hap.symm') (.inr hg) (((Below.refl _ _).alloc hbase _).grown h3 (by simp; omega) (fun k hk => (hown.lt k hk).1)) (fun a' ha' hne => (h3.cell_far a' (by simp; omega) (fun e => hne e.symm)).trans (((Below.refl w.heap.size w).alloc (Nat.le_refl _) _).cell ha'))

/-- slices.Sort of one of two rows -/
theorem sort_ok (base : Nat) (v : Value) (xs : List Int) (u : Value) (m : Nat) (ys : List Int) (w : World) (hv : w.ownsRow base 3 1 v xs.length (zvs xs)) (hu : w.ownsRow base 3 1 u m (zvs ys)) (hap : Apart v u) (hl : xs.length ≤ 4294967296) (hb : base ≤ w.heap.size) :
    Calls Try.prog 23 #[v] w fun e w' => e = .returned (.tuple #[]) ∧ w'.ownsRow base 3 1 v xs.length (zvs (srt xs)) ∧ w'.ownsRow base 3 1 u m (zvs ys) ∧ Below base w w' := by
  by_cases hnil : v = .slice none 0 0
  · subst hnil
    have h0 : xs.length = 0 := by
      rcases hv.2 with ⟨_, h⟩ | ⟨g, cap, cur, e0, _⟩
      · exact h
      · cases e0
    have hx : xs = [] := List.length_eq_zero_iff.1 h0
    subst hx
    exact (Try.slices_Sort_int_none none 0 w).mono fun e w' ⟨he, hw⟩ => by subst hw; exact ⟨he, by rw [show srt [] = [] from List.length_eq_zero_iff.1 (srt_len [])]; exact hv, hu, Below.refl _ _⟩
  · obtain ⟨g, cap, rfl, hg, hlt, hn, hm, hll, hH⟩ := Lib.holds_of_ownsRow (enc := Value.int .i64) hv hnil
    refine (Try.slices_Sort_int g 0 cap xs w hH hlt (by omega)).mono ?_
    rintro e w' ⟨he, q, os, rfl⟩
    have h1 := Lib.ownsRow_putRow (enc := Value.int .i64) (q := q) (k := xs.length) (ys := srt xs) hv (srt_len xs) (Nat.le_refl _)
    rw [List.take_of_length_le (Nat.le_of_eq (srt_len xs))] at h1
    have hsz : (putRow (Value.int .i64) (Sort.ahead w q) g 0 (srt xs).toArray).heap.size = w.heap.size := by rw [size_putRow]; rfl
    have hgr : w.grownBy (putRow (Value.int .i64) (Sort.ahead w q) g 0 (srt xs).toArray) (some g) := ⟨rfl, rfl, rfl, by rw [hsz]; exact Nat.le_refl _, fun k hk hne => by
      simp [putRow, mapBlock, Sort.ahead, Array.getElem?_modify, show g ≠ k from fun e => hne (by rw [e])]⟩
    have hgo : ∀ (w1 : World), w1.grownBy (grow w1 os) none := fun w1 => ⟨rfl, rfl, rfl, by rw [size_grow]; exact Nat.le_add_right _ _, fun k hk _ => heap_grow_old _ _ hk⟩
    refine ⟨he, h1.kept (hgo _) ?_, (hu.kept hgr hap.symm').kept (hgo _) ?_, ?_⟩
    · exact .inr (fun e => by cases e)
    · rcases hq : u.ownBlock with _ | g'
      · exact .inl rfl
      · exact .inr (fun e => by cases e)
    · exact ((Below.refl base w).grown hgr hb (fun k e => by cases e; exact hg)).grown (hgo _) (by rw [hsz]; exact hb) (fun k e => by cases e)
end Go.Proofs.Ytigcmcmapbomoaa
