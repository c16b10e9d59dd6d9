/- The model of the adder, as Wrong wants it. -/
import Derived.Test.YtnjpkmenahdhmaaQM
import Derived.Test.YtnjpkmenahdhmaaOAw
namespace Go.Proofs.Ytnjpkmenahdhmaa
open Go.ChangeShapes Go.WideShapes Go.ChangeAt Go.RowKit
set_option linter.unusedVariables false
set_option maxRecDepth 20000 in
theorem size_adder (n p q : Int) (W : World) : Calls Try.prog 52 #[.int .i64 n, specAgg 3 p q] W fun e w' => ∃ s : Int, e = .returned (.int .i64 s) ∧ 0 ≤ s ∧ Below W.heap.size W w' := by
  unfold specAgg
  go_enter Try.func52, Try.ntmps52
  go_wp2_with fail
  go_ret
  exact ⟨1, rfl, by omega, (Below.refl _ _).alloc (Nat.le_refl _) _⟩
theorem new_one (W W1 : World) (hb : Below W.heap.size W W1) : ∃ v : Value, v = .slice (some ⟨W1.heap.size, 0, none⟩) 1 1 ∧ ListAt (W1.alloc (.cells #[.int .u64 0] 46)) 46 mkU (fun b => W.heap.size ≤ b) v [0] ∧ Below W.heap.size W (W1.alloc (.cells #[.int .u64 0] 46)) := by
  have hO : Own1 (W1.alloc (.cells #[.int .u64 0] 46)) W1.heap.size 0 := ⟨#[.int .u64 0], heap_alloc_new W1 _, rfl⟩
  exact ⟨_, rfl, hO.list 1 _ hb.size, hb.alloc hb.size _⟩
set_option maxRecDepth 20000 in
theorem new_adder (n p q : Int) (W : World) : Calls Try.prog 53 #[.int .i64 n, specAgg 3 p q] W fun e w' => ∃ v, e = .returned v ∧ ListAt w' 46 mkU (fun b => W.heap.size ≤ b) v [0] ∧ Below W.heap.size W w' := by
  have hb1 : Below W.heap.size W (W.alloc (.cells #[.int .i64 3, .int .i64 p, .int .i64 q] 58)) := (Below.refl _ _).alloc (Nat.le_refl _) _
  obtain ⟨v, hv, hl, hb⟩ := new_one W _ hb1
  have hs : (W.alloc (.cells #[.int .i64 3, .int .i64 p, .int .i64 q] 58)).heap.size = W.heap.size + 1 := by simp
  rw [hs] at hv
  have HL := Lib.hid hl
  have HB := Lib.hid hb
  clear hl hb
  unfold specAgg
  go_enter Try.func53, Try.ntmps53
  go_wp2_with fail
  go_ret
  exact ⟨v, by rw [hv]; rfl, HL.out, HB.out⟩
def OneInv (st : List Nat) : Prop := ∃ y, st = [y] ∧ y < 18446744073709551616
theorem ApplyPost.gen {D : Mod} {st : List Nat} {x : CallV} {W w' : World} {e : Ending} (h : ApplyPost (D.ap st x) W e w') (h1 : ∃ z, (D.ap st x).1 = [z]) (h2 : (D.ap st x).2.list = []) :
    ∃ v' lv, e = .returned (.tuple #[v', .agg #[.int .i64 ((D.ap st x).2.err : Int), .int .u64 ((D.ap st x).2.val : Int), lv]]) ∧ ListAt w' 46 mkU (fun b => W.heap.size ≤ b) v' (D.ap st x).1 ∧ ListAt w' 46 mkU (fun b => W.heap.size ≤ b) lv (D.ap st x).2.list ∧ Below W.heap.size W w' := by
  obtain ⟨g, cap, he, hO, hg, hb⟩ := h
  obtain ⟨z, hz⟩ := h1
  rw [hz] at hO ⊢
  rw [h2]
  exact ⟨_, _, he, hO.list cap _ hg, ListAt.nil _ _ _ _, hb⟩
theorem apply_addD (n p q : Int) (W : World) (v : Value) (st : List Nat) (x : CallV) (pr : Nat → Prop) (hI : OneInv st) (ha : x.a < 18446744073709551616) (hv : ListAt W 46 mkU pr v st) :
    Calls Try.prog 54 #[.int .i64 n, specAgg 3 p q, v, callAgg x] W fun e w' =>
      ∃ v' lv, e = .returned (.tuple #[v', .agg #[.int .i64 ((addD.ap st x).2.err : Int), .int .u64 ((addD.ap st x).2.val : Int), lv]]) ∧ ListAt w' 46 mkU (fun b => W.heap.size ≤ b) v' (addD.ap st x).1 ∧ ListAt w' 46 mkU (fun b => W.heap.size ≤ b) lv (addD.ap st x).2.list ∧ Below W.heap.size W w' := by
  obtain ⟨y, rfl, hy⟩ := hI
  have key : (∃ z, (addD.ap [y] x).1 = [z]) ∧ (addD.ap [y] x).2.list = [] ∧ ∀ (g cap : Nat) (W' : World), Own1 W' g y → Calls Try.prog 77 #[.slice (some ⟨g, 0, none⟩) 1 cap, callAgg x] W' (OneOut (addD.ap [y] x) g cap W') := by
    rw [addD_ap]
    by_cases k0 : x.k = 0
    · rw [if_pos k0]; exact ⟨⟨_, rfl⟩, rfl, fun g cap W' h => m_add0 x g cap y W' h k0⟩
    · rw [if_neg k0]
      by_cases k1 : x.k = 1
      · rw [if_pos k1]; exact ⟨⟨_, rfl⟩, rfl, fun g cap W' h => m_add1 x g cap y W' h k1⟩
      · rw [if_neg k1]
        by_cases k2 : x.k = 2
        · rw [if_pos k2]; exact ⟨⟨_, rfl⟩, rfl, fun g cap W' h => m_add2 x g cap y W' h k2⟩
        · rw [if_neg k2]; exact ⟨⟨_, rfl⟩, rfl, fun g cap W' h => m_add9 x g cap y W' h k0 k1 k2⟩
  exact (apply_adder (addD.ap [y] x) n p q v y x pr W hv key.2.2).mono fun e w' h => h.gen key.1 key.2.1
theorem model_adder (n p q : Int) : ModelC addD OneInv n 3 p q where
  size := size_adder n p q
  new := new_adder n p q
  apply := fun W v st x pr hI ha hv => apply_addD n p q W v st x pr hI ha hv
  legal := fun W v lv st x pr qr hI ha hv hl => legal_any (by omega) (fun W v st x pr hI ha hv => apply_addD n p q W v st x pr hI ha hv) W v lv st x pr qr hI ha hv hl
  inv0 := ⟨0, rfl, by omega⟩
  invS := fun st x hI ha => by
    obtain ⟨y, rfl, hy⟩ := hI
    rw [addD_ap]
    split
    · exact ⟨_, rfl, Nat.mod_lt _ (by omega)⟩
    · split
      · exact ⟨_, rfl, hy⟩
      · split
        · exact ⟨_, rfl, Nat.mod_lt _ (by omega)⟩
        · exact ⟨_, rfl, hy⟩
end Go.Proofs.Ytnjpkmenahdhmaa
