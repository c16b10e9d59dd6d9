/- Walks of keys: Order, and the law's known keys. -/
import Derived.Test.YtlagfdbemmhahaaV7
namespace Go.Proofs.Ytlagfdbemmhahaa
open Go.RowKit

/-- what Order gives: at each place the key that belongs there -/
def OrderPost (ls : List (List Int)) (w : World) (e : Ending) (w' : World) : Prop :=
  ∃ g cap, e = .returned (.slice (some ⟨g, 0, none⟩) ls.length cap) ∧ (∀ i, i < ls.length → w'.cell? ⟨g, rank ls i, none⟩ = some (.int .i64 (i : Int))) ∧ g < w'.heap.size ∧ Below w.heap.size w w'

set_option maxHeartbeats 400000 in
theorem sorted_none (bx : Nat) (w : World) :
    Calls Try.prog 22 #[.int .i64 0, .func (.func 23) #[] #[.pointer (some ⟨bx, 0, none⟩)]] w (SortedPost [] w) := by
  have hmk : ∀ w : World, (Instr.makeSlice 22 (.int .i64 0) (.int .i64 0)).run Try.prog w = .ok (.slice (some ⟨w.heap.size, 0, none⟩) 0 0) (w.alloc (.cells (List.replicate 0 (Value.int .i64 0)).toArray 3)) := fun w => run_mkI 0 (by omega) w
  have HS := Lib.hid (fun cap fv w => Try.slices_SortFunc_none (α := Nat) (some ⟨w.heap.size - 1, 0, none⟩) cap fv w)
  go_enter Try.func22, Try.ntmps22
  go_wp2_with fail
  refine wp_loop_rounds 1 ?_
  rw [rounds_succ]
  go_wp2_with fail
  have hs : (w.alloc (.cells (List.replicate 0 (Value.int .i64 0)).toArray 3)).heap.size - 1 = w.heap.size := by simp
  have h := HS.out 0 (.func (.func 23) #[] #[.pointer (some ⟨bx, 0, none⟩)]) (w.alloc (.cells (List.replicate 0 (Value.int .i64 0)).toArray 3))
  rw [hs] at h
  refine h.mono ?_
  rintro e w2 ⟨rfl, rfl⟩
  go_wp2_with fail
  go_ret
  exact ⟨rfl, fun i h => absurd h (by simp), by simp, (Below.refl _ _).alloc (Nat.le_refl _) _⟩

set_option maxHeartbeats 400000 in
theorem order_any (ao : Option Addr) (b o cap : Nat) (ls : List (List Int)) (w : World) (hsz : ls.length ≤ 4294967296) (ha : 0 < ls.length → ao = some ⟨b, o, none⟩) (hb : 0 < ls.length → b < w.heap.size) (hL : LCells w w.heap.size b o ls) :
    Calls Try.prog 19 #[.slice ao ls.length cap] w (OrderPost ls w) := by
  have hbl : Below w.heap.size w (w.alloc (.cells #[.slice ao ls.length cap] 38)) := (Below.refl _ _).alloc (Nat.le_refl _) _
  have HS : Hid (Calls Try.prog 22 #[.int .i64 ls.length, .func (.func 23) #[] #[.pointer (some ⟨w.heap.size, 0, none⟩)]] (w.alloc (.cells #[.slice ao ls.length cap] 38)) (SortedPost ls (w.alloc (.cells #[.slice ao ls.length cap] 38)))) := by
    apply Lib.hid
    by_cases h0 : 0 < ls.length
    · obtain rfl := ha h0
      have hb := hb h0
      have hL2 : LCells w (w.alloc (.cells #[.slice (some ⟨b, o, none⟩) ls.length cap] 38)).heap.size b o ls := by
        intro i l hx
        obtain ⟨ao, b', o', c, h1, h2, h3, h4⟩ := hL i l hx
        exact ⟨ao, b', o', c, h1, h2, fun h => by have := h3 h; simp; omega, h4⟩
      have hL3 : LCells (w.alloc (.cells #[.slice (some ⟨b, o, none⟩) ls.length cap] 38)) (w.alloc (.cells #[.slice (some ⟨b, o, none⟩) ls.length cap] 38)).heap.size b o ls := by
        intro i l hx
        obtain ⟨ao, b', o', c, h1, h2, h3, h4, h5⟩ := hL.stays hbl (fun _ => hb) i l hx
        exact ⟨ao, b', o', c, h1, h2, fun h => by have := h3 h; simp; omega, h4, h5⟩
      exact sorted_any w.heap.size b o cap ls _ h0 hsz (by simp) (by simp; omega) (by rw [World.cell?_alloc_at _ _ _ _ rfl]; rfl) hL3
    · obtain rfl : ls = [] := List.eq_nil_of_length_eq_zero (by omega)
      exact sorted_none w.heap.size _
  clear hL ha hb
  go_enter Try.func19, Try.ntmps19
  go_wp2_with fail
  refine HS.out.mono ?_
  rintro e w2 ⟨rfl, h2, h3, h4⟩
  have e1 : (w.alloc (.cells #[.slice ao ls.length cap] 38)).heap.size = w.heap.size + 1 := by simp
  rw [e1] at h2 h3
  have H2 := Lib.hid h2
  clear h2 e1
  go_wp2_with fail
  go_ret
  exact ⟨_, _, rfl, H2.out, h3, hbl.trans (h4.mono (by simp))⟩
end Go.Proofs.Ytlagfdbemmhahaa
