/- Walks of desc: Pack. -/
import Derived.Test.YtgfmidpcgoadlaaDB
import Derived.Test.YtgfmidpcgoadlaaDE
import Derived.Deep.RegionHeld3
namespace Go.Proofs.Ytgfmidpcgoadlaa
open Go.RowKit

theorem new_lt (w : World) (o : Obj) : w.heap.size < (w.alloc o).drew.heap.size := by
  show w.heap.size < (w.alloc o).heap.size
  simp
theorem new_at (w : World) (vs : Array Value) (t : TypeId) {i : Nat} {v : Value} (h : vs[i]? = some v) : ((w.alloc (.cells vs t)).drew).cell? ⟨w.heap.size, i, none⟩ = some v :=
  (World.cell?_alloc_at _ _ _ _ rfl).trans h
theorem old_at {w : World} {b i : Nat} (h : b < w.heap.size) (o : Obj) : ((w.alloc o).drew).cell? ⟨b, i, none⟩ = w.cell? ⟨b, i, none⟩ :=
  (((Below.refl w.heap.size w).alloc (Nat.le_refl _) o).drew).cell (p := ⟨b, i, none⟩) h

set_option maxHeartbeats 2000000 in
theorem dpack_any (p t : Bool) (l f : Nat) (w : World) (hl : l < 18446744073709551616) (hf : f < 18446744073709551616) :
    Calls Try.prog 5 #[dV p t l f] w fun e w' => e = .returned (.tuple #[.int .u64 ((dPk p t l f).2 : Nat), .int .i64 ((dPk p t l f).1 : Nat)]) ∧ Below w.heap.size w w' := by
  have HPK : Hid (∀ (b : Nat) (W : World), b < W.heap.size → W.cell? ⟨b, 0, none⟩ = some (.int .i64 1) → W.cell? ⟨b, 1, none⟩ = some (.int .u64 (p.toNat : Nat)) →
      W.cell? ⟨b, 2, none⟩ = some (.int .i64 1) → W.cell? ⟨b, 3, none⟩ = some (.int .u64 (t.toNat : Nat)) → W.cell? ⟨b, 4, none⟩ = some (.int .i64 30) → W.cell? ⟨b, 5, none⟩ = some (.int .u64 (l : Nat)) →
      W.cell? ⟨b, 6, none⟩ = some (.int .i64 32) → W.cell? ⟨b, 7, none⟩ = some (.int .u64 (f : Nat)) →
      Calls Try.prog 19 #[.slice (some ⟨b, 0, none⟩) 4 4] W fun e w' => e = .returned (.tuple #[.int .u64 ((dPk p t l f).2 : Nat), .int .i64 ((dPk p t l f).1 : Nat)]) ∧ Below W.heap.size W w') := Lib.hid (by
    intro b W hb c0 c1 c2 c3 c4 c5 c6 c7
    have bp : p.toNat < 2 := Bool.toNat_lt p
    have bt : t.toNat < 2 := Bool.toNat_lt t
    refine pack_any (some ⟨b, 0, none⟩) b 0 4 [(1, p.toNat), (1, t.toNat), (30, l), (32, f)] W (by simp) (fun _ => hb) (fun _ => rfl) ?_
    intro i x hx
    match i, hx with
    | 0, hx => simp at hx; subst hx; exact ⟨c0, c1, by dsimp only; omega, by dsimp only; omega⟩
    | 1, hx => simp at hx; subst hx; exact ⟨c2, c3, by dsimp only; omega, by dsimp only; omega⟩
    | 2, hx => simp at hx; subst hx; exact ⟨c4, c5, by dsimp only; omega, hl⟩
    | 3, hx => simp at hx; subst hx; exact ⟨c6, c7, by dsimp only; omega, hf⟩)
  generalize (dPk p t l f).2 = r2 at *
  generalize (dPk p t l f).1 = r1 at *
  clear hl hf
  have c0 : (w.alloc (.cells #[.bool p, .bool t, .int .u64 l, .int .u64 f] 24)).cell? ⟨w.heap.size, 0, none⟩ = some (.bool p) := by rw [World.cell?_alloc_at _ _ _ _ rfl]; rfl
  have c1 : (w.alloc (.cells #[.bool p, .bool t, .int .u64 l, .int .u64 f] 24)).cell? ⟨w.heap.size, 1, none⟩ = some (.bool t) := by rw [World.cell?_alloc_at _ _ _ _ rfl]; rfl
  have c2 : (w.alloc (.cells #[.bool p, .bool t, .int .u64 l, .int .u64 f] 24)).cell? ⟨w.heap.size, 2, none⟩ = some (.int .u64 l) := by rw [World.cell?_alloc_at _ _ _ _ rfl]; rfl
  have c3 : (w.alloc (.cells #[.bool p, .bool t, .int .u64 l, .int .u64 f] 24)).cell? ⟨w.heap.size, 3, none⟩ = some (.int .u64 f) := by rw [World.cell?_alloc_at _ _ _ _ rfl]; rfl
  have HB : Hid (Below w.heap.size w (w.alloc (.cells #[.bool p, .bool t, .int .u64 l, .int .u64 f] 24))) := Lib.hid ((Below.refl _ _).alloc (Nat.le_refl _) _)
  have hsz : w.heap.size < (w.alloc (.cells #[.bool p, .bool t, .int .u64 l, .int .u64 f] 24)).heap.size := by simp
  go_enter Try.func5, Try.ntmps5
  go_wp2_with fail
  generalize w.alloc (.cells #[.bool p, .bool t, .int .u64 l, .int .u64 f] 24) = wa at c0 c1 c2 c3 HB hsz ⊢
  go_region_held3 (fun w' => w'.cell? ⟨w.heap.size, 0, none⟩ = some (.bool p) ∧ w'.cell? ⟨w.heap.size, 1, none⟩ = some (.bool t) ∧ w'.cell? ⟨w.heap.size, 2, none⟩ = some (.int .u64 (l : Int)) ∧ w'.cell? ⟨w.heap.size, 3, none⟩ = some (.int .u64 (f : Int)))
    (first | with_reducible exact ⟨c0, c1, c2, c3⟩ | with_reducible exact ⟨d0, d1, d2, d3⟩ | go_keep)
    (first
      | (go_at_call 20
         refine (flag_any _ _).mono ?_
         rintro e w1 ⟨rfl, rfl⟩)
      | (go_at_call 19
         refine (HPK.out _ _ (new_lt _ _) (new_at _ _ _ rfl) (new_at _ _ _ rfl) (new_at _ _ _ rfl) (new_at _ _ _ rfl) (new_at _ _ _ rfl) (new_at _ _ _ rfl) (new_at _ _ _ rfl) (new_at _ _ _ rfl)).mono ?_
         rintro e w2 ⟨rfl, hb⟩
         have HB2 := Lib.hid (((HB.out.alloc (Nat.le_of_lt hsz) _).drew).trans (hb.mono (Nat.le_of_lt (Nat.lt_trans hsz (new_lt _ _)))))
         have d0 : w2.cell? ⟨w.heap.size, 0, none⟩ = some (.bool p) := (hb.cell (p := ⟨w.heap.size, 0, none⟩) (Nat.lt_trans hsz (new_lt _ _))).trans ((old_at hsz _).trans c0)
         have d1 : w2.cell? ⟨w.heap.size, 1, none⟩ = some (.bool t) := (hb.cell (p := ⟨w.heap.size, 1, none⟩) (Nat.lt_trans hsz (new_lt _ _))).trans ((old_at hsz _).trans c1)
         have d2 : w2.cell? ⟨w.heap.size, 2, none⟩ = some (.int .u64 (l : Int)) := (hb.cell (p := ⟨w.heap.size, 2, none⟩) (Nat.lt_trans hsz (new_lt _ _))).trans ((old_at hsz _).trans c2)
         have d3 : w2.cell? ⟨w.heap.size, 3, none⟩ = some (.int .u64 (f : Int)) := (hb.cell (p := ⟨w.heap.size, 3, none⟩) (Nat.lt_trans hsz (new_lt _ _))).trans ((old_at hsz _).trans c3)
         clear hb)
      | fail)
  go_wp2_with fail
  go_ret2
  exact ⟨rfl, HB2.out⟩
end Go.Proofs.Ytgfmidpcgoadlaa
