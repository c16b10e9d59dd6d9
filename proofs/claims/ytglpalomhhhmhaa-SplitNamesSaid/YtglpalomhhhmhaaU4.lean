/- Walks of pick: Finish, Left. -/
import Derived.Test.YtglpalomhhhmhaaU3
import Derived.Deep.RegionLaw
import Derived.BigRegion
namespace Go.Proofs.Ytglpalomhhhmhaa
open Go.RowKit

theorem NumsAt.staysBut {w w' : World} {top mb : Nat} {v : Value} {l : List Nat} (h : NumsAt w top v l) (hm : ∀ p : Addr, p.block = mb → w.cell? p = none) (hb : ∀ k, k < top → k ≠ mb → w'.heap[k]? = w.heap[k]?) : NumsAt w' top v l := by
  obtain ⟨ao, b, o, cap, rfl, ha, hc, hcm, hx⟩ := h
  refine ⟨ao, b, o, cap, rfl, ha, hc, hcm, fun i x h => ?_⟩
  have hl : 0 < l.length := by have := (List.getElem?_eq_some_iff.1 h).1; omega
  have hc0 := hx i x h
  rw [← hc0]
  have hne : b ≠ mb := by
    intro e
    rw [hm ⟨b, o + i, none⟩ e] at hc0
    cases hc0
  unfold World.cell?
  rw [hb b (ha hl).2 hne]

theorem LineIs.stored {w w' : World} {top lb mb n : Nat} {f : Int → Value} {own : Int → List Nat} (h : LineIs w top lb mb n f own) {p : Int} {v : Value} {r : List Nat} (hM : MapIs Try.prog 3 w' mb (n + 1) (.slice none 0 0) (updF f p v))
    (hp : 0 ≤ p ∧ p < 16) (hb : ∀ k, k < w.heap.size → k ≠ mb → w'.heap[k]? = w.heap[k]?) (ht : top ≤ w.heap.size) (hv : NumsAt w top v r) : LineIs w' top lb mb (n + 1) (updF f p v) (updF own p r) := by
  have hb' : ∀ k, k < top → k ≠ mb → w'.heap[k]? = w.heap[k]? := fun k hk => hb k (Nat.lt_of_lt_of_le hk ht)
  refine ⟨?_, hM, fun q => ?_, fun q hq => ?_, h.lt1, h.lt2⟩
  · have := h.cell
    unfold World.cell? at this ⊢
    rw [hb' lb h.lt1 h.ne]
    exact this
  · by_cases hq : q = p
    · subst hq
      rw [updF_same, updF_same]
      exact hv.staysBut (fun p hp => h.map.no_cell p hp) hb'
    · rw [updF_other _ _ hq, updF_other _ _ hq]
      exact (h.rows q).staysBut (fun p hp => h.map.no_cell p hp) hb'
  · by_cases hqp : q = p
    · subst hqp; exact hp
    · rw [updF_other _ _ hqp] at hq; exact h.dom q hq

theorem finish_nil (p : Int) (w : World) : Calls Try.prog 30 #[.pointer none, .int .i64 p] w fun e w' => e = .returned (.int .i64 2) ∧ w = w' := by
  go_enter Try.func30, Try.ntmps30
  go_wp2
  go_ret
  exact ⟨rfl, rfl⟩

theorem finish_done {top lb mb n : Nat} {f : Int → Value} {own : Int → List Nat} (p : Int) (w : World) (h : LineIs w top lb mb n f own) (hp : -9223372036854775808 ≤ p ∧ p ≤ 9223372036854775807) (ho : own p = []) :
    Calls Try.prog 30 #[.pointer (some ⟨lb, 0, none⟩), .int .i64 p] w fun e w' => e = .returned (.int .i64 8) ∧ w = w' := by
  have H := Lib.hid h
  clear h
  go_enter Try.func30, Try.ntmps30
  go_wp2_with fail
  refine (now_done p _ H.out hp ho).mono ?_
  rintro e w1 ⟨rfl, rfl⟩
  go_wp2_with fail
  go_ret
  exact ⟨rfl, rfl⟩

theorem stores {w : World} {mb n : Nat} {f : Int → Value} (h : MapIs Try.prog 3 w mb n (.slice none 0 0) f) (hn : n < maxLen) {p : Int} (hp : 0 ≤ p ∧ p < 16) :
    ∃ g : Value → World, (∀ v, (Instr.mapUpdate 94 (.map (some mb)) (.int .i64 p) v).run Try.prog w = .ok () (g v)) ∧ ∀ v, MapIs Try.prog 3 (g v) mb (n + 1) (.slice none 0 0) (updF f p v) ∧ w.mapTurned (g v) mb :=
  ⟨fun v => Classical.choose (h.store Try.underlying3 Try.underlying94 hn hp v), fun v => (Classical.choose_spec (h.store Try.underlying3 Try.underlying94 hn hp v)).1,
    fun v => (Classical.choose_spec (h.store Try.underlying3 Try.underlying94 hn hp v)).2⟩

set_option maxRecDepth 20000 in
set_option maxHeartbeats 1000000 in
theorem finish_at {top lb mb n : Nat} {f : Int → Value} {own : Int → List Nat} (p : Int) (w : World) (h : LineIs w top lb mb n f own) (ht : top ≤ w.heap.size) (hn : n < maxLen) {i : Nat} {r : List Nat} (ho : own p = i :: r) :
    Calls Try.prog 30 #[.pointer (some ⟨lb, 0, none⟩), .int .i64 p] w fun e w' => e = .returned (.int .i64 0) ∧ (∃ f', LineIs w' top lb mb (n + 1) f' (updF own p r)) ∧ But mb mb w w' := by
  have hpr := h.dom p (by rw [ho]; simp)
  have hp : -9223372036854775808 ≤ p ∧ p ≤ 9223372036854775807 := by omega
  have H := Lib.hid h
  have HO := Lib.hid ho
  have c0 := h.drew.cell
  have hlk := h.drew.look hp
  obtain ⟨g, hst, hg⟩ := stores h.map.drew hn hpr
  have HG := Lib.hid hg
  obtain ⟨ao, b, o, cap, hv, ha, hc, hm, hx⟩ := h.rows p
  rw [ho] at hv ha hx hc
  rw [hv] at hlk
  obtain ⟨rfl, hbt⟩ := ha (by simp)
  obtain ⟨m, hml, hm0⟩ : ∃ m, (i :: r).length = m ∧ 0 < m := ⟨_, rfl, by simp⟩
  have HX : Hid (∀ (j x : Nat), r[j]? = some x → w.cell? ⟨b, o + (j + 1), none⟩ = some (.int .i64 (x : Int))) := Lib.hid (fun j x hj => hx (j + 1) x (by simpa using hj))
  have HML : Hid (r.length + 1 = m) := Lib.hid (by rw [← hml]; simp)
  rw [hml] at hc hlk
  have hr : m ≤ 9223372036854775807 := by omega
  have i1 : (0 : Int) < (m : Int) := by omega
  have i2 : (1 : Int) ≤ (m : Int) := by omega
  have i3 : (m : Int) ≤ (cap : Int) := by omega
  have i4 : (1 : Int) ≤ (cap : Int) := by omega
  clear hv h ha hx hml ho hg
  go_enter Try.func30, Try.ntmps30
  go_wp2_with fail
  refine (now_at p _ H.out hp HO.out).mono ?_
  rintro e w1 ⟨rfl, rfl⟩
  go_wp2_with fail
  go_region
  generalize hvv : Value.slice (if cap = 1 then some { block := b, off := o } else some { block := b, off := o + 1 }) (m - 1) (cap - 1) = vv
  have HVV := Lib.hid hvv
  clear hvv
  go_wp2
  go_ret
  obtain ⟨hM, hT⟩ := HG.out vv
  have hgr := hT.grown
  have e1 : r.length = m - 1 := by have := HML.out; omega
  refine ⟨rfl, ⟨_, H.out.stored hM hpr (fun k hk hne => hgr.block k hk (by simp [hne])) ht ?_⟩, ⟨hgr.os, hgr.tape, hgr.output, hgr.size, fun k hk hne _ => hgr.block k hk (by simp [hne])⟩⟩
  refine ⟨_, b, o + 1, cap - 1, by rw [← HVV.out, e1], fun h0 => ⟨by rw [if_neg (by omega)], hbt⟩, by omega, by omega, fun j x hj => ?_⟩
  rw [Nat.add_assoc, Nat.add_comm 1 j]
  exact HX.out j x hj

/-- how many calls a line has left -/
def leftOf' (own : Int → List Nat) : Nat := sumN 16 (fun p => (own p).length)
def leftSum (own : Int → List Nat) (left : Int → Bool) : Nat := sumN 16 (fun a => if left a then (own a).length else 0)
theorem leftSum_all {own : Int → List Nat} {left : Int → Bool} (h : ∀ a, left a = false → own a = []) : leftSum own left = leftOf' own := by
  unfold leftSum leftOf'
  apply sumN_congr
  intro a _ _
  cases hl : left a with
  | true => simp
  | false => simp [h a hl]
theorem leftSum_none {own : Int → List Nat} {left : Int → Bool} (h : ∀ a, left a = false) : leftSum own left = 0 := by
  unfold leftSum
  rw [sumN_congr (h := fun _ => 0) (fun a _ _ => by simp [h a])]
  exact sumN_zero 16
theorem leftSum_upd {own : Int → List Nat} {left : Int → Bool} {a : Int} (h0 : 0 ≤ a ∧ a < 16) (h : left a = true) : leftSum own (updF left a false) + (own a).length = leftSum own left := by
  unfold leftSum
  have e : (fun x => if updF left a false x = true then (own x).length else 0) = updF (fun x => if left x = true then (own x).length else 0) a 0 := by
    funext x
    by_cases hx : x = a
    · subst hx; rw [updF_same, updF_same]; simp
    · rw [updF_other _ _ hx, updF_other _ _ hx]
  rw [e]
  have := sumN_upd (g := fun x => if left x = true then (own x).length else 0) h0.1 h0.2 0
  simp only [h, if_true] at this
  omega

end Go.Proofs.Ytglpalomhhhmhaa
