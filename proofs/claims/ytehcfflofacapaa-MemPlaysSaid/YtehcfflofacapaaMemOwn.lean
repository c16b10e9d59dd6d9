/- MemOwn: for every list of words and every access, the law returns true, and its arguments read as they did. No condition. -/
import Derived.Test.YtehcfflofacapaaRows
import Derived.Test.YtehcfflofacapaaO
import Derived.Test.YtehcfflofacapaaK5
namespace Go.Proofs.Ytehcfflofacapaa
open Go.ChangeShapes Go.WideShapes Go.ChangeAt Go.RowKit

theorem memOwn_own : ownKnob Try.prog.godebug = none := by kernel_rfl
theorem memOwn_laid : laidOutB Try.prog = true := by kernel_rfl

/-- an argument of words -/
theorem slice_words {H : Type} {enc : TypeId × Value → H} {w : World} {base : Nat} {spare : Nat → Bool} {held : Bool} {fuel : Nat} {ao : Option Addr} {n cap : Nat} {x : DataW H × List MemPlace}
    (h : DataW.trod enc Try.prog w base spare held fuel 37 [.slice ao n cap] = some x) :
    ∃ (b off : Nat) (l : List Nat), n = l.length ∧ l.length ≤ maxLen ∧ (0 < l.length → ao = some ⟨b, off, none⟩) ∧ (0 < l.length → b < w.heap.size) ∧ UCells w b off l ∧ (ao = none → cap = 0) ∧ ∀ x ∈ l, x < 18446744073709551616 := by
  have hnil : ao = none → cap = 0 := fun e => by subst e; exact nil_no_room Try.underlying37 h
  obtain ⟨ao', b, off, cap', l, hcs, hl, ha, hb, hq⟩ := slice_nums Try.underlying37 (by kernel_rfl) Try.underlying22 h
  simp only [List.cons.injEq, Value.slice.injEq, and_true] at hcs
  obtain ⟨rfl, rfl, rfl⟩ := hcs
  obtain ⟨k, rfl, hk⟩ := nats_of (l := l) (fun z hz => by
    obtain ⟨i, hi⟩ := List.mem_iff_getElem?.1 hz
    exact u64_bounds (hq i z hi).2)
  rw [List.length_map] at *
  refine ⟨b, off, k, rfl, hl, ha, hb, fun i x hx => ?_, hnil, hk⟩
  exact (hq i x (by rw [List.getElem?_map, hx]; rfl)).1

/-- an argument that is an access -/
theorem act_open {H : Type} {enc : TypeId × Value → H} {w : World} {base : Nat} {spare : Nat → Bool} {held : Bool} {r : Reach} {b0 : Nat} {v : Value} {d : DataW H} {p : List MemPlace}
    (hv : Value.okWide Try.prog w r b0 59 v) (h : DataW.Trod enc Try.prog w base spare held 59 v d p) :
    ∃ (k a : Int) (x y : Nat), v = .agg #[.int .i64 k, .int .i64 a, .int .u64 x, .int .u64 y] ∧ (-9223372036854775808 ≤ a ∧ a ≤ 9223372036854775807) := by
  obtain ⟨z0, z1, z2, z3, rfl, _, w1, w2, w3⟩ := struct4_nums (q0 := .i64) (q1 := .i64) (q2 := .u64) (q3 := .u64) Try.underlying59 (by kernel_rfl) rfl rfl (by kernel_rfl) Try.underlying3 rfl rfl (by kernel_rfl) Try.underlying3 rfl rfl (by kernel_rfl) Try.underlying22 rfl rfl (by kernel_rfl) Try.underlying22 hv h
  have b2 := u64_bounds w2
  have b3 := u64_bounds w3
  obtain ⟨x, rfl⟩ : ∃ t : Nat, z2 = t := ⟨z2.toNat, by omega⟩
  obtain ⟨y, rfl⟩ : ∃ t : Nat, z3 = t := ⟨z3.toNat, by omega⟩
  exact ⟨z0, z1, x, y, rfl, i64_bounds w1⟩

set_option maxRecDepth 100000 in
theorem memOwn_lifted (os : Os) (started : os.Started) (H : Type) (enc : TypeId × Value → H) :
    ReturnsInHanded {} Try.checked os 8 .any (Rows.memOwnSpec.pre6 enc Try.prog Try.f8 Rows.memOwnRow.domain false) (Rows.memOwnSpec.post enc Try.prog Try.f8 false true false false) := by
  refine returnsInHanded_of_change (C := Try.checked) memOwn_own started (by kernel_rfl) Try.func8
    (ChangeSpec.witness6 (enc := enc) (C := Try.checked) false ⟨#[], #[.slice none 0 0, .agg #[.int .i64 0, .int .i64 0, .int .u64 0, .int .u64 0]], []⟩ 8 (by kernel_rfl) (by kernel_rfl) (by kernel_rfl) (by kernel_rfl)) ?_
  intro W base args ds gs before hval0 hW hcnd _
  have hval : ∀ (j : Nat) t v, Try.f8.params[j]? = some t → args[j]? = some v → Value.okWide Try.prog W .any base t v := hval0
  have hW' := hW
  obtain ⟨p, q, hA0, hV, rfl, hfz, hnd⟩ := hW
  have hA : DataW.TrodAll enc Try.prog W 0 (fun _ => true) true Try.f8.params.toList args.toList ds p := hA0
  rw [Try.params8] at hA hval
  obtain ⟨v0, v1, d0, d1, p0, p1, rfl, rfl, rfl, h0, h1⟩ := trodAll_two hA
  obtain ⟨rfl, rfl⟩ := trodVars_none hV
  obtain ⟨a0, n0, c0, rfl⟩ := okWide_slice Try.underlying37 (hval 0 37 v0 rfl rfl)
  obtain ⟨k, a, x, y, rfl, ba⟩ := act_open (hval 1 59 v1 rfl rfl) h1
  obtain ⟨fuel, hf⟩ := h0
  obtain ⟨b, off, l, rfl, hl, ha, hb, hc, hcap, hlt⟩ := slice_words hf
  clear hA0 hval0
  unfold maxLen at hl
  refine (own_walk a0 b off c0 l k a x y W (by omega) ha hb hc hcap hlt).mono fun e W' ⟨he, hb⟩ => ?_
  subst he
  exact ⟨_, rfl, law_post memOwn_laid (by kernel_rfl) rfl hW' hb rfl (tb := 4) (by kernel_rfl) Try.underlying4⟩

theorem memOwn_holds : Rows.MemOwnSaid :=
  OpenClaim.holds_of_wide 8 Try.f8 rfl rfl rfl rfl rfl rfl rfl ⟨rfl, rfl, rfl, rfl, rfl⟩ rfl rfl rfl rfl rfl (by kernel_rfl) Try.func8 (by kernel_rfl)
    (of_decide_eq_true (by kernel_rfl)) (by unfold Func.isWrapper; first | (rw [if_pos (by decide +kernel)]; kernel_rfl) | (rw [if_neg (by decide +kernel)]; exact ⟨rfl, rfl⟩))
    (fun os started H enc _ => memOwn_lifted os started H enc)
end Go.Proofs.Ytehcfflofacapaa
