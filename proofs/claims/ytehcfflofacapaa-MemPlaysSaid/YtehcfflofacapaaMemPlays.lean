/- MemPlays: for every list of words and every list of accesses, the law returns true, and its arguments read as they did. No condition. -/
import Derived.Test.YtehcfflofacapaaRows
import Derived.Test.YtehcfflofacapaaQ
import Derived.Test.YtehcfflofacapaaMemOwn
namespace Go.Proofs.Ytehcfflofacapaa
open Go.ChangeShapes Go.WideShapes Go.ChangeAt Go.RowKit

/-- an argument of accesses -/
theorem slice_acts {H : Type} {enc : TypeId × Value → H} {w : World} {base : Nat} {spare : Nat → Bool} {held : Bool} {fuel : Nat} {ao : Option Addr} {n cap : Nat} {x : DataW H × List MemPlace}
    (h : DataW.trod enc Try.prog w base spare held fuel 48 [.slice ao n cap] = some x) :
    ∃ (b off : Nat) (l : List (Int × Int × Nat × Nat)), n = l.length ∧ l.length ≤ maxLen ∧ (0 < l.length → ao = some ⟨b, off, none⟩) ∧ (0 < l.length → b < w.heap.size) ∧ ACells w b off l := by
  obtain ⟨ao', b, off, len, cap', hcs, hl, ha, hi⟩ := slice_cells Try.underlying48 (sz := 4) (by kernel_rfl) (by omega) h
  simp only [List.cons.injEq, Value.slice.injEq, and_true] at hcs
  obtain ⟨rfl, rfl, rfl⟩ := hcs
  have := list_of (n := n) (Q := fun i (x : Int × Int × Nat × Nat) => w.cell? ⟨b, off + i * 4, none⟩ = some (.int .i64 x.1) ∧ w.cell? ⟨b, off + i * 4 + 1, none⟩ = some (.int .i64 x.2.1) ∧
      w.cell? ⟨b, off + i * 4 + 2, none⟩ = some (.int .u64 (x.2.2.1 : Int)) ∧ w.cell? ⟨b, off + i * 4 + 3, none⟩ = some (.int .u64 (x.2.2.2 : Int)) ∧ (-9223372036854775808 ≤ x.2.1 ∧ x.2.1 ≤ 9223372036854775807)) (fun i hil => by
    obtain ⟨cs', y, n', hcl, htr, hat⟩ := hi i hil
    obtain ⟨k, hk, _⟩ := field_cell Try.underlying59 htr (i := 0) (o := 0) rfl rfl (by kernel_rfl) Try.underlying3
    obtain ⟨a, h1, wa⟩ := field_cell Try.underlying59 htr (i := 1) (o := 1) rfl rfl (by kernel_rfl) Try.underlying3
    obtain ⟨x, h2, wx⟩ := field_cell Try.underlying59 htr (i := 2) (o := 2) rfl rfl (by kernel_rfl) Try.underlying22
    obtain ⟨y, h3, wy⟩ := field_cell Try.underlying59 htr (i := 3) (o := 3) rfl rfl (by kernel_rfl) Try.underlying22
    have bx := u64_bounds wx
    have bY := u64_bounds wy
    obtain ⟨x, rfl⟩ : ∃ t : Nat, x = t := ⟨x.toNat, by omega⟩
    obtain ⟨y, rfl⟩ : ∃ t : Nat, y = t := ⟨y.toNat, by omega⟩
    exact ⟨(k, a, x, y), (hat 0 (by omega)).trans hk, (hat 1 (by omega)).trans h1, (hat 2 (by omega)).trans h2, (hat 3 (by omega)).trans h3, i64_bounds wa⟩)
  obtain ⟨l, rfl, hq⟩ := this
  exact ⟨b, off, l, rfl, hl, fun h => (ha h).1, fun h => (ha h).2, hq⟩

theorem memPlays_own : ownKnob Try.prog.godebug = none := by kernel_rfl
theorem memPlays_laid : laidOutB Try.prog = true := by kernel_rfl

set_option maxRecDepth 100000 in
theorem memPlays_lifted (os : Os) (started : os.Started) (H : Type) (enc : TypeId × Value → H) :
    ReturnsInHanded {} Try.checked os 7 .any (Rows.memPlaysSpec.pre6 enc Try.prog Try.f7 Rows.memPlaysRow.domain false) (Rows.memPlaysSpec.post enc Try.prog Try.f7 false true false false) := by
  refine returnsInHanded_of_change (C := Try.checked) memPlays_own started (by kernel_rfl) Try.func7
    (ChangeSpec.witness6 (enc := enc) (C := Try.checked) false ⟨#[], #[.slice none 0 0, .slice none 0 0], []⟩ 8 (by kernel_rfl) (by kernel_rfl) (by kernel_rfl) (by kernel_rfl)) ?_
  intro W base args ds gs before hval0 hW hcnd _
  have hval : ∀ (j : Nat) t v, Try.f7.params[j]? = some t → args[j]? = some v → Value.okWide Try.prog W .any base t v := hval0
  have hW' := hW
  obtain ⟨p, q, hA0, hV, rfl, hfz, hnd⟩ := hW
  have hA : DataW.TrodAll enc Try.prog W 0 (fun _ => true) true Try.f7.params.toList args.toList ds p := hA0
  rw [Try.params7] at hA hval
  obtain ⟨v0, v1, d0, d1, p0, p1, rfl, rfl, rfl, h0, h1⟩ := trodAll_two hA
  obtain ⟨rfl, rfl⟩ := trodVars_none hV
  obtain ⟨a0, n0, c0, rfl⟩ := okWide_slice Try.underlying37 (hval 0 37 v0 rfl rfl)
  obtain ⟨a1, n1, c1, rfl⟩ := okWide_slice Try.underlying48 (hval 1 48 v1 rfl rfl)
  obtain ⟨fuel, hf⟩ := h0
  obtain ⟨b, off, l, rfl, hl, ha, hb, hc, hcap, _⟩ := slice_words hf
  obtain ⟨fuel2, hf2⟩ := h1
  obtain ⟨b2, off2, acts, rfl, hl2, ha2, hb2, hc2⟩ := slice_acts hf2
  clear hA0 hval0
  unfold maxLen at hl hl2
  have walk : Calls Try.prog 7 #[.slice a0 l.length c0, .slice a1 acts.length c1] W fun e w' => e = .returned (.bool true) ∧ Below W.heap.size W w' := by
    by_cases hn : 65536 < l.length
    · exact plays_long a0 c0 l.length _ W hn
    · exact plays_walk a0 b off c0 l a1 b2 off2 c1 acts W (by omega) ha hb hc hcap ha2 hb2 hc2 (by omega)
  refine walk.mono fun e W' ⟨he, hb⟩ => ?_
  subst he
  exact ⟨_, rfl, law_post memPlays_laid (by kernel_rfl) rfl hW' hb rfl (tb := 4) (by kernel_rfl) Try.underlying4⟩

theorem memPlays_holds : Rows.MemPlaysSaid :=
  OpenClaim.holds_of_wide 7 Try.f7 rfl rfl rfl rfl rfl rfl rfl ⟨rfl, rfl, rfl, rfl, rfl⟩ rfl rfl rfl rfl rfl (by kernel_rfl) Try.func7 (by kernel_rfl)
    (of_decide_eq_true (by kernel_rfl)) (by unfold Func.isWrapper; first | (rw [if_pos (by decide +kernel)]; kernel_rfl) | (rw [if_neg (by decide +kernel)]; exact ⟨rfl, rfl⟩))
    (fun os started H enc _ => memPlays_lifted os started H enc)
end Go.Proofs.Ytehcfflofacapaa
