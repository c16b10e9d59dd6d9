/- cut's laws: what is too much for a statement; the example. -/
import Derived.Test.YthacohejdpjjeaaCTI
import Derived.Test.YthacohejdpjjeaaCTH
import Derived.Laws.StructEq
namespace Go.Proofs.Ythacohejdpjjeaa
open Go.RowKit Go.Lib Go.Sort
set_option linter.unusedVariables false
set_option linter.unusedSimpArgs false

def manyP (nb np : Nat) : Bool := ((decide ((60 : Int) < (nb : Int)) && decide ((nb : Int) ≤ 1000)) || (decide ((600 : Int) < (np : Int)) && decide ((np : Int) ≤ 65536))) || decide ((1100 : Int) < (nb : Int))
def largeP (na nb np : Nat) : Bool := decide ((20 : Int) < (na : Int)) || manyP nb np
def manyS (na nb np nl : Nat) : Bool := largeP na nb np || decide ((100 : Int) < (nl : Int))
theorem manyS_no {na nb np nl : Nat} (h : manyS na nb np nl = false) : nb ≤ 1100 ∧ nl ≤ 100 := by
  unfold manyS largeP manyP at h
  simp only [Bool.or_eq_false_iff, decide_eq_false_iff_not] at h
  omega
set_option maxHeartbeats 4000000 in
theorem manyP_any (cao : Option Addr) (nb cc : Nat) (pao : Option Addr) (np pc : Nat) (w : World) :
    Calls Try.prog 37 #[.slice cao nb cc, .slice pao np pc] w fun e w' => e = .returned (.bool (manyP nb np)) ∧ w = w' := by
  unfold manyP
  cases ha : decide ((60 : Int) < (nb : Int)) <;> cases hb : decide ((nb : Int) ≤ 1000) <;> cases hc : decide ((600 : Int) < (np : Int)) <;> cases hd : decide ((np : Int) ≤ 65536) <;> cases he : decide ((1100 : Int) < (nb : Int)) <;>
    (go_enter Try.func37, Try.ntmps37
     go_wp2
     go_ret
     exact ⟨rfl, rfl⟩)
abbrev scnV (n : Int) (s c p : Value) : Value := .agg #[.int .i64 n, s, c, p]
abbrev scnO (n : Int) (s c p : Value) : Obj := .cells #[.int .i64 n, s, c, p] 26
set_option maxHeartbeats 1000000 in
theorem largeP_any (n : Int) (sao cao pao : Option Addr) (na sc nb cc np pc : Nat) (w : World) :
    Calls Try.prog 18 #[scnV n (.slice sao na sc) (.slice cao nb cc) (.slice pao np pc)] w fun e w' => e = .returned (.bool (largeP na nb np)) ∧ Below w.heap.size w w' := by
  have HM := Lib.hid (fun w => manyP_any cao nb cc pao np pc w)
  have HB : Hid (Below w.heap.size w (w.alloc (scnO n (.slice sao na sc) (.slice cao nb cc) (.slice pao np pc)))) := Lib.hid ((Below.refl _ _).alloc (Nat.le_refl _) _)
  unfold largeP
  cases ha : decide ((20 : Int) < (na : Int))
  · rw [Bool.false_or]
    generalize manyP nb np = m at HM ⊢
    go_enter Try.func18, Try.ntmps18
    go_wp2_with (go_at_call 37; refine (HM.out _).mono ?_; rintro e w5 ⟨rfl, rfl⟩)
    go_ret
    exact ⟨rfl, HB.out⟩
  · rw [Bool.true_or]
    go_enter Try.func18, Try.ntmps18
    go_wp2_with fail
    go_ret
    exact ⟨rfl, HB.out⟩
set_option maxHeartbeats 1000000 in
theorem manyS_any (n : Int) (sao cao pao : Option Addr) (na sc nb cc np pc : Nat) (ea : Option Addr) (nl ec : Nat) (w : World) :
    Calls Try.prog 6 #[scnV n (.slice sao na sc) (.slice cao nb cc) (.slice pao np pc), .slice ea nl ec] w fun e w' => e = .returned (.bool (manyS na nb np nl)) ∧ Below w.heap.size w w' := by
  have HL : Hid (∀ W, Below w.heap.size w W → Calls Try.prog 18 #[.agg #[.int .i64 n, .slice sao na sc, .slice cao nb cc, .slice pao np pc]] W fun e w' => e = .returned (.bool (largeP na nb np)) ∧ Below w.heap.size w w') := Lib.hid (fun W hW => (largeP_any n sao cao pao na sc nb cc np pc W).mono (fun e w' ⟨h1, h2⟩ => ⟨h1, hW.trans (h2.mono hW.size)⟩))
  have HB : Hid (Below w.heap.size w (w.alloc (scnO n (.slice sao na sc) (.slice cao nb cc) (.slice pao np pc)))) := Lib.hid ((Below.refl _ _).alloc (Nat.le_refl _) _)
  unfold manyS
  cases hl : largeP na nb np
  · rw [hl] at HL
    rw [Bool.false_or]
    cases hd : decide ((100 : Int) < (nl : Int)) <;>
      (go_enter Try.func6, Try.ntmps6
       go_wp2_with (go_at_call 18; refine (HL.out _ HB.out).mono ?_; rintro e w5 ⟨rfl, hb5⟩; (have HB5 := Lib.hid hb5); clear hb5)
       go_ret
       exact ⟨rfl, HB5.out⟩)
  · rw [hl] at HL
    rw [Bool.true_or]
    go_enter Try.func6, Try.ntmps6
    go_wp2_with (go_at_call 18; refine (HL.out _ HB.out).mono ?_; rintro e w5 ⟨rfl, hb5⟩; (have HB5 := Lib.hid hb5); clear hb5)
    go_ret
    exact ⟨rfl, HB5.out⟩

theorem tk_eq (a b : Int) (c d : Bool) (w : World) : (binOp .eql 46 (.agg #[.int .i64 a, .int .i64 b, .bool c, .bool d]) (.agg #[.int .i64 a, .int .i64 b, .bool c, .bool d])).run Try.prog w = .ok (.bool true) w := by
  have u3 := Try.underlying3
  have u4 := Try.underlying4
  have hS : Try.prog.underlying 46 = some (.struct (Try.prog.fieldsOf 46)) := by kernel_rfl
  have hp : Try.prog.stoodInHeld 46 = false := by kernel_rfl
  rw [run_eql_struct, show (10000 : Nat) = 9999 + 1 from rfl, run_equalIn_agg w 9999 46 _ _ hS hp]
  simp only [Program.fieldsOf, Try.underlying46]
  go_simp
theorem tk_ne (a b : Int) (c d : Bool) (w : World) : (binOp .neq 46 (.agg #[.int .i64 a, .int .i64 b, .bool c, .bool d]) (.agg #[.int .i64 a, .int .i64 b, .bool c, .bool d])).run Try.prog w = .ok (.bool false) w := by
  have u3 := Try.underlying3
  have u4 := Try.underlying4
  have hS : Try.prog.underlying 46 = some (.struct (Try.prog.fieldsOf 46)) := by kernel_rfl
  have hp : Try.prog.stoodInHeld 46 = false := by kernel_rfl
  rw [run_neq_struct, show (10000 : Nat) = 9999 + 1 from rfl, run_equalIn_agg w 9999 46 _ _ hS hp]
  simp only [Program.fieldsOf, Try.underlying46]
  go_simp

def cs0 : List CallV := [⟨0, 0, 0, 0, 0, 0⟩, ⟨1, 0, 0, 0, 0, 0⟩]
def le0 : List (EvX × EvS) := [(⟨1, 1, 1, 1, 0, 0, [], []⟩, s0), (⟨0, 2, 2, 1, 0, 0, [], []⟩, s0)]
def ps0 : List Int := [1, 0, 0]
theorem wrong0 : wrongC 2 (thr cs0) ps0.length = 0 := by decide
theorem ticks0 : ticksOf (thr cs0) (exs le0) ps0 = [1, 0] := by kernel_rfl
theorem rows0 : tkRows (thr cs0) (exs le0) 0 [1, 0] = [.int .i64 1, .int .i64 1, .bool true, .bool true, .int .i64 0, .int .i64 0, .bool true, .bool true] := by kernel_rfl
theorem at0 : atOf 1 [1, 0] (exs le0) = [⟨1, 1, 1, 1, 0, 0, [], []⟩] := by kernel_rfl
theorem calls0 {w : World} {g : Nat} {t : TypeId} (h : RowBlk t w g [.int .i64 0, .int .i64 0, .int .i64 0, .int .u64 0, .int .u64 0, .int .u64 0, .int .i64 1, .int .i64 0, .int .i64 0, .int .u64 0, .int .u64 0, .int .u64 0]) : CallsAt w g 0 cs0 := by
  intro i x hx
  match i, hx with
  | 0, hx =>
    obtain rfl : (⟨0, 0, 0, 0, 0, 0⟩ : CallV) = x := by simpa [cs0] using hx
    exact ⟨h.cell rfl, h.cell rfl, h.cell rfl, h.cell rfl, h.cell rfl, h.cell rfl, by simp, by simp, by simp, by simp, by simp, by simp⟩
  | 1, hx =>
    obtain rfl : (⟨1, 0, 0, 0, 0, 0⟩ : CallV) = x := by simpa [cs0] using hx
    exact ⟨h.cell rfl, h.cell rfl, h.cell rfl, h.cell rfl, h.cell rfl, h.cell rfl, by simp, by simp, by simp, by simp, by simp, by simp⟩
  | i + 2, hx => simp [cs0] at hx
theorem evs0 {w : World} {g : Nat} {t : TypeId} (h : RowBlk t w g [.int .i64 1, .int .i64 1, .int .i64 1, .int .i64 1, .int .i64 0, .int .u64 0, .slice none 0 0, .slice none 0 0, .int .i64 0, .int .i64 2, .int .i64 2, .int .i64 1, .int .i64 0, .int .u64 0, .slice none 0 0, .slice none 0 0]) : EvsR w (some ⟨g, 0, none⟩) g 0 le0 := by
  refine ⟨fun _ => rfl, fun _ => h.lt, fun i p hp k u hu => ?_, fun p hp => ?_⟩
  · match i, hp with
    | 0, hp =>
      obtain rfl : ((⟨1, 1, 1, 1, 0, 0, [], []⟩, s0) : EvX × EvS) = p := by simpa [le0] using hp
      refine h.cell ?_
      match k, hu with
      | 0, hu => exact hu
      | 1, hu => exact hu
      | 2, hu => exact hu
      | 3, hu => exact hu
      | 4, hu => exact hu
      | 5, hu => exact hu
      | 6, hu => exact hu
      | 7, hu => exact hu
      | k + 8, hu => simp [evVs] at hu
    | 1, hp =>
      obtain rfl : ((⟨0, 2, 2, 1, 0, 0, [], []⟩, s0) : EvX × EvS) = p := by simpa [le0] using hp
      refine h.cell ?_
      match k, hu with
      | 0, hu => exact hu
      | 1, hu => exact hu
      | 2, hu => exact hu
      | 3, hu => exact hu
      | 4, hu => exact hu
      | 5, hu => exact hu
      | 6, hu => exact hu
      | 7, hu => exact hu
      | k + 8, hu => simp [evVs] at hu
    | i + 2, hp => simp [le0] at hp
  · have hz : I63 0 ∧ I63 1 ∧ I63 2 := by unfold I63; omega
    simp [le0] at hp
    rcases hp with rfl | rfl
    · exact ⟨⟨hz.2.1, hz.2.1, hz.2.1, hz.2.1, hz.1, by show 0 < _; omega, fun x hx => by simp at hx, fun x hx => by simp at hx⟩, EvR.none _ _ rfl rfl⟩
    · exact ⟨⟨hz.1, hz.2.2, hz.2.2, hz.2.1, hz.1, by show 0 < _; omega, fun x hx => by simp at hx, fun x hx => by simp at hx⟩, EvR.none _ _ rfl rfl⟩
theorem picks0 {w : World} {g : Nat} {t : TypeId} (h : RowBlk t w g [.int .i64 1, .int .i64 0, .int .i64 0]) : ICells w g 0 ps0 := by
  intro i x hx
  match i, hx with
  | 0, hx => obtain rfl : (1 : Int) = x := by simpa [ps0] using hx
             exact ⟨h.cell rfl, by omega⟩
  | 1, hx => obtain rfl : (0 : Int) = x := by simpa [ps0] using hx
             exact ⟨h.cell rfl, by omega⟩
  | 2, hx => obtain rfl : (0 : Int) = x := by simpa [ps0] using hx
             exact ⟨h.cell rfl, by omega⟩
  | i + 3, hx => simp [ps0] at hx
end Go.Proofs.Ythacohejdpjjeaa
