/- The types of layer 17, plainly; the effects' walks. -/
import Derived.Test.YtlcnhmijagddgaaSA
import Derived.Test.YtlcnhmijagddgaaShelf
import Derived.Laws.EntriesVeiled
import Derived.Lib.OwnBridge
import Derived.Deep.AppendLies
namespace Go.Proofs.Ytlcnhmijagddgaa
open Go.ChangeShapes Go.WideShapes Go.ChangeAt Go.RowKit
set_option linter.unusedVariables false

def sqIs (t : Int) : Bool := decide (0 ≤ t) && decide (t ≤ 7)
def sqLo (t : Nat) : Nat := if t = 2 ∨ t = 3 then 0 else if t = 7 then 8 else 1
def sqHi (t : Nat) : Nat := if t = 2 ∨ t = 3 ∨ t = 7 then 8 else 1
def sqN (t : Nat) : Nat := if t = 2 ∨ t = 3 ∨ t = 4 then 3 else 2
def sqOk (t n : Nat) : Prop := sqLo t ≤ n ∧ n ≤ sqHi t
/-- what an operation makes of a state: the state then, the number, and the error -/
def sqDo : Nat → Nat → List Nat → Nat → List Nat × Nat × Nat
  | 0, 0, l, _ => (l, l.headD 0, 0)
  | 0, _, l, a => ([a], l.headD 0, 0)
  | 1, 0, l, _ => (l, l.headD 0, 0)
  | 1, _, l, a => ([(l.headD 0 + a) % 18446744073709551616], l.headD 0, 0)
  | 2, 0, l, a => if 8 ≤ l.length then (l, 0, 6) else (l ++ [a], 0, 0)
  | 2, 1, l, _ => if l.length = 0 then (l, 0, 7) else (l.dropLast, l.getLastD 0, 0)
  | 2, _, l, _ => if l.length = 0 then (l, 0, 7) else (l, l.getLastD 0, 0)
  | 3, 0, l, a => if 8 ≤ l.length then (l, 0, 6) else (l ++ [a], 0, 0)
  | 3, 1, l, _ => if l.length = 0 then (l, 0, 7) else (l.tail, l.headD 0, 0)
  | 3, _, l, _ => if l.length = 0 then (l, 0, 7) else (l, l.headD 0, 0)
  | 4, 0, l, a => if 64 ≤ a then (l, 0, 10) else (l, l.headD 0 / 2 ^ a % 2, 0)
  | 4, 1, l, a => if 64 ≤ a then (l, 0, 10) else if l.headD 0 / 2 ^ a % 2 = 0 then ([l.headD 0 + 2 ^ a], 1, 0) else (l, 0, 0)
  | 4, _, l, a => if 64 ≤ a then (l, 0, 10) else if l.headD 0 / 2 ^ a % 2 = 1 then ([l.headD 0 - 2 ^ a], 1, 0) else (l, 0, 0)
  | 5, 0, l, _ => (l, l.headD 0, 0)
  | 5, _, l, a => if l.headD 0 < a then ([a], l.headD 0, 0) else (l, l.headD 0, 0)
  | 6, 0, l, _ => (l, l.headD 0, 0)
  | 6, _, l, a => if l.headD 0 = a / 65536 % 65536 then ([a % 65536], 1, 0) else (l, 0, 0)
  | _, 0, l, a => if 8 ≤ a then (l, 0, 10) else (l, l.getD a 0, 0)
  | _, _, l, a => if 8 ≤ a / 16777216 then (l, 0, 10) else (l.set (a / 16777216) (a % 16777216), l.getD (a / 16777216) 0, 0)

/-- what an effect leaves -/
def EffP (B : Nat) (W : World) (r : List Nat × Nat × Nat) (e : Ending) (w' : World) : Prop :=
  ∃ v', e = .returned (.tuple #[v', .int .u64 (r.2.1 : Int), .int .i64 (r.2.2 : Int)]) ∧ OwnW w' B v' r.1 ∧ Below B W w'

set_option maxHeartbeats 400000 in
theorem eff_look (v : Value) (x a B : Nat) (w : World) (h : OwnW w B v [x]) :
    Calls Try.prog 24 #[v, .int .u64 (a : Int)] w (EffP B w ([x], x, 0)) := by
  obtain ⟨g, cap, rfl, hg, hlt, hc, hf⟩ := h.opened (by simp)
  have HO := Lib.hid h
  have d0 := hc 0 x rfl
  clear h hc hf
  simp only [List.length_singleton] at *
  go_enter Try.func24, Try.ntmps24
  go_wp2_with fail
  go_quiet (fail)
  go_wp2
  go_ret3
  exact ⟨_, rfl, HO.out.drewN _, below_drewN (Below.refl _ _) _⟩

set_option maxHeartbeats 400000 in
theorem eff_showFirst (v : Value) (l : List Nat) (a B : Nat) (w : World) (h : OwnW w B v l) :
    Calls Try.prog 32 #[v, .int .u64 (a : Int)] w fun e w' => e = .returned (.tuple #[v, .int .u64 ((if l.length = 0 then 0 else l.headD 0 : Nat) : Int), .int .i64 ((if l.length = 0 then 7 else 0 : Nat) : Int)]) ∧ ∃ m, w' = w.drewN m := by
  rcases l with _ | ⟨x, l⟩
  · obtain ⟨ao, cap, rfl⟩ := h.arg.isSlice
    clear h
    go_enter Try.func32, Try.ntmps32
    go_wp2_with fail
    go_ret3
    exact ⟨rfl, 0, rfl⟩
  · obtain ⟨g, cap, rfl, hg, hlt, hc, hf⟩ := h.opened (by simp)
    have d0 := hc 0 x rfl
    clear h hc hf
    obtain ⟨n, hn⟩ : ∃ n, (x :: l).length = n + 1 := ⟨l.length, rfl⟩
    rw [hn]
    go_enter Try.func32, Try.ntmps32
    go_wp2_with fail
    go_quiet (fail)
    go_wp2
    go_ret3
    exact ⟨by simp, _, rfl⟩

set_option maxHeartbeats 400000 in
theorem eff_showLast (v : Value) (l : List Nat) (a B : Nat) (w : World) (h : OwnW w B v l) (hl : l.length ≤ 8) :
    Calls Try.prog 30 #[v, .int .u64 (a : Int)] w fun e w' => e = .returned (.tuple #[v, .int .u64 ((if l.length = 0 then 0 else l.getLastD 0 : Nat) : Int), .int .i64 ((if l.length = 0 then 7 else 0 : Nat) : Int)]) ∧ ∃ m, w' = w.drewN m := by
  rcases l with _ | ⟨x, l⟩
  · obtain ⟨ao, cap, rfl⟩ := h.arg.isSlice
    clear h
    go_enter Try.func30, Try.ntmps30
    go_wp2_with fail
    go_ret3
    exact ⟨rfl, 0, rfl⟩
  · obtain ⟨g, cap, rfl, hg, hlt, hc, hf⟩ := h.opened (by simp)
    have d0 := hc l.length ((x :: l).getLastD 0) (by rw [List.getLastD_eq_getLast?, List.getLast?_eq_getElem?]; simp)
    have HE : Hid ((if (x :: l).length = 0 then 0 else (x :: l).getLastD 0 : Nat) = (x :: l).getLastD 0) := Lib.hid (by simp)
    have HE2 : Hid ((if (x :: l).length = 0 then 7 else 0 : Nat) = 0) := Lib.hid (by simp)
    clear h hc hf
    generalize (x :: l).getLastD 0 = z at *
    generalize hI : (if (x :: l).length = 0 then 0 else z : Nat) = I1 at *
    generalize hI2 : (if (x :: l).length = 0 then 7 else 0 : Nat) = I2 at *
    clear hI hI2
    obtain ⟨n, hn⟩ : ∃ n, (x :: l).length = n + 1 := ⟨l.length, rfl⟩
    have hnl : l.length = n := by simpa using hn
    rw [hnl] at d0
    rw [hn] at hl ⊢
    clear hn hnl
    go_enter Try.func30, Try.ntmps30
    go_wp2_with fail
    go_quiet (fail)
    go_wp2
    go_ret3
    exact ⟨by rw [HE.out, HE2.out]; rfl, _, rfl⟩
end Go.Proofs.Ytlcnhmijagddgaa
