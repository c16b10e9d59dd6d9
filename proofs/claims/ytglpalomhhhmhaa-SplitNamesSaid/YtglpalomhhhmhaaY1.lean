/- Walks of loom: Invoke, and the steps of single accesses. -/
import Derived.Test.YtglpalomhhhmhaaU6
import Derived.Test.YtglpalomhhhmhaaN4w
namespace Go.Proofs.Ytglpalomhhhmhaa
open Go.RowKit

def callAgg (x : CallV) : Value := .agg #[.int .i64 x.t, .int .i64 x.o, .int .i64 x.k, .int .u64 x.a, .int .u64 x.b, .int .u64 x.c]

set_option maxHeartbeats 1000000 in
theorem nowhere_any (x : CallV) (w : World) : Calls Try.prog 69 #[.agg #[], callAgg x] w fun e w' => e = .returned (.tuple #[.nilIface, .int .i64 12]) ∧ Below w.heap.size w w' := by
  unfold callAgg
  go_enter Try.func69, Try.ntmps69
  go_wp2
  go_ret2
  exact ⟨rfl, ((Below.refl _ _).alloc (Nat.le_refl _) _).alloc (by simp) _⟩

def turnAgg (bm : Nat) (tick : Int) : Value := .agg #[.iface 71 (.pointer (some ⟨bm, 0, none⟩)), .int .i64 tick]
/-- what a step that responds leaves -/
def StepEnd (err val : Int) (bm bw : Nat) (l : List Nat) (c : Cn) (w : World) (e : Ending) (w' : World) : Prop :=
  e = .returned (.tuple #[.agg #[.int .i64 err, .int .u64 val, .slice none 0 0], .bool true]) ∧ MemIs 108 w' bm bw l c ∧ But bm bw w w'

set_option maxHeartbeats 1000000 in
theorem refusal_step (r : Int) (bm bw : Nat) (tick : Int) (l : List Nat) (c : Cn) (w : World) (hM : MemIs 108 w bm bw l c) :
    Calls Try.prog 68 #[.agg #[.int .i64 r], turnAgg bm tick] w (StepEnd r 0 bm bw l c w) := by
  unfold turnAgg
  have HM := Lib.hid hM
  clear hM
  go_enter Try.func68, Try.ntmps68
  go_wp2
  exact bodyPost_ret (v := .tuple #[.agg #[.int .i64 r, .int .u64 0, .slice none 0 0], .bool true]) (by simp [results, Try.results68, go_sem]) rfl ⟨rfl, ((HM.out.alloc _).alloc _).alloc _, (((But.refl _ _ _).alloc _).alloc _).alloc _⟩

theorem answer_store {w w4 : World} {g bm bw : Nat} {l : List Nat} {c : Cn} {a b d : Value} (a' b' d' : Value) (hk : RowBlk 39 w4 g [a, b, d]) (hM : MemIs 108 w4 bm bw l c) (hB : But bm bw w w4) (hg : w.heap.size ≤ g) (h1 : g ≠ bm) (h2 : g ≠ bw) :
    RowBlk 39 (((w4.setCell ⟨g, 0, none⟩ a').setCell ⟨g, 1, none⟩ b').setCell ⟨g, 2, none⟩ d') g [a', b', d'] ∧ MemIs 108 (((w4.setCell ⟨g, 0, none⟩ a').setCell ⟨g, 1, none⟩ b').setCell ⟨g, 2, none⟩ d') bm bw l c ∧
      But bm bw w (((w4.setCell ⟨g, 0, none⟩ a').setCell ⟨g, 1, none⟩ b').setCell ⟨g, 2, none⟩ d') := by
  refine ⟨((hk.put 0 a').put 1 b').put 2 d', ((hM.setNew _ _ h1 h2).setNew _ _ h1 h2).setNew _ _ h1 h2, ((hB.setNew _ _ hg).setNew _ _ hg).setNew _ _ hg⟩

theorem m_Read (a : Addr) (w : World) : (method 276 71 (.pointer (some a)) "Read").run Try.prog w = .ok (86, .pointer (some a)) w := by kernel_rfl
theorem m_Write (a : Addr) (w : World) : (method 276 71 (.pointer (some a)) "Write").run Try.prog w = .ok (88, .pointer (some a)) w := by kernel_rfl
theorem m_Swap (a : Addr) (w : World) : (method 276 71 (.pointer (some a)) "Swap").run Try.prog w = .ok (87, .pointer (some a)) w := by kernel_rfl
theorem m_Add (a : Addr) (w : World) : (method 276 71 (.pointer (some a)) "Add").run Try.prog w = .ok (85, .pointer (some a)) w := by kernel_rfl

end Go.Proofs.Ytglpalomhhhmhaa
