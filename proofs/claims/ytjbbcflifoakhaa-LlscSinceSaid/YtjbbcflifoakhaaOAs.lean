/- The memory's swap, as a machine makes it. -/
import Derived.Test.YtjbbcflifoakhaaOA
import Derived.Test.YtjbbcflifoakhaaN2s
namespace Go.Proofs.Ytjbbcflifoakhaa
open Go.RowKit
section
variable {bm bw i : Nat} {l : List Nat} {c : Cn} {w : World}
theorem sw_acc (x y : Nat) (hM : MemIs 106 w bm bw l c) (hi : i < l.length) (hn : l.length ≤ 65536) (hc : c.s < 9223372036854775807) :
    Calls Try.prog 73 #[.pointer (some ⟨bm, 0, none⟩), .int .i64 i, .int .u64 x, .int .u64 y] w (AccPost (.bool (decide (l.getD i 0 = x))) (.sw i x y) bm bw l c w) := by
  by_cases h : l.getD i 0 = x
  · have e1 : (Acc.sw i x y).run l c = (1, l.set i y, { c with s := c.s + 1 }) := by simp only [Acc.run]; rw [if_pos h]
    unfold AccPost
    rw [e1, decide_eq_true h]
    subst h
    exact swap_hit bm bw i _ y l c w hM (getD_get hi) hn hc
  · have e1 : (Acc.sw i x y).run l c = (0, l, { c with s := c.s + 1 }) := by simp only [Acc.run]; rw [if_neg h]
    unfold AccPost
    rw [e1, decide_eq_false h]
    exact swap_miss bm bw i _ x y l c w hM (getD_get hi) hn hc h
end
end Go.Proofs.Ytjbbcflifoakhaa
