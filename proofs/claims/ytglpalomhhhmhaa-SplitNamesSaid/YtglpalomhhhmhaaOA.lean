/- The memory's accesses, as a machine makes them. -/
import Derived.Test.YtglpalomhhhmhaaZC
namespace Go.Proofs.Ytglpalomhhhmhaa
open Go.RowKit
theorem getD_get {l : List Nat} {i : Nat} (h : i < l.length) : l[i]? = some (l.getD i 0) := by rw [List.getD_eq_getElem?_getD, List.getElem?_eq_getElem h]; rfl
def AccPost (v : Value) (x : Acc) (bm bw : Nat) (l : List Nat) (c : Cn) (w : World) (e : Ending) (w' : World) : Prop :=
  e = .returned v ∧ MemIs 108 w' bm bw (x.run l c).2.1 (x.run l c).2.2 ∧ But bm bw w w'
section
variable {bm bw i : Nat} {l : List Nat} {c : Cn} {w : World}
theorem rd_acc (hM : MemIs 108 w bm bw l c) (hi : i < l.length) (hn : l.length ≤ 65536) (hc : c.r < 9223372036854775807) :
    Calls Try.prog 86 #[.pointer (some ⟨bm, 0, none⟩), .int .i64 i] w (AccPost (.int .u64 (l.getD i 0 : Nat)) (.rd i) bm bw l c w) := read_ok bm bw i _ l c w hM (getD_get hi) hn hc
theorem wr_acc (y : Nat) (hM : MemIs 108 w bm bw l c) (hi : i < l.length) (hn : l.length ≤ 65536) (hc : c.w < 9223372036854775807) : Calls Try.prog 88 #[.pointer (some ⟨bm, 0, none⟩), .int .i64 i, .int .u64 y] w (AccPost (.tuple #[]) (.wr i y) bm bw l c w) := write_ok bm bw i _ y l c w hM (getD_get hi) hn hc
end
end Go.Proofs.Ytglpalomhhhmhaa
