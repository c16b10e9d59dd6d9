/- What the program's types of numbers are. -/
import Derived.Test.YtcedfcdhdgmelaaProg
import Derived.Test.YtcedfcdhdgmelaaK
namespace Go.Proofs.Ytcedfcdhdgmelaa
theorem info22 : (Try.prog.info? 43).map (fun i => (i.zero, i.size, i.bytes)) = some (some (.int .u64 0), 1, 8) := by kernel_rfl
end Go.Proofs.Ytcedfcdhdgmelaa
