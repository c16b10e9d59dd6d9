/- What the program's types of numbers are. -/
import Derived.Test.YtehcfflofacapabProg
import Derived.Test.YtehcfflofacapabK
namespace Go.Proofs.Ytehcfflofacapab
theorem info22 : (Try.prog.info? 24).map (fun i => (i.zero, i.size, i.bytes)) = some (some (.int .u64 0), 1, 8) := by kernel_rfl
end Go.Proofs.Ytehcfflofacapab
