/- What the program's types of numbers are. -/
import Derived.Test.YtihhjbcphdnkhaaProg
import Derived.Test.YtihhjbcphdnkhaaK
namespace Go.Proofs.Ytihhjbcphdnkhaa
theorem info22 : (Try.prog.info? 46).map (fun i => (i.zero, i.size, i.bytes)) = some (some (.int .u64 0), 1, 8) := by kernel_rfl
end Go.Proofs.Ytihhjbcphdnkhaa
