/- What the program's types of numbers are. -/
import Derived.Test.YtcmgpniipfhldaaProg
import Derived.Test.YtcmgpniipfhldaaK
namespace Go.Proofs.Ytcmgpniipfhldaa
theorem info22 : (Try.prog.info? 29).map (fun i => (i.zero, i.size, i.bytes)) = some (some (.int .u64 0), 1, 8) := by kernel_rfl
end Go.Proofs.Ytcmgpniipfhldaa
