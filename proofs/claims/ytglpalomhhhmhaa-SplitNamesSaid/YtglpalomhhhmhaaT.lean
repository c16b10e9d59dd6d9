/- What the program's types of numbers are. -/
import Derived.Test.YtglpalomhhhmhaaProg
import Derived.Test.YtglpalomhhhmhaaK
namespace Go.Proofs.Ytglpalomhhhmhaa
theorem info22 : (Try.prog.info? 37).map (fun i => (i.zero, i.size, i.bytes)) = some (some (.int .u64 0), 1, 8) := by kernel_rfl
end Go.Proofs.Ytglpalomhhhmhaa
