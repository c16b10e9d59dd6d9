/- What the program's types of numbers are. -/
import Derived.Test.YtjbbcflifoakhaaProg
import Derived.Test.YtjbbcflifoakhaaK
namespace Go.Proofs.Ytjbbcflifoakhaa
theorem info22 : (Try.prog.info? 37).map (fun i => (i.zero, i.size, i.bytes)) = some (some (.int .u64 0), 1, 8) := by kernel_rfl
end Go.Proofs.Ytjbbcflifoakhaa
