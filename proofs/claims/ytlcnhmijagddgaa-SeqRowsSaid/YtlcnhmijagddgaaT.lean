/- What the program's types of numbers are. -/
import Derived.Test.YtlcnhmijagddgaaProg
import Derived.Test.YtlcnhmijagddgaaK
namespace Go.Proofs.Ytlcnhmijagddgaa
theorem info22 : (Try.prog.info? 29).map (fun i => (i.zero, i.size, i.bytes)) = some (some (.int .u64 0), 1, 8) := by kernel_rfl
end Go.Proofs.Ytlcnhmijagddgaa
