/- What the program's types of numbers are. -/
import Derived.Test.YtehcfflofacapaaProg
import Derived.Test.YtehcfflofacapaaK
namespace Go.Proofs.Ytehcfflofacapaa
theorem info22 : (Try.prog.info? 22).map (fun i => (i.zero, i.size, i.bytes)) = some (some (.int .u64 0), 1, 8) := by kernel_rfl
end Go.Proofs.Ytehcfflofacapaa
