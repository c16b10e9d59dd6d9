/- What the program's types of numbers are. -/
import Derived.Test.YtjbadkfnpgchdaaProg
import Derived.Test.YtjbadkfnpgchdaaK
namespace Go.Proofs.Ytjbadkfnpgchdaa
theorem info22 : (Try.prog.info? 48).map (fun i => (i.zero, i.size, i.bytes)) = some (some (.int .u64 0), 1, 8) := by kernel_rfl
end Go.Proofs.Ytjbadkfnpgchdaa
