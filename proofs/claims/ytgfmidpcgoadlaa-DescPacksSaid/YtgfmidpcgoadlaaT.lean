/- What the program's types of numbers are. -/
import Derived.Test.YtgfmidpcgoadlaaProg
import Derived.Test.YtgfmidpcgoadlaaK
namespace Go.Proofs.Ytgfmidpcgoadlaa
theorem info22 : (Try.prog.info? 22).map (fun i => (i.zero, i.size, i.bytes)) = some (some (.int .u64 0), 1, 8) := by kernel_rfl
end Go.Proofs.Ytgfmidpcgoadlaa
