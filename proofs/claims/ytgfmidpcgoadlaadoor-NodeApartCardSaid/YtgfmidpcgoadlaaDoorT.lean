/- What the program's types of numbers are. -/
import Derived.Test.YtgfmidpcgoadlaaDoorProg
import Derived.Test.YtgfmidpcgoadlaaDoorK
namespace Go.Proofs.YtgfmidpcgoadlaaDoor
theorem info22 : (Tryd.prog.info? 22).map (fun i => (i.zero, i.size, i.bytes)) = some (some (.int .u64 0), 1, 8) := by kernel_rfl
end Go.Proofs.YtgfmidpcgoadlaaDoor
