/- What the program's types of numbers are. -/
import Derived.Test.YtgmgpbplgiicoaaProg
import Derived.Test.YtgmgpbplgiicoaaK
namespace Go.Proofs.Ytgmgpbplgiicoaa
theorem info22 : (Try.prog.info? 23).map (fun i => (i.zero, i.size, i.bytes)) = some (some (.int .u64 0), 1, 8) := by kernel_rfl
end Go.Proofs.Ytgmgpbplgiicoaa
