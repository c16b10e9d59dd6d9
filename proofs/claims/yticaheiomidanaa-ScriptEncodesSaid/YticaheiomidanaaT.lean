/- What the program's types of numbers are. -/
import Derived.Test.YticaheiomidanaaProg
import Derived.Test.YticaheiomidanaaK
namespace Go.Proofs.Yticaheiomidanaa
theorem info22 : (Try.prog.info? 54).map (fun i => (i.zero, i.size, i.bytes)) = some (some (.int .u64 0), 1, 8) := by kernel_rfl
end Go.Proofs.Yticaheiomidanaa
