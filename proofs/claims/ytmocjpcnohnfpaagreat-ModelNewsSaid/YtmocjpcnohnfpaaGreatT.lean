/- What the program's types of numbers are. -/
import Derived.Test.YtmocjpcnohnfpaaGreatProg
import Derived.Test.YtmocjpcnohnfpaaGreatK
namespace Go.Proofs.YtmocjpcnohnfpaaGreat
theorem info22 : (Tryz.prog.info? 25).map (fun i => (i.zero, i.size, i.bytes)) = some (some (.int .u64 0), 1, 8) := by kernel_rfl
end Go.Proofs.YtmocjpcnohnfpaaGreat
