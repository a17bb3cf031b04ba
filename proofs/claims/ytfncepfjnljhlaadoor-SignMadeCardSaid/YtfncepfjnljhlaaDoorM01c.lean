/- Two digests, reckoned. -/
import Derived.Test.YtfncepfjnljhlaaDoorM01b
namespace Go
namespace YtfncepfjnljhlaaDoor
set_option maxRecDepth 100000
theorem sha_empty : (ith (shaF []) 0 == 227 && ith (shaF []) 1 == 176 && ith (shaF []) 2 == 196 && ith (shaF []) 3 == 66 && ith (shaF []) 31 == 85) = true := by decide +kernel
theorem sha_abc : (ith (shaF [97, 98, 99]) 0 == 186 && ith (shaF [97, 98, 99]) 1 == 120 && ith (shaF [97, 98, 99]) 2 == 22 && ith (shaF [97, 98, 99]) 3 == 191 && ith (shaF [97, 98, 99]) 31 == 173) = true := by decide +kernel
theorem shaF_length (l : List Int) : (shaF l).length = 32 := writtenN_length _ 8
end YtfncepfjnljhlaaDoor
end Go
