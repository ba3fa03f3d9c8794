import Derived.Test.YteebjgfalllbjaaGreatDoorProg
import Derived.Test.YteebjgfalllbjaaGreatDoorRows
import Derived.Lib.LaidTab
import Derived.Stop.LaidErr
namespace Go.Proofs.YteebjgfalllbjaaGreatDoor
open Go.Proofs.Tryz
theorem nW:prog.globalNamed "internal/strconv.uint64pow10" =some 1:=by kernel_rfl
theorem jf{W:World}(h:laidMet prog [("math/bits.deBruijn32tab",Rows.laid_math_bits_deBruijn32tab),("math/bits.deBruijn64tab",Rows.laid_math_bits_deBruijn64tab),("internal/strconv.uint64pow10",Rows.laid_internal_strconv_uint64pow10)] W):W.cell? ⟨1,2,none⟩=some (.int .u64 100):=by have a:laidMet prog [("internal/strconv.uint64pow10",Lib.tabData .u64 [1,10,100,1000,10000,100000,1000000,10000000,100000000,1000000000,10000000000,100000000000,1000000000000,10000000000000,100000000000000,1000000000000000,10000000000000000,100000000000000000,1000000000000000000,10000000000000000000])] W:=laidMet.tail (laidMet.tail h);have b:=Lib.tabIs_of_head nW (t:=280) (by kernel_rfl) underlying280 underlying272 (by kernel_rfl) (by kernel_rfl) a;have:=b.cell nW 2 (by decide);simpa using this
end Go.Proofs.YteebjgfalllbjaaGreatDoor
