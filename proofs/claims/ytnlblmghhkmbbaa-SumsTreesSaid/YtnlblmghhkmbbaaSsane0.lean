/- The facts that the laws' common test asks for, by the kernel's reckoning. -/
import Derived.Test.YtnlblmghhkmbbaaScheck
import Derived.Test.YtnlblmghhkmbbaaSwin
import Derived.Test.YtnlblmghhkmbbaaSprove
import Derived.Test.YtnlblmghhkmbbaaSende
import Derived.Test.YtnlblmghhkmbbaaSdig
namespace Go.Proofs.Ytnlblmghhkmbbaa
open Go.RowKit

/-- The three leaves, the digest beside the last, and the root. -/
def l3 : List (List Int) := [[1], [2], [3]]
def pthV : List (List Int) := (proveV l3 2).reverse.reverse
def rt3 : List Int := rootR l3
theorem rootE3 : rootE l3 = 0 := by kernel_rfl
theorem proveE3 : proveE l3 2 = 0 := by kernel_rfl
theorem prove3_len : (proveV l3 2).length = 1 := by kernel_rfl
theorem roll3 : rollV [1, 2, 3] = (6, 10) := by kernel_rfl
theorem slide3A : slideA 6 1 4 = 9 := by kernel_rfl
theorem slide3B : slideB 6 10 3 1 4 = 16 := by kernel_rfl
theorem win3 : winV [1, 2, 3, 4] 3 2 = [655366, 1048585] := by kernel_rfl
theorem end0 : endV startV [] = digestV [] := by kernel_rfl
theorem crc_ab : ((((crcV [97]).toNat : Int)) == (((crcV [98]).toNat : Int))) = false := by kernel_rfl
theorem above3 : aboveE 3 0 [1] (proveV l3 2).reverse = 22 := by kernel_rfl
theorem check3 : checkE rt3 (aboveD 3 2 [3] (proveV l3 2).reverse) (aboveE 3 2 [3] (proveV l3 2).reverse) = 0 := by kernel_rfl
theorem check4 : checkE rt3 (aboveD 3 2 [4] (proveV l3 2).reverse) (aboveE 3 2 [4] (proveV l3 2).reverse) = 22 := by kernel_rfl
end Go.Proofs.Ytnlblmghhkmbbaa
