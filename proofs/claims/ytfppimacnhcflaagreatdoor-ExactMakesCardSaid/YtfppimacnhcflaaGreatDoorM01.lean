/-
  Contracts of the functions that the law calls, for every input (Ra).
-/
import Derived.Test.YtfppimacnhcflaaGreatDoorD00
import Derived.Test.YtfppimacnhcflaaGreatDoorD01
import Derived.Test.YtfppimacnhcflaaGreatDoorD02
import Derived.Test.YtfppimacnhcflaaGreatDoorD03
import Derived.Test.YtfppimacnhcflaaGreatDoorD04
import Derived.Test.YtfppimacnhcflaaGreatDoorD05
import Derived.Test.YtfppimacnhcflaaGreatDoorD06
import Derived.Test.YtfppimacnhcflaaGreatDoorD07
import Derived.Test.YtfppimacnhcflaaGreatDoorD08
import Derived.Test.YtfppimacnhcflaaGreatDoorD09
import Derived.Test.YtfppimacnhcflaaGreatDoorD10
import Derived.Test.YtfppimacnhcflaaGreatDoorD11
import Derived.Test.YtfppimacnhcflaaGreatDoorD12
import Derived.Test.YtfppimacnhcflaaGreatDoorD13
import Derived.Test.YtfppimacnhcflaaGreatDoorD14
import Derived.Test.YtfppimacnhcflaaGreatDoorD15
import Derived.Test.YtfppimacnhcflaaGreatDoorD16
import Derived.Test.YtfppimacnhcflaaGreatDoorD17
import Derived.Test.YtfppimacnhcflaaGreatDoorD18
import Derived.Test.YtfppimacnhcflaaGreatDoorD19
import Derived.Test.YtfppimacnhcflaaGreatDoorD20
import Derived.Test.YtfppimacnhcflaaGreatDoorD21
import Derived.Test.YtfppimacnhcflaaGreatDoorD22
import Derived.Test.YtfppimacnhcflaaGreatDoorD23
import Derived.Test.YtfppimacnhcflaaGreatDoorD24
import Derived.Test.YtfppimacnhcflaaGreatDoorD25
import Derived.Test.YtfppimacnhcflaaGreatDoorD26
import Derived.Test.YtfppimacnhcflaaGreatDoorD27
import Derived.Test.YtfppimacnhcflaaGreatDoorD28
import Derived.Test.YtfppimacnhcflaaGreatDoorD29
import Derived.Test.YtfppimacnhcflaaGreatDoorD30
import Derived.Test.YtfppimacnhcflaaGreatDoorD31
import Derived.Test.YtfppimacnhcflaaGreatDoorD32
import Derived.Test.YtfppimacnhcflaaGreatDoorD33
import Derived.Test.YtfppimacnhcflaaGreatDoorD34
import Derived.Test.YtfppimacnhcflaaGreatDoorD35
import Derived.Test.YtfppimacnhcflaaGreatDoorD38
import Derived.Test.YtfppimacnhcflaaGreatDoorD39
set_option linter.all false
set_option maxRecDepth 100000
set_option maxHeartbeats 40000000
namespace Rx
theorem len_lb {x n : Nat} (h : n < len x) : V ^ n ≤ x := by
  rcases Nat.lt_or_ge x (V ^ n) with h1 | h1
  · have := len_le h1; omega
  · exact h1
end Rx
