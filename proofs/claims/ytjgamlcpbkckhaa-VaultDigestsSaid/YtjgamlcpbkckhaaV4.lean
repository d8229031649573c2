import Derived.Test.YtjgamlcpbkckhaaV2
import Derived.Test.YtjgamlcpbkckhaaEvZg
set_option linter.all false
open Go Go.Ev Go.RowKit
namespace Go.Ev
set_option maxRecDepth 100000
def noBig (_ : FuncId) : Bool := false
noncomputable def raw8 : Raw := ⟨noBig, oneCl 8 digR⟩
def is8 (f : FuncId) : Bool := Nat.beq f 8
/-- the functions that are reckoned alone -/
def alone1 (f : FuncId) : Bool := Nat.beq f 33 || (Nat.beq f 56 || (Nat.beq f 34 || (Nat.beq f 10 || (Nat.beq f 37 || (Nat.beq f 57 || (Nat.beq f 49 || Nat.beq f 51))))))
noncomputable def tab1 : FuncId → List D → List Blk → Nat → Option Out := orCl (oneCl 8 digR) (isoT alone1 (callF (without is8 tree.find) raw8 2000))
noncomputable def rawV : Raw := ⟨fun f => Nat.beq f 20 || Nat.beq f 24, tab1⟩
def out1 (f : FuncId) : Bool := Nat.beq f 8 || alone1 f
theorem known_val : valO (callF (without out1 tree.find) rawV 3000 6 [] [.dead] 0) = some ⟨none, .val (.bool true), [], []⟩ := by kernel_rfl
theorem tab1_ok (K : Cust) : ClOK K Go.Proofs.Try.prog tab1 := by
  have hm : Go.Proofs.Try.prog.follows .mixedOrders = true := by kernel_rfl
  have h8 : ClOK K Go.Proofs.Try.prog (oneCl 8 digR) := ClOK.one (digR_contract _ hm cf_8 K)
  exact ClOK.or h8 (isoT_ok (callF_ok (drawn_ok hm) (without_ok (FT.found tree tree_good)) h8 2000))
end Go.Ev
