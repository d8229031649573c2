import Derived.Test.YtmekepomgofiaaaCS19
set_option linter.all false
open Go Go.Ev Go.RowKit
namespace Go.Ev
set_option maxRecDepth 100000
set_option maxHeartbeats 20000000
set_option linter.all false
theorem run_tab (Y : Nat → Run) (i : Nat) : tabF (fun j => i6 (runI Y j)) (i * 8) 8 = runD (Y i) := by
  have := congrFun (run_back Y) i
  show [i6 (runI Y (i * 8)), i6 (runI Y (i * 8 + 1)), i6 (runI Y (i * 8 + 2)), i6 (runI Y (i * 8 + 3)), i6 (runI Y (i * 8 + 4)), i6 (runI Y (i * 8 + 5)), i6 (runI Y (i * 8 + 6)), i6 (runI Y (i * 8 + 7))] = runD (Y i)
  rw [← this]
  rfl
theorem camp_tab (Y : Nat → Camp) (i : Nat) : tabF (fun j => i6 (campI Y j)) (i * 7) 7 = campD (Y i) := by
  have := congrFun (camp_back Y) i
  show [i6 (campI Y (i * 7)), i6 (campI Y (i * 7 + 1)), i6 (campI Y (i * 7 + 2)), i6 (campI Y (i * 7 + 3)), i6 (campI Y (i * 7 + 4)), i6 (campI Y (i * 7 + 5)), i6 (campI Y (i * 7 + 6))] = campD (Y i)
  rw [← this]
  rfl
theorem run_upd (x : Nat → Run) (n : Nat) (c : Camp) (a b : Int) (i : Nat) : tabF (updF (fun j => i6 (runI (snocR x n ⟨c, a⟩) j)) (n * 8 + 7) [i6 b]) (i * 8) 8 = runD (snocR x n ⟨c, b⟩ i) := by
  rw [upd_snocR]
  exact run_tab _ i
def rowCamp (f : Nat → List D) (i : Nat) : Camp := campL (f i)
def rowInt (f : Nat → List D) (i : Nat) : Int := intL (f i)
end Go.Ev
