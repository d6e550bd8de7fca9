/-
  Contracts of the laws' big, sameSet and sameRegion on lists that are the same.
-/
import Derived.Test.YtpflbhjgnmkajaaGreatZFound42
import Derived.Test.YtpflbhjgnmkajaaGreatZFound33
namespace M1
theorem ueq_self (u : Upd) : ueq u u = true := by simp [ueq]
end M1
namespace Go.Proofs.YtpflbhjgnmkajaaGreat
open Go.ChangeShapes Go.WideShapes Go.ChangeAt Go.RowKit
set_option linter.unusedSimpArgs false
set_option linter.unusedVariables false

theorem big_any (av : Option Addr) (len cap : Nat) (w : World) (hc : len ≤ cap) (hm : cap ≤ maxLen) :
    Calls Tryz.prog 4 #[.slice av len cap] w fun e w' => e = .returned (.bool (decide ((1048576 : Int) < (len : Int)))) ∧ w' = w := by
  unfold maxLen at hm
  go_enter Tryz.func4, Tryz.ntmps4
  go_wp2
  go_ret
  exact ⟨rfl, rfl⟩

attribute [local go_sem high] eqU

end Go.Proofs.YtpflbhjgnmkajaaGreat
