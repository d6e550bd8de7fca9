/-
  Texts of one proof, joined: Sz.
-/
import Derived.Test.YtgcinolbkllkkaaGreatZXWorldOk02
namespace Go.Proofs.YtgcinolbkllkkaaGreat
open Go.ChangeShapes Go.WideShapes Go.ChangeAt Go.RowKit
theorem szDotS_any (av : Option Addr) (n cn : Nat) (left : Int) (w : World) (hn : n ≤ cn) (hc : cn ≤ maxLen) (h0 : 0 ≤ left) (h1 : left ≤ 1048576) :
  Calls Tryz.prog 104 #[.slice av n cn, .int .i64 left] w fun e w' => (((n : Int) ≤ left ∧ e = .returned (.int .i64 (left - n))) ∨ (left < (n : Int) ∧ e = .returned (.int .i64 (-1)))) ∧ w' = w := by
 unfold maxLen at hc
 by_cases h : (n : Int) ≤ left
 ·go_enter Tryz.func104, Tryz.ntmps104
  go_wp2
  go_ret
  exact ⟨Or.inl ⟨h, rfl⟩, rfl⟩
 ·go_enter Tryz.func104, Tryz.ntmps104
  go_wp2
  go_ret
  exact ⟨Or.inr rfl, rfl⟩

theorem szDotS_yes (av : Option Addr) (n cn : Nat) (left : Int) (w : World) (hn : n ≤ cn) (hc : cn ≤ maxLen) (h0 : 0 ≤ left) (h1 : left ≤ 1048576) (h : (n : Int) ≤ left) :
  Calls Tryz.prog 104 #[.slice av n cn, .int .i64 left] w fun e w' => e = .returned (.int .i64 (left - n)) ∧ w' = w :=
 (szDotS_any av n cn left w hn hc h0 h1).mono fun _ _ ⟨hh, hw⟩ => ⟨hh.elim (fun x => x.2) (fun x => absurd x.1 (by omega)), hw⟩

end Go.Proofs.YtgcinolbkllkkaaGreat
