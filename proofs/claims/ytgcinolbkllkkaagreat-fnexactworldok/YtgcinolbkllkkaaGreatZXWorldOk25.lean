/-
  Texts of one proof, joined: Reg1.
-/
import Derived.Test.YtgcinolbkllkkaaGreatZXWorldOk23
import Derived.Test.YtgcinolbkllkkaaGreatZXWorldOk14
import Derived.Test.YtgcinolbkllkkaaGreatZXWorldOk07
import Derived.Test.YtgcinolbkllkkaaGreatZXWorldOk24
import Derived.Test.YtgcinolbkllkkaaGreatZXWorldOk09
import Derived.Test.YtgcinolbkllkkaaGreatZXWorldOk21
namespace Go.Proofs.YtgcinolbkllkkaaGreat
open Go.ChangeShapes Go.WideShapes Go.ChangeAt Go.RowKit
set_option linter.unusedSimpArgs false
set_option maxHeartbeats 4000000 in
theorem toRegion_any (id a b c : Int) (av : Option Addr) (n cn : Nat) (us : List M1.Upd) (w : World) (h1 : IsUpds w av n cn us) (hn : n ≤ 1048576) :
  Calls Tryz.prog 76 #[.agg #[.int .i64 id, .int .i64 a, .int .i64 b, .int .i64 c, .slice av n cn]] w fun e w' => ∃ g, e = .returned (.agg #[.int .i64 id, .int .i64 a, .int .i64 b, .int .i64 c, .slice (some ⟨g, 0, none⟩) n n]) ∧ w.heap.size ≤ g ∧ RowAt w' g (n * 13) (ucell us) ∧ Below w.heap.size w w' := by
 go_enter Tryz.func76, Tryz.ntmps76
 go_wp2_with fail
 refine (toStamp_any _ _ _ _).mono ?_
 rintro e w1 ⟨rfl, hb1⟩
 obtain ⟨hc1, hf1⟩ := bcell hb1
 have hz1 := hb1.size
 simp at hz1
 have hz1a : w.heap.size < w1.heap.size := by omega
 have hz1b : w.heap.size + 1 < w1.heap.size := by omega
 have hz1c : w.heap.size + 1 + 1 < w1.heap.size := by omega
 go_wp2_with fail
 refine (toUpdateS_any _ _ _ _ _ (h1.below (?_ : Below w.heap.size w _)) hn).mono ?_
 ·repeat (first | (with_reducible exact Below.refl _ _) | ((with_reducible refine Below.setCell ?_ ?_ _); rotate_left; (focus (first | omega | (simp; done) | (simp; omega)))) | ((with_reducible refine Below.alloc ?_ ?_ _); rotate_left; (focus (first | omega | (simp; done) | (simp; omega)))) | (with_reducible refine Below.drew ?_) | ((with_reducible refine Below.trans ?_ (Below.mono hb1 ?_)); rotate_left; (focus (first | omega | (simp; done) | (simp; omega)))))
 rintro e w2 ⟨g, rfl, hg, r2, hb2⟩
 have hg' : w.heap.size + 1 + 1 < g := by simp at hg; omega
 have hgl := r2.lt
 obtain ⟨hc2, hf2⟩ := bcell hb2
 have hz2 := hb2.size
 simp at hz2
 have hz2a : w.heap.size < w2.heap.size := by omega
 have hz2b : w.heap.size + 1 < w2.heap.size := by omega
 have hz2c : w.heap.size + 1 + 1 < w2.heap.size := by omega
 go_wp2_with fail
 refine bodyPost_ret (v := .agg #[.int .i64 id, .int .i64 a, .int .i64 b, .int .i64 c, .slice (some ⟨g, 0, none⟩) n n]) (by simp [results, Tryz.results76, go_sem, cell_set_same, hc1, hc2, hz1a, hz1b, hz1c, hz2a, hz2b, hz2c]) rfl ⟨g, rfl, by omega, ?_, ?_⟩
 ·repeat (first | (with_reducible exact r2) | ((with_reducible refine RowAt.far ?_ ?_ _); rotate_left; (focus (simp <;> omega))))
 ·repeat (first | (with_reducible exact Below.refl _ _) | ((with_reducible refine Below.setCell ?_ ?_ _); rotate_left; (focus (first | omega | (simp; done) | (simp; omega)))) | ((with_reducible refine Below.alloc ?_ ?_ _); rotate_left; (focus (first | omega | (simp; done) | (simp; omega)))) | (with_reducible refine Below.drew ?_) | ((with_reducible refine Below.trans ?_ (Below.mono hb2 ?_)); rotate_left; (focus (first | omega | (simp; done) | (simp; omega)))) | ((with_reducible refine Below.trans ?_ (Below.mono hb1 ?_)); rotate_left; (focus (first | omega | (simp; done) | (simp; omega)))))

theorem szRegion_any (id a b c : Int) (av : Option Addr) (n cn : Nat) (us : List M1.Upd) (left : Int) (w : World) (h1 : IsUpds w av n cn us) (h0 : 0 ≤ left) (hl : left ≤ 1048576) :
  Calls Tryz.prog 74 #[.agg #[.int .i64 id, .int .i64 a, .int .i64 b, .int .i64 c, .slice av n cn], .int .i64 left] w fun e w' => ((∃ r, (n : Int) ≤ left ∧ 0 ≤ r ∧ r ≤ left ∧ e = .returned (.int .i64 r)) ∨ e = .returned (.int .i64 (-1))) ∧ Below w.heap.size w w' := by
 go_enter Tryz.func74, Tryz.ntmps74
 go_wp2_with fail
 refine (szUpdateS_any _ _ _ _ _ _ (h1.below (?_ : Below w.heap.size w _)) h0 hl).mono ?_
 ·repeat (first | (with_reducible exact Below.refl _ _) | ((with_reducible refine Below.setCell ?_ ?_ _); rotate_left; (focus (first | omega | (simp; done) | (simp; omega)))) | ((with_reducible refine Below.alloc ?_ ?_ _); rotate_left; (focus (first | omega | (simp; done) | (simp; omega)))) | (with_reducible refine Below.drew ?_))
 rintro e w0 ⟨⟨r, hn, hr0, hr1, rfl⟩ | rfl, hb0⟩
 ·have hr2 : ¬ r < 0 := by omega
  go_wp2_with fail
  go_ret
  refine ⟨Or.inl ⟨r, hn, hr0, hr1, rfl⟩, ?_⟩
  repeat (first | (with_reducible exact Below.refl _ _) | ((with_reducible refine Below.setCell ?_ ?_ _); rotate_left; (focus (first | omega | (simp; done) | (simp; omega)))) | ((with_reducible refine Below.alloc ?_ ?_ _); rotate_left; (focus (first | omega | (simp; done) | (simp; omega)))) | (with_reducible refine Below.drew ?_) | ((with_reducible refine Below.trans ?_ (Below.mono hb0 ?_)); rotate_left; (focus (first | omega | (simp; done) | (simp; omega)))))
 ·go_wp2_with fail
  go_ret
  refine ⟨Or.inr rfl, ?_⟩
  repeat (first | (with_reducible exact Below.refl _ _) | ((with_reducible refine Below.setCell ?_ ?_ _); rotate_left; (focus (first | omega | (simp; done) | (simp; omega)))) | ((with_reducible refine Below.alloc ?_ ?_ _); rotate_left; (focus (first | omega | (simp; done) | (simp; omega)))) | (with_reducible refine Below.drew ?_) | ((with_reducible refine Below.trans ?_ (Below.mono hb0 ?_)); rotate_left; (focus (first | omega | (simp; done) | (simp; omega)))))

theorem eqRegion_self (id a b c : Int) (av bv : Option Addr) (n cn cm : Nat) (us : List M1.Upd) (w : World) (h1 : IsUpds w av n cn us) (h2 : IsUpds w bv n cm us) :
  Calls Tryz.prog 78 #[.agg #[.int .i64 id, .int .i64 a, .int .i64 b, .int .i64 c, .slice av n cn], .agg #[.int .i64 id, .int .i64 a, .int .i64 b, .int .i64 c, .slice bv n cm]] w fun e w' => e = .returned (.bool true) ∧ Below w.heap.size w w' := by
 go_enter Tryz.func78, Tryz.ntmps78
 go_wp2_with fail
 refine (eqStamp_same _ _ _ _).mono ?_
 rintro e w1 ⟨rfl, hb1⟩
 obtain ⟨hc1, hf1⟩ := bcell hb1
 have hz1 := hb1.size
 simp at hz1
 have hz1a : w.heap.size < w1.heap.size := by omega
 have hz1b : w.heap.size + 1 < w1.heap.size := by omega
 have hB : Below w.heap.size w w1 := by repeat (first | (with_reducible exact Below.refl _ _) | ((with_reducible refine Below.setCell ?_ ?_ _); rotate_left; (focus (first | omega | (simp; done) | (simp; omega)))) | ((with_reducible refine Below.alloc ?_ ?_ _); rotate_left; (focus (first | omega | (simp; done) | (simp; omega)))) | (with_reducible refine Below.drew ?_) | ((with_reducible refine Below.trans ?_ (Below.mono hb1 ?_)); rotate_left; (focus (first | omega | (simp; done) | (simp; omega)))))
 go_wp2_with fail
 refine (eqUpdateS_self _ _ _ _ _ _ _ (h1.below hB) (h2.below hB)).mono ?_
 rintro e w2 ⟨rfl, hb2⟩
 go_wp2_with fail
 go_ret
 refine ⟨rfl, ?_⟩
 repeat (first | (with_reducible exact Below.refl _ _) | ((with_reducible refine Below.setCell ?_ ?_ _); rotate_left; (focus (first | omega | (simp; done) | (simp; omega)))) | ((with_reducible refine Below.alloc ?_ ?_ _); rotate_left; (focus (first | omega | (simp; done) | (simp; omega)))) | (with_reducible refine Below.drew ?_) | ((with_reducible refine Below.trans ?_ (Below.mono hb2 ?_)); rotate_left; (focus (first | omega | (simp; done) | (simp; omega)))) | ((with_reducible refine Below.trans ?_ (Below.mono hB ?_)); rotate_left; (focus (first | omega | (simp; done) | (simp; omega)))))

theorem later_any (sw sc sr a b c : Int) (w : World) :
  Calls Tryz.prog 87 #[.agg #[.int .i64 sw, .int .i64 sc, .int .i64 sr], .agg #[.int .i64 a, .int .i64 b, .int .i64 c]] w fun e w' => e = .returned (.bool (M1.laterB sw sc a b)) ∧ Below w.heap.size w w' := by
 unfold M1.laterB
 go_enter Tryz.func87, Tryz.ntmps87
 go_wp2
 all_goals (go_ret)
 all_goals (exact ⟨by simp_all, ((Below.refl _ _).alloc (Nat.le_refl _) _).alloc (by simp) _⟩)

end Go.Proofs.YtgcinolbkllkkaaGreat
