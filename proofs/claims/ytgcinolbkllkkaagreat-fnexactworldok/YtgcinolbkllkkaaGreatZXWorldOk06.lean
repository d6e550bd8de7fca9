/-
  Texts of one proof, joined: Upd2, ToUpd.
-/
import Derived.Test.YtgcinolbkllkkaaGreatZXWorldOk04
import Derived.Test.YtgcinolbkllkkaaGreatZXWorldOk02
import Derived.Test.YtgcinolbkllkkaaGreatZXWorldOk05
import Derived.Test.YtgcinolbkllkkaaGreatZXWorldOk03
namespace Go.Proofs.YtgcinolbkllkkaaGreat
open Go.ChangeShapes Go.WideShapes Go.ChangeAt Go.RowKit
theorem szUpdate_yes (dr dn sw sc sr k tr id pa st en lv : Int) (s : ByteArray) (left : Int) (w : World) (h0 : 0 ≤ left) (h1 : left ≤ 1048576) (hs : s.size ≤ maxLen) (h : (s.size : Int) ≤ left) :
  Calls Tryz.prog 131 #[.agg #[.int .i64 dr, .int .i64 dn, .int .i64 sw, .int .i64 sc, .int .i64 sr, .int .i64 k, .int .i64 tr, .int .i64 id, .int .i64 pa, .string s, .int .i64 st, .int .i64 en, .int .i64 lv], .int .i64 left] w fun e w' => e = .returned (.int .i64 (left - s.size)) ∧ Below w.heap.size w w' := by
 go_enter Tryz.func131, Tryz.ntmps131
 go_wp2_with fail
 refine (szSpan_yes _ _ _ _ _ _ _ h0 h1 hs h).mono ?_
 rintro e w1 ⟨rfl, hb1⟩
 have hB1 := hb1
 clear hb1
 obtain ⟨hc1, hf1⟩ := bcell hB1
 have hz1 := hB1.size
 (try simp [Nat.succ_le_iff] at hz1)
 have hz1_0 : w.heap.size < w1.heap.size := by omega
 go_wp2_with fail
 go_ret
 refine ⟨rfl, ?_⟩
 repeat (first | (with_reducible exact Below.refl _ _) | ((with_reducible refine Below.setCell ?_ ?_ _); rotate_left; (focus (first | omega | (simp; done) | (simp; omega)))) | ((with_reducible refine Below.alloc ?_ ?_ _); rotate_left; (focus (first | omega | (simp; done) | (simp; omega)))) | (with_reducible refine Below.drew ?_) | ((with_reducible refine Below.trans ?_ (Below.mono hB1 ?_)); rotate_left; (focus (first | omega | (simp; done) | (simp; omega)))))

theorem szUpdate_no (dr dn sw sc sr k tr id pa st en lv : Int) (s : ByteArray) (left : Int) (w : World) (h0 : 0 ≤ left) (h1 : left ≤ 1048576) (hs : s.size ≤ maxLen) (h : left < (s.size : Int)) :
  Calls Tryz.prog 131 #[.agg #[.int .i64 dr, .int .i64 dn, .int .i64 sw, .int .i64 sc, .int .i64 sr, .int .i64 k, .int .i64 tr, .int .i64 id, .int .i64 pa, .string s, .int .i64 st, .int .i64 en, .int .i64 lv], .int .i64 left] w fun e w' => e = .returned (.int .i64 (-1)) ∧ Below w.heap.size w w' := by
 go_enter Tryz.func131, Tryz.ntmps131
 go_wp2_with fail
 refine (szSpan_no _ _ _ _ _ _ _ h0 h1 hs h).mono ?_
 rintro e w1 ⟨rfl, hb1⟩
 have hB1 := hb1
 clear hb1
 obtain ⟨hc1, hf1⟩ := bcell hB1
 have hz1 := hB1.size
 (try simp [Nat.succ_le_iff] at hz1)
 have hz1_0 : w.heap.size < w1.heap.size := by omega
 go_wp2_with fail
 go_ret
 refine ⟨rfl, ?_⟩
 repeat (first | (with_reducible exact Below.refl _ _) | ((with_reducible refine Below.setCell ?_ ?_ _); rotate_left; (focus (first | omega | (simp; done) | (simp; omega)))) | ((with_reducible refine Below.alloc ?_ ?_ _); rotate_left; (focus (first | omega | (simp; done) | (simp; omega)))) | (with_reducible refine Below.drew ?_) | ((with_reducible refine Below.trans ?_ (Below.mono hB1 ?_)); rotate_left; (focus (first | omega | (simp; done) | (simp; omega)))))

end Go.Proofs.YtgcinolbkllkkaaGreat

namespace Go.Proofs.YtgcinolbkllkkaaGreat
open Go.ChangeShapes Go.WideShapes Go.ChangeAt Go.RowKit
set_option linter.unusedSimpArgs false
set_option maxHeartbeats 2000000 in
theorem toUpdate_any (dr dn sw sc sr k tr id pa st en lv : Int) (s : ByteArray) (w : World) :
  Calls Tryz.prog 132 #[.agg #[.int .i64 dr, .int .i64 dn, .int .i64 sw, .int .i64 sc, .int .i64 sr, .int .i64 k, .int .i64 tr, .int .i64 id, .int .i64 pa, .string s, .int .i64 st, .int .i64 en, .int .i64 lv]] w fun e w' => e = .returned (.agg #[.int .i64 dr, .int .i64 dn, .int .i64 sw, .int .i64 sc, .int .i64 sr, .int .i64 k, .int .i64 tr, .int .i64 id, .int .i64 pa, .string s, .int .i64 st, .int .i64 en, .int .i64 lv]) ∧ Below w.heap.size w w' := by
 go_enter Tryz.func132, Tryz.ntmps132
 go_wp2_with fail
 refine (toDot_any _ _ _).mono ?_
 rintro e w1 ⟨rfl, hb1⟩
 obtain ⟨hc1, hf1⟩ := bcell hb1
 have hz1 := hb1.size
 simp at hz1
 have hz1a : w.heap.size < w1.heap.size := by omega
 have hz1b : w.heap.size + 1 < w1.heap.size := by omega
 have hz1c : w.heap.size + 1 + 1 < w1.heap.size := by omega
 go_wp2_with fail
 refine (toStamp_any _ _ _ _).mono ?_
 rintro e w2 ⟨rfl, hb2⟩
 obtain ⟨hc2, hf2⟩ := bcell hb2
 have hz2 := hb2.size
 simp at hz2
 have hz2a : w.heap.size < w2.heap.size := by omega
 have hz2b : w.heap.size + 1 < w2.heap.size := by omega
 have hz2c : w.heap.size + 1 + 1 < w2.heap.size := by omega
 go_wp2_with fail
 refine (toSpan_any _ _ _ _ _ _).mono ?_
 rintro e w3 ⟨rfl, hb3⟩
 obtain ⟨hc3, hf3⟩ := bcell hb3
 have hz3 := hb3.size
 simp at hz3
 have hz3a : w.heap.size < w3.heap.size := by omega
 have hz3b : w.heap.size + 1 < w3.heap.size := by omega
 have hz3c : w.heap.size + 1 + 1 < w3.heap.size := by omega
 go_wp2_with fail
 refine bodyPost_ret (v := .agg #[.int .i64 dr, .int .i64 dn, .int .i64 sw, .int .i64 sc, .int .i64 sr, .int .i64 k, .int .i64 tr, .int .i64 id, .int .i64 pa, .string s, .int .i64 st, .int .i64 en, .int .i64 lv]) (by simp [results, Tryz.results132, go_sem, cell_set_same, hc1, hc2, hc3, hz1a, hz1b, hz1c, hz2a, hz2b, hz2c, hz3a, hz3b, hz3c]) rfl ⟨rfl, ?_⟩
 repeat (first | (with_reducible exact Below.refl _ _) | ((with_reducible refine Below.setCell ?_ ?_ _); rotate_left; (focus (first | omega | (simp; done) | (simp; omega)))) | ((with_reducible refine Below.alloc ?_ ?_ _); rotate_left; (focus (first | omega | (simp; done) | (simp; omega)))) | (with_reducible refine Below.drew ?_) | ((with_reducible refine Below.trans ?_ (Below.mono hb3 ?_)); rotate_left; (focus (first | omega | (simp; done) | (simp; omega)))) | ((with_reducible refine Below.trans ?_ (Below.mono hb2 ?_)); rotate_left; (focus (first | omega | (simp; done) | (simp; omega)))) | ((with_reducible refine Below.trans ?_ (Below.mono hb1 ?_)); rotate_left; (focus (first | omega | (simp; done) | (simp; omega)))))

end Go.Proofs.YtgcinolbkllkkaaGreat
