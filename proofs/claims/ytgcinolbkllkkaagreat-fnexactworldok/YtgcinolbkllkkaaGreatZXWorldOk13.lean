/-
  Texts of one proof, joined: UpdOk.
-/
import Derived.Test.YtgcinolbkllkkaaGreatZXWorldOk12
namespace Go.Proofs.YtgcinolbkllkkaaGreat
open Go.ChangeShapes Go.WideShapes Go.ChangeAt Go.RowKit
set_option linter.unusedSimpArgs false
set_option maxHeartbeats 8000000 in
set_option maxRecDepth 100000 in
theorem updateOk_off (dr dn sw sc sr k tr id pa st en lv : Int) (s : ByteArray) (v : Value) (w : World) (h1 : M1.dotOk dr dn = true) (h2 : M1.stOk sw sc sr = true) (h3 : sr = dr) (h4 : M1.inB tr 1 1000 = true)
  (hch : Hid (∀ w, Calls Tryz.prog 98 #[.agg #[.int .i64 dr, .int .i64 dn, .int .i64 sw, .int .i64 sc, .int .i64 sr, .int .i64 k, .int .i64 tr, .int .i64 id, .int .i64 pa, .string s, .int .i64 st, .int .i64 en, .int .i64 lv]] w fun e w' => e = .returned (.tuple #[v, .bool false]) ∧ Below w.heap.size w w')) :
  Calls Tryz.prog 62 #[.agg #[.int .i64 dr, .int .i64 dn, .int .i64 sw, .int .i64 sc, .int .i64 sr, .int .i64 k, .int .i64 tr, .int .i64 id, .int .i64 pa, .string s, .int .i64 st, .int .i64 en, .int .i64 lv]] w fun e w' => e = .returned (.bool false) ∧ Below w.heap.size w w' := by
 subst h3
 go_enter Tryz.func62, Tryz.ntmps62
 go_wp2_with fail
 refine (dotOk_any _ _ _).mono ?_
 rw [h1]
 rintro e w1 ⟨rfl, hb1⟩
 obtain ⟨hc1, hf1⟩ := bcell hb1
 have hs1 := hb1.size
 simp at hs1
 have hs1a : w.heap.size < w1.heap.size := by omega
 go_wp2_with fail
 refine (stampOk_impl _ _ _ _).mono ?_
 rw [h2]
 rintro e w2 ⟨rfl, hb2⟩
 have hB2 := hb1.trans (hb2.mono hb1.size)
 clear hc1 hf1
 obtain ⟨hc2, hf2⟩ := bcell hB2
 have hs2 := hB2.size
 simp at hs2
 have hs2a : w.heap.size < w2.heap.size := by omega
 go_wp2_with fail
 refine (inRange_any _ _ _ _).mono ?_
 rw [h4]
 rintro e w3 ⟨rfl, rfl⟩
 go_wp2_with fail
 refine (hch.out _).mono ?_
 rintro e w4 ⟨rfl, hb4⟩
 have hB4 := hB2.trans (hb4.mono hB2.size)
 clear hc2 hf2
 go_wp2_with fail
 go_ret
 refine ⟨rfl, ?_⟩
 repeat (first | (with_reducible exact Below.refl _ _) | ((with_reducible refine Below.setCell ?_ ?_ _); rotate_left; (focus (first | omega | (simp; done) | (simp; omega)))) | ((with_reducible refine Below.alloc ?_ ?_ _); rotate_left; (focus (first | omega | (simp; done) | (simp; omega)))) | (with_reducible refine Below.drew ?_) | ((with_reducible refine Below.trans ?_ (Below.mono hB4 ?_)); rotate_left; (focus (first | omega | (simp; done) | (simp; omega)))))

set_option maxHeartbeats 8000000 in
set_option maxRecDepth 100000 in
theorem updateOk_span (dr dn sw sc sr k tr id pa st en lv : Int) (s : ByteArray) (b : Bool) (w : World) (h1 : M1.dotOk dr dn = true) (h2 : M1.stOk sw sc sr = true) (h3 : sr = dr) (h4 : M1.inB tr 1 1000 = true)
  (hr : Hid (∀ w, Calls Tryz.prog 191 #[(.agg #[.int .i64 id, .int .i64 pa, .string s, .int .i64 st, .int .i64 en])] w fun e w' => e = .returned (.bool b) ∧ Below w.heap.size w w'))
  (hch : Hid (∀ w, Calls Tryz.prog 98 #[.agg #[.int .i64 dr, .int .i64 dn, .int .i64 sw, .int .i64 sc, .int .i64 sr, .int .i64 k, .int .i64 tr, .int .i64 id, .int .i64 pa, .string s, .int .i64 st, .int .i64 en, .int .i64 lv]] w fun e w' => e = .returned (.tuple #[.iface 179 (.agg #[.int .i64 id, .int .i64 pa, .string s, .int .i64 st, .int .i64 en]), .bool true]) ∧ Below w.heap.size w w')) :
  Calls Tryz.prog 62 #[.agg #[.int .i64 dr, .int .i64 dn, .int .i64 sw, .int .i64 sc, .int .i64 sr, .int .i64 k, .int .i64 tr, .int .i64 id, .int .i64 pa, .string s, .int .i64 st, .int .i64 en, .int .i64 lv]] w fun e w' => e = .returned (.bool b) ∧ Below w.heap.size w w' := by
 subst h3
 have hm : ∀ w, (method 199 179 (.agg #[.int .i64 id, .int .i64 pa, .string s, .int .i64 st, .int .i64 en]) "loop.example/g00368/impl.right").run Tryz.prog w = .ok (191, (.agg #[.int .i64 id, .int .i64 pa, .string s, .int .i64 st, .int .i64 en])) w := fun _ => by kernel_rfl
 go_enter Tryz.func62, Tryz.ntmps62
 go_wp2_with fail
 refine (dotOk_any _ _ _).mono ?_
 rw [h1]
 rintro e w1 ⟨rfl, hb1⟩
 obtain ⟨hc1, hf1⟩ := bcell hb1
 have hs1 := hb1.size
 simp at hs1
 have hs1a : w.heap.size < w1.heap.size := by omega
 go_wp2_with fail
 refine (stampOk_impl _ _ _ _).mono ?_
 rw [h2]
 rintro e w2 ⟨rfl, hb2⟩
 have hB2 := hb1.trans (hb2.mono hb1.size)
 clear hc1 hf1
 obtain ⟨hc2, hf2⟩ := bcell hB2
 have hs2 := hB2.size
 simp at hs2
 have hs2a : w.heap.size < w2.heap.size := by omega
 go_wp2_with fail
 refine (inRange_any _ _ _ _).mono ?_
 rw [h4]
 rintro e w3 ⟨rfl, rfl⟩
 go_wp2_with fail
 refine (hch.out _).mono ?_
 rintro e w4 ⟨rfl, hb4⟩
 have hB4 := hB2.trans (hb4.mono hB2.size)
 clear hc2 hf2
 go_wp2_with fail
 refine (hr.out _).mono ?_
 rintro e w5 ⟨rfl, hb5⟩
 go_wp2_with fail
 go_ret
 refine ⟨rfl, ?_⟩
 have hs4 := hB4.size
 simp at hs4
 repeat (first | (with_reducible exact Below.refl _ _) | ((with_reducible refine Below.setCell ?_ ?_ _); rotate_left; (focus (first | omega | (simp; done) | (simp; omega)))) | ((with_reducible refine Below.alloc ?_ ?_ _); rotate_left; (focus (first | omega | (simp; done) | (simp; omega)))) | (with_reducible refine Below.drew ?_) | ((with_reducible refine Below.trans ?_ (Below.mono hb5 ?_)); rotate_left; (focus (first | omega | (simp; done) | (simp; omega)))) | ((with_reducible refine Below.trans ?_ (Below.mono hB4 ?_)); rotate_left; (focus (first | omega | (simp; done) | (simp; omega)))))

set_option maxHeartbeats 8000000 in
set_option maxRecDepth 100000 in
theorem updateOk_keep (dr dn sw sc sr k tr id pa st en lv : Int) (s : ByteArray) (b : Bool) (w : World) (h1 : M1.dotOk dr dn = true) (h2 : M1.stOk sw sc sr = true) (h3 : sr = dr) (h4 : M1.inB tr 1 1000 = true)
  (hr : Hid (∀ w, Calls Tryz.prog 195 #[(.agg #[])] w fun e w' => e = .returned (.bool b) ∧ Below w.heap.size w w'))
  (hch : Hid (∀ w, Calls Tryz.prog 98 #[.agg #[.int .i64 dr, .int .i64 dn, .int .i64 sw, .int .i64 sc, .int .i64 sr, .int .i64 k, .int .i64 tr, .int .i64 id, .int .i64 pa, .string s, .int .i64 st, .int .i64 en, .int .i64 lv]] w fun e w' => e = .returned (.tuple #[.iface 181 (.agg #[]), .bool true]) ∧ Below w.heap.size w w')) :
  Calls Tryz.prog 62 #[.agg #[.int .i64 dr, .int .i64 dn, .int .i64 sw, .int .i64 sc, .int .i64 sr, .int .i64 k, .int .i64 tr, .int .i64 id, .int .i64 pa, .string s, .int .i64 st, .int .i64 en, .int .i64 lv]] w fun e w' => e = .returned (.bool b) ∧ Below w.heap.size w w' := by
 subst h3
 have hm : ∀ w, (method 199 181 (.agg #[]) "loop.example/g00368/impl.right").run Tryz.prog w = .ok (195, (.agg #[])) w := fun _ => by kernel_rfl
 go_enter Tryz.func62, Tryz.ntmps62
 go_wp2_with fail
 refine (dotOk_any _ _ _).mono ?_
 rw [h1]
 rintro e w1 ⟨rfl, hb1⟩
 obtain ⟨hc1, hf1⟩ := bcell hb1
 have hs1 := hb1.size
 simp at hs1
 have hs1a : w.heap.size < w1.heap.size := by omega
 go_wp2_with fail
 refine (stampOk_impl _ _ _ _).mono ?_
 rw [h2]
 rintro e w2 ⟨rfl, hb2⟩
 have hB2 := hb1.trans (hb2.mono hb1.size)
 clear hc1 hf1
 obtain ⟨hc2, hf2⟩ := bcell hB2
 have hs2 := hB2.size
 simp at hs2
 have hs2a : w.heap.size < w2.heap.size := by omega
 go_wp2_with fail
 refine (inRange_any _ _ _ _).mono ?_
 rw [h4]
 rintro e w3 ⟨rfl, rfl⟩
 go_wp2_with fail
 refine (hch.out _).mono ?_
 rintro e w4 ⟨rfl, hb4⟩
 have hB4 := hB2.trans (hb4.mono hB2.size)
 clear hc2 hf2
 go_wp2_with fail
 refine (hr.out _).mono ?_
 rintro e w5 ⟨rfl, hb5⟩
 go_wp2_with fail
 go_ret
 refine ⟨rfl, ?_⟩
 have hs4 := hB4.size
 simp at hs4
 repeat (first | (with_reducible exact Below.refl _ _) | ((with_reducible refine Below.setCell ?_ ?_ _); rotate_left; (focus (first | omega | (simp; done) | (simp; omega)))) | ((with_reducible refine Below.alloc ?_ ?_ _); rotate_left; (focus (first | omega | (simp; done) | (simp; omega)))) | (with_reducible refine Below.drew ?_) | ((with_reducible refine Below.trans ?_ (Below.mono hb5 ?_)); rotate_left; (focus (first | omega | (simp; done) | (simp; omega)))) | ((with_reducible refine Below.trans ?_ (Below.mono hB4 ?_)); rotate_left; (focus (first | omega | (simp; done) | (simp; omega)))))

set_option maxHeartbeats 8000000 in
set_option maxRecDepth 100000 in
theorem updateOk_life (dr dn sw sc sr k tr id pa st en lv : Int) (s : ByteArray) (b : Bool) (w : World) (h1 : M1.dotOk dr dn = true) (h2 : M1.stOk sw sc sr = true) (h3 : sr = dr) (h4 : M1.inB tr 1 1000 = true)
  (hr : Hid (∀ w, Calls Tryz.prog 197 #[(.agg #[.int .i64 lv])] w fun e w' => e = .returned (.bool b) ∧ Below w.heap.size w w'))
  (hch : Hid (∀ w, Calls Tryz.prog 98 #[.agg #[.int .i64 dr, .int .i64 dn, .int .i64 sw, .int .i64 sc, .int .i64 sr, .int .i64 k, .int .i64 tr, .int .i64 id, .int .i64 pa, .string s, .int .i64 st, .int .i64 en, .int .i64 lv]] w fun e w' => e = .returned (.tuple #[.iface 183 (.agg #[.int .i64 lv]), .bool true]) ∧ Below w.heap.size w w')) :
  Calls Tryz.prog 62 #[.agg #[.int .i64 dr, .int .i64 dn, .int .i64 sw, .int .i64 sc, .int .i64 sr, .int .i64 k, .int .i64 tr, .int .i64 id, .int .i64 pa, .string s, .int .i64 st, .int .i64 en, .int .i64 lv]] w fun e w' => e = .returned (.bool b) ∧ Below w.heap.size w w' := by
 subst h3
 have hm : ∀ w, (method 199 183 (.agg #[.int .i64 lv]) "loop.example/g00368/impl.right").run Tryz.prog w = .ok (197, (.agg #[.int .i64 lv])) w := fun _ => by kernel_rfl
 go_enter Tryz.func62, Tryz.ntmps62
 go_wp2_with fail
 refine (dotOk_any _ _ _).mono ?_
 rw [h1]
 rintro e w1 ⟨rfl, hb1⟩
 obtain ⟨hc1, hf1⟩ := bcell hb1
 have hs1 := hb1.size
 simp at hs1
 have hs1a : w.heap.size < w1.heap.size := by omega
 go_wp2_with fail
 refine (stampOk_impl _ _ _ _).mono ?_
 rw [h2]
 rintro e w2 ⟨rfl, hb2⟩
 have hB2 := hb1.trans (hb2.mono hb1.size)
 clear hc1 hf1
 obtain ⟨hc2, hf2⟩ := bcell hB2
 have hs2 := hB2.size
 simp at hs2
 have hs2a : w.heap.size < w2.heap.size := by omega
 go_wp2_with fail
 refine (inRange_any _ _ _ _).mono ?_
 rw [h4]
 rintro e w3 ⟨rfl, rfl⟩
 go_wp2_with fail
 refine (hch.out _).mono ?_
 rintro e w4 ⟨rfl, hb4⟩
 have hB4 := hB2.trans (hb4.mono hB2.size)
 clear hc2 hf2
 go_wp2_with fail
 refine (hr.out _).mono ?_
 rintro e w5 ⟨rfl, hb5⟩
 go_wp2_with fail
 go_ret
 refine ⟨rfl, ?_⟩
 have hs4 := hB4.size
 simp at hs4
 repeat (first | (with_reducible exact Below.refl _ _) | ((with_reducible refine Below.setCell ?_ ?_ _); rotate_left; (focus (first | omega | (simp; done) | (simp; omega)))) | ((with_reducible refine Below.alloc ?_ ?_ _); rotate_left; (focus (first | omega | (simp; done) | (simp; omega)))) | (with_reducible refine Below.drew ?_) | ((with_reducible refine Below.trans ?_ (Below.mono hb5 ?_)); rotate_left; (focus (first | omega | (simp; done) | (simp; omega)))) | ((with_reducible refine Below.trans ?_ (Below.mono hB4 ?_)); rotate_left; (focus (first | omega | (simp; done) | (simp; omega)))))

set_option maxHeartbeats 8000000 in
set_option maxRecDepth 100000 in
theorem updateOk_no1 (dr dn sw sc sr k tr id pa st en lv : Int) (s : ByteArray) (w : World) (h1 : M1.dotOk dr dn = false) :
  Calls Tryz.prog 62 #[.agg #[.int .i64 dr, .int .i64 dn, .int .i64 sw, .int .i64 sc, .int .i64 sr, .int .i64 k, .int .i64 tr, .int .i64 id, .int .i64 pa, .string s, .int .i64 st, .int .i64 en, .int .i64 lv]] w fun e w' => e = .returned (.bool false) ∧ Below w.heap.size w w' := by
 go_enter Tryz.func62, Tryz.ntmps62
 go_wp2_with fail
 refine (dotOk_any _ _ _).mono ?_
 rw [h1]
 rintro e w1 ⟨rfl, hb1⟩
 obtain ⟨hc1, hf1⟩ := bcell hb1
 have hs1 := hb1.size
 simp at hs1
 have hs1a : w.heap.size < w1.heap.size := by omega
 go_wp2_with fail
 go_ret
 refine ⟨rfl, ?_⟩
 repeat (first | (with_reducible exact Below.refl _ _) | ((with_reducible refine Below.setCell ?_ ?_ _); rotate_left; (focus (first | omega | (simp; done) | (simp; omega)))) | ((with_reducible refine Below.alloc ?_ ?_ _); rotate_left; (focus (first | omega | (simp; done) | (simp; omega)))) | (with_reducible refine Below.drew ?_) | ((with_reducible refine Below.trans ?_ (Below.mono hb1 ?_)); rotate_left; (focus (first | omega | (simp; done) | (simp; omega)))))

set_option maxHeartbeats 8000000 in
set_option maxRecDepth 100000 in
theorem updateOk_no2 (dr dn sw sc sr k tr id pa st en lv : Int) (s : ByteArray) (w : World) (h1 : M1.dotOk dr dn = true) (h2 : M1.stOk sw sc sr = false) :
  Calls Tryz.prog 62 #[.agg #[.int .i64 dr, .int .i64 dn, .int .i64 sw, .int .i64 sc, .int .i64 sr, .int .i64 k, .int .i64 tr, .int .i64 id, .int .i64 pa, .string s, .int .i64 st, .int .i64 en, .int .i64 lv]] w fun e w' => e = .returned (.bool false) ∧ Below w.heap.size w w' := by
 go_enter Tryz.func62, Tryz.ntmps62
 go_wp2_with fail
 refine (dotOk_any _ _ _).mono ?_
 rw [h1]
 rintro e w1 ⟨rfl, hb1⟩
 obtain ⟨hc1, hf1⟩ := bcell hb1
 have hs1 := hb1.size
 simp at hs1
 have hs1a : w.heap.size < w1.heap.size := by omega
 go_wp2_with fail
 refine (stampOk_impl _ _ _ _).mono ?_
 rw [h2]
 rintro e w2 ⟨rfl, hb2⟩
 have hB2 := hb1.trans (hb2.mono hb1.size)
 clear hc1 hf1
 obtain ⟨hc2, hf2⟩ := bcell hB2
 have hs2 := hB2.size
 simp at hs2
 have hs2a : w.heap.size < w2.heap.size := by omega
 go_wp2_with fail
 go_ret
 refine ⟨rfl, ?_⟩
 repeat (first | (with_reducible exact Below.refl _ _) | ((with_reducible refine Below.setCell ?_ ?_ _); rotate_left; (focus (first | omega | (simp; done) | (simp; omega)))) | ((with_reducible refine Below.alloc ?_ ?_ _); rotate_left; (focus (first | omega | (simp; done) | (simp; omega)))) | (with_reducible refine Below.drew ?_) | ((with_reducible refine Below.trans ?_ (Below.mono hB2 ?_)); rotate_left; (focus (first | omega | (simp; done) | (simp; omega)))))

set_option maxHeartbeats 8000000 in
set_option maxRecDepth 100000 in
theorem updateOk_no3 (dr dn sw sc sr k tr id pa st en lv : Int) (s : ByteArray) (w : World) (h1 : M1.dotOk dr dn = true) (h2 : M1.stOk sw sc sr = true) (h3 : (sr != dr) = true) :
  Calls Tryz.prog 62 #[.agg #[.int .i64 dr, .int .i64 dn, .int .i64 sw, .int .i64 sc, .int .i64 sr, .int .i64 k, .int .i64 tr, .int .i64 id, .int .i64 pa, .string s, .int .i64 st, .int .i64 en, .int .i64 lv]] w fun e w' => e = .returned (.bool false) ∧ Below w.heap.size w w' := by
 go_enter Tryz.func62, Tryz.ntmps62
 go_wp2_with fail
 refine (dotOk_any _ _ _).mono ?_
 rw [h1]
 rintro e w1 ⟨rfl, hb1⟩
 obtain ⟨hc1, hf1⟩ := bcell hb1
 have hs1 := hb1.size
 simp at hs1
 have hs1a : w.heap.size < w1.heap.size := by omega
 go_wp2_with fail
 refine (stampOk_impl _ _ _ _).mono ?_
 rw [h2]
 rintro e w2 ⟨rfl, hb2⟩
 have hB2 := hb1.trans (hb2.mono hb1.size)
 clear hc1 hf1
 obtain ⟨hc2, hf2⟩ := bcell hB2
 have hs2 := hB2.size
 simp at hs2
 have hs2a : w.heap.size < w2.heap.size := by omega
 go_wp2_with fail
 go_ret
 refine ⟨rfl, ?_⟩
 repeat (first | (with_reducible exact Below.refl _ _) | ((with_reducible refine Below.setCell ?_ ?_ _); rotate_left; (focus (first | omega | (simp; done) | (simp; omega)))) | ((with_reducible refine Below.alloc ?_ ?_ _); rotate_left; (focus (first | omega | (simp; done) | (simp; omega)))) | (with_reducible refine Below.drew ?_) | ((with_reducible refine Below.trans ?_ (Below.mono hB2 ?_)); rotate_left; (focus (first | omega | (simp; done) | (simp; omega)))))

set_option maxHeartbeats 8000000 in
set_option maxRecDepth 100000 in
theorem updateOk_no4 (dr dn sw sc sr k tr id pa st en lv : Int) (s : ByteArray) (w : World) (h1 : M1.dotOk dr dn = true) (h2 : M1.stOk sw sc sr = true) (h3 : sr = dr) (h4 : M1.inB tr 1 1000 = false) :
  Calls Tryz.prog 62 #[.agg #[.int .i64 dr, .int .i64 dn, .int .i64 sw, .int .i64 sc, .int .i64 sr, .int .i64 k, .int .i64 tr, .int .i64 id, .int .i64 pa, .string s, .int .i64 st, .int .i64 en, .int .i64 lv]] w fun e w' => e = .returned (.bool false) ∧ Below w.heap.size w w' := by
 subst h3
 go_enter Tryz.func62, Tryz.ntmps62
 go_wp2_with fail
 refine (dotOk_any _ _ _).mono ?_
 rw [h1]
 rintro e w1 ⟨rfl, hb1⟩
 obtain ⟨hc1, hf1⟩ := bcell hb1
 have hs1 := hb1.size
 simp at hs1
 have hs1a : w.heap.size < w1.heap.size := by omega
 go_wp2_with fail
 refine (stampOk_impl _ _ _ _).mono ?_
 rw [h2]
 rintro e w2 ⟨rfl, hb2⟩
 have hB2 := hb1.trans (hb2.mono hb1.size)
 clear hc1 hf1
 obtain ⟨hc2, hf2⟩ := bcell hB2
 have hs2 := hB2.size
 simp at hs2
 have hs2a : w.heap.size < w2.heap.size := by omega
 go_wp2_with fail
 refine (inRange_any _ _ _ _).mono ?_
 rw [h4]
 rintro e w3 ⟨rfl, rfl⟩
 go_wp2_with fail
 go_ret
 refine ⟨rfl, ?_⟩
 repeat (first | (with_reducible exact Below.refl _ _) | ((with_reducible refine Below.setCell ?_ ?_ _); rotate_left; (focus (first | omega | (simp; done) | (simp; omega)))) | ((with_reducible refine Below.alloc ?_ ?_ _); rotate_left; (focus (first | omega | (simp; done) | (simp; omega)))) | (with_reducible refine Below.drew ?_) | ((with_reducible refine Below.trans ?_ (Below.mono hB2 ?_)); rotate_left; (focus (first | omega | (simp; done) | (simp; omega)))))

theorem updateOk_impl (dr dn sw sc sr k tr id pa st en lv : Int) (s : ByteArray) (w : World) (hs : s.size ≤ maxLen) :
  Calls Tryz.prog 62 #[.agg #[.int .i64 dr, .int .i64 dn, .int .i64 sw, .int .i64 sc, .int .i64 sr, .int .i64 k, .int .i64 tr, .int .i64 id, .int .i64 pa, .string s, .int .i64 st, .int .i64 en, .int .i64 lv]] w fun e w' => e = .returned (.bool (M1.updB dr dn sw sc sr k tr id pa s st en lv)) ∧ Below w.heap.size w w' := by
 by_cases h1 : M1.dotOk dr dn = true
 ·by_cases h2 : M1.stOk sw sc sr = true
  ·by_cases h3 : sr = dr
   ·by_cases h4 : M1.inB tr 1 1000 = true
    ·rw [(by unfold M1.updB M1.headB; rw [h1, h2, h4, decide_eq_true h3]; rfl : M1.updB dr dn sw sc sr k tr id pa s st en lv = M1.kindB k id pa s st en lv)]
     by_cases k1 : k = 1
     ·subst k1
      by_cases hl : (lv == 0) = true
      ·rw [(by simp [M1.kindB, hl] : M1.kindB 1 id pa s st en lv = M1.spanB id pa s st en)]
       exact updateOk_span _ _ _ _ _ _ _ _ _ _ _ _ _ _ _ h1 h2 h3 h4 (fun w => spanRight _ _ _ _ _ w hs) (fun w => by rw [← hl]; exact changeOf_1 _ _ _ _ _ _ _ _ _ _ _ _ w)
      ·replace hl : (lv == 0) = false := by simpa using hl
       rw [(by simp [M1.kindB, hl] : M1.kindB 1 id pa s st en lv = false)]
       exact updateOk_off _ _ _ _ _ _ _ _ _ _ _ _ _ _ _ h1 h2 h3 h4 (fun w => by rw [← hl]; exact changeOf_1 _ _ _ _ _ _ _ _ _ _ _ _ w)
     ·by_cases k2 : k = 2
      ·subst k2
       by_cases hl : (M1.zeroB id pa s st en && (lv == 0)) = true
       ·rw [(by unfold M1.kindB; rw [if_neg (by decide), if_pos rfl, hl] : M1.kindB 2 id pa s st en lv = true)]
        exact updateOk_keep _ _ _ _ _ _ _ _ _ _ _ _ _ _ _ h1 h2 h3 h4 (fun w => keepRight w) (fun w => by rw [← hl]; exact changeOf_2 _ _ _ _ _ _ _ _ _ _ _ _ w)
       ·replace hl : (M1.zeroB id pa s st en && (lv == 0)) = false := by simpa using hl
        rw [(by unfold M1.kindB; rw [if_neg (by decide), if_pos rfl, hl] : M1.kindB 2 id pa s st en lv = false)]
        exact updateOk_off _ _ _ _ _ _ _ _ _ _ _ _ _ _ _ h1 h2 h3 h4 (fun w => by rw [← hl]; exact changeOf_2 _ _ _ _ _ _ _ _ _ _ _ _ w)
      ·by_cases k3 : k = 3
       ·subst k3
        by_cases hl : M1.zeroB id pa s st en = true
        ·rw [(by unfold M1.kindB; rw [if_neg (by decide), if_neg (by decide), if_pos rfl, hl, Bool.true_and] : M1.kindB 3 id pa s st en lv = M1.inB lv 1 1000000)]
         exact updateOk_life _ _ _ _ _ _ _ _ _ _ _ _ _ _ _ h1 h2 h3 h4 (fun w => lifeRight _ w) (fun w => by rw [← hl]; exact changeOf_3 _ _ _ _ _ _ _ _ _ _ _ _ w)
        ·replace hl : M1.zeroB id pa s st en = false := by simpa using hl
         rw [(by unfold M1.kindB; rw [if_neg (by decide), if_neg (by decide), if_pos rfl, hl, Bool.false_and] : M1.kindB 3 id pa s st en lv = false)]
         exact updateOk_off _ _ _ _ _ _ _ _ _ _ _ _ _ _ _ h1 h2 h3 h4 (fun w => by rw [← hl]; exact changeOf_3 _ _ _ _ _ _ _ _ _ _ _ _ w)
       ·rw [(by unfold M1.kindB; rw [if_neg k1, if_neg k2, if_neg k3] : M1.kindB k id pa s st en lv = false)]
        exact updateOk_off _ _ _ _ _ _ _ _ _ _ _ _ _ _ _ h1 h2 h3 h4 (fun w => changeOf_0 _ _ _ _ _ _ _ _ _ _ _ _ _ w (by simp [k1]) (by simp [k2]) (by simp [k3]))
    ·rw [(by unfold M1.updB M1.headB; rw [Bool.eq_false_iff.2 h4]; simp : M1.updB dr dn sw sc sr k tr id pa s st en lv = false)]
     exact updateOk_no4 _ _ _ _ _ _ _ _ _ _ _ _ _ _ h1 h2 h3 (by simpa using h4)
   ·rw [(by unfold M1.updB M1.headB; rw [decide_eq_false h3]; simp : M1.updB dr dn sw sc sr k tr id pa s st en lv = false)]
    exact updateOk_no3 _ _ _ _ _ _ _ _ _ _ _ _ _ _ h1 h2 (by simp [h3])
  ·rw [(by unfold M1.updB M1.headB; rw [Bool.eq_false_iff.2 h2]; simp : M1.updB dr dn sw sc sr k tr id pa s st en lv = false)]
   exact updateOk_no2 _ _ _ _ _ _ _ _ _ _ _ _ _ _ h1 (by simpa using h2)
 ·rw [(by unfold M1.updB M1.headB; rw [Bool.eq_false_iff.2 h1]; simp : M1.updB dr dn sw sc sr k tr id pa s st en lv = false)]
  exact updateOk_no1 _ _ _ _ _ _ _ _ _ _ _ _ _ _ (by simpa using h1)

end Go.Proofs.YtgcinolbkllkkaaGreat
