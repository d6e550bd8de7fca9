/-
  Contracts of both sides' RegionNew.
-/
import Derived.Test.YtpookiebkiigcaaZWorldNew26
namespace Go.Proofs.Ytpookiebkiigcaa
open Go.ChangeShapes Go.WideShapes Go.ChangeAt Go.RowKit
set_option linter.unusedSimpArgs false

theorem regionNew_spec (id : Int) (w : World) :
    Calls Try.prog 29 #[.int .i64 id] w fun e w' => e = .returned (.tuple #[.agg #[.int .i64 (if M1.inB id 1 5 = true then id else 0), .int .i64 0, .int .i64 0, .int .i64 (if M1.inB id 1 5 = true then id else 0), .slice none 0 0], .bool (M1.inB id 1 5)]) ∧ Below w.heap.size w w' := by
  by_cases q1 : M1.inB id 1 5 = true
  · rw [if_pos q1, q1]
    go_enter Try.func29, Try.ntmps29
    go_wp2_with fail
    refine (l1In_any _ _ _ _).mono ?_
    rw [q1]
    rintro e w0 ⟨rfl, rfl⟩
    go_wp2_with fail
    refine bodyPost_ret (v := .tuple #[.agg #[.int .i64 id, .int .i64 0, .int .i64 0, .int .i64 id, .slice none 0 0], .bool true]) (by simp [results, Try.results29, go_sem]) rfl ⟨rfl, ?_⟩
    repeat (first | (with_reducible exact Below.refl _ _) | ((with_reducible refine Below.setCell ?_ ?_ _); rotate_left; (focus (first | omega | (simp; done) | (simp; omega)))) | ((with_reducible refine Below.alloc ?_ ?_ _); rotate_left; (focus (first | omega | (simp; done) | (simp; omega)))) | (with_reducible refine Below.drew ?_))
  · rw [if_neg q1]
    replace q1 : M1.inB id 1 5 = false := by simpa using q1
    rw [q1]
    go_enter Try.func29, Try.ntmps29
    go_wp2_with fail
    refine (l1In_any _ _ _ _).mono ?_
    rw [q1]
    rintro e w0 ⟨rfl, rfl⟩
    go_wp2_with fail
    refine bodyPost_ret (v := .tuple #[.agg #[.int .i64 0, .int .i64 0, .int .i64 0, .int .i64 0, .slice none 0 0], .bool false]) (by simp [results, Try.results29, go_sem]) rfl ⟨rfl, ?_⟩
    repeat (first | (with_reducible exact Below.refl _ _) | ((with_reducible refine Below.setCell ?_ ?_ _); rotate_left; (focus (first | omega | (simp; done) | (simp; omega)))) | ((with_reducible refine Below.alloc ?_ ?_ _); rotate_left; (focus (first | omega | (simp; done) | (simp; omega)))) | (with_reducible refine Below.drew ?_))

theorem regionNew_impl (id : Int) (w : World) :
    Calls Try.prog 30 #[.int .i64 id] w fun e w' => e = .returned (.tuple #[.agg #[.int .i64 (if M1.inB id 1 5 = true then id else 0), .int .i64 0, .int .i64 0, .int .i64 (if M1.inB id 1 5 = true then id else 0), .slice none 0 0], .bool (M1.inB id 1 5)]) ∧ Below w.heap.size w w' := by
  by_cases q1 : M1.inB id 1 5 = true
  · rw [if_pos q1, q1]
    go_enter Try.func30, Try.ntmps30
    go_wp2_with fail
    refine (inRange_any _ _ _ _).mono ?_
    rw [q1]
    rintro e w0 ⟨rfl, rfl⟩
    go_wp2_with fail
    refine bodyPost_ret (v := .tuple #[.agg #[.int .i64 id, .int .i64 0, .int .i64 0, .int .i64 id, .slice none 0 0], .bool true]) (by simp [results, Try.results30, go_sem]) rfl ⟨rfl, ?_⟩
    repeat (first | (with_reducible exact Below.refl _ _) | ((with_reducible refine Below.setCell ?_ ?_ _); rotate_left; (focus (first | omega | (simp; done) | (simp; omega)))) | ((with_reducible refine Below.alloc ?_ ?_ _); rotate_left; (focus (first | omega | (simp; done) | (simp; omega)))) | (with_reducible refine Below.drew ?_))
  · rw [if_neg q1]
    replace q1 : M1.inB id 1 5 = false := by simpa using q1
    rw [q1]
    go_enter Try.func30, Try.ntmps30
    go_wp2_with fail
    refine (inRange_any _ _ _ _).mono ?_
    rw [q1]
    rintro e w0 ⟨rfl, rfl⟩
    go_wp2_with fail
    refine bodyPost_ret (v := .tuple #[.agg #[.int .i64 0, .int .i64 0, .int .i64 0, .int .i64 0, .slice none 0 0], .bool false]) (by simp [results, Try.results30, go_sem]) rfl ⟨rfl, ?_⟩
    repeat (first | (with_reducible exact Below.refl _ _) | ((with_reducible refine Below.setCell ?_ ?_ _); rotate_left; (focus (first | omega | (simp; done) | (simp; omega)))) | ((with_reducible refine Below.alloc ?_ ?_ _); rotate_left; (focus (first | omega | (simp; done) | (simp; omega)))) | (with_reducible refine Below.drew ?_))

end Go.Proofs.Ytpookiebkiigcaa
