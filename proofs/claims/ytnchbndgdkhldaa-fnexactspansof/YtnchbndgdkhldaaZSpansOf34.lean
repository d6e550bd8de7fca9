/-
  Texts of one proof, joined: Sp4, Told1.
-/
import Derived.Test.YtnchbndgdkhldaaZSpansOf33
import Derived.Test.YtnchbndgdkhldaaZSpansOf12
import Derived.Test.YtnchbndgdkhldaaZSpansOf08
import Derived.Sort.Grow
import Derived.Deep.Draws
namespace M1
/-- The spans of a trace, as updates, by rising number. -/
def sps (us : List Upd) (tr : Int) : List Upd := if setOk us = true then spTo us tr us.length else []
theorem sps_len (us : List Upd) (tr : Int) : (sps us tr).length ≤ us.length := by
  unfold sps
  split
  · exact spTo_len us tr us.length
  · simp
end M1
namespace Go.Proofs.Ytnchbndgdkhldaa
open Go.ChangeShapes Go.WideShapes Go.ChangeAt Go.RowKit
set_option linter.unusedSimpArgs false
set_option linter.unusedVariables false

/-- A list of spans in memory of one's own. -/
def SpW (w w' : World) (e : Ending) (r : List M1.Upd) : Prop := ∃ (a : Option Addr) (c : Nat), e = .returned (.slice a r.length c) ∧ MG w' a r.length c w.heap.size w'.heap.size (scell r)

set_option maxHeartbeats 4000000 in
set_option maxRecDepth 100000 in
theorem spansOf_spec (av : Option Addr) (n cn : Nat) (us : List M1.Upd) (tr : Int) (w : World) (h1 : IsUpds w av n cn us) :
    Calls Try.prog 12 #[.slice av n cn, .int .i64 tr] w fun e w' => SpW w w' e (M1.sps us tr) ∧ Below w.heap.size w w' := by
  have hl1 : Hid (us.length = n) := h1.hlen
  obtain ⟨ok, hok⟩ : ∃ b, Hid (M1.setOk us = b) := ⟨_, rfl⟩
  go_enter Try.func12, Try.ntmps12
  go_wp2_with fail
  refine (setOk_spec _ _ _ _ _ h1).mono ?_
  rw [hok.out]
  rintro e w1 ⟨rfl, hb1⟩
  cases ok with
  | false =>
    have HT : Hid (M1.sps us tr = []) := (by unfold M1.sps; rw [hok.out]; rfl : M1.sps us tr = [])
    have own0 := ownsS_empty w1 36
    have mg := MG.of_ownsS (us := []) rfl own0
    have hs1 := hb1.size
    go_wp2_with fail
    go_ret
    refine ⟨⟨some ⟨w1.heap.size, 0, none⟩, 0, ?_, ?_⟩, hb1.alloc hb1.size _⟩
    · rw [HT.out]; rfl
    · rw [HT.out]
      exact ⟨mg.1, mg.2.1, mg.2.2.imp id fun ⟨y, e, h3, h4, r⟩ => ⟨y, e, by omega, h4, r⟩⟩
  | true =>
    have HT : Hid (M1.sps us tr = M1.spTo us tr n) := (by unfold M1.sps; rw [if_pos hok.out, hl1.out] : M1.sps us tr = M1.spTo us tr n)
    have hn60 := M1.setOk_len hok.out
    rw [hl1.out] at hn60
    have hs1 := hb1.size
    go_wp2_with fail
    refine (l4Spans_any _ _ _ _ _ _ (h1.below hb1) (by omega)).mono ?_
    rintro e w2 ⟨⟨a, c, rfl, mg⟩, hb2⟩
    go_wp2_with fail
    go_ret
    refine ⟨⟨a, c, ?_, ?_⟩, hb1.trans (hb2.mono hb1.size)⟩
    · rw [HT.out]; rfl
    · rw [HT.out]
      exact ⟨mg.1, mg.2.1, mg.2.2.imp id fun ⟨y, e, h3, h4, r⟩ => ⟨y, e, by omega, h4, r⟩⟩
end Go.Proofs.Ytnchbndgdkhldaa

namespace Go.Proofs.Ytnchbndgdkhldaa
open Go.ChangeShapes Go.WideShapes Go.ChangeAt Go.RowKit Go.Sort
set_option linter.unusedSimpArgs false
set_option linter.unusedVariables false

/-- Blocks laid and draws made, nothing else. -/
def Grew (w w' : World) : Prop := ∃ q os', w' = grow (w.drewN q) os'
theorem Grew.refl (w : World) : Grew w w := ⟨0, #[], by simp [grow, World.drewN]⟩
theorem Grew.alloc {w w' : World} (h : Grew w w') (o : Obj) : Grew w (w'.alloc o) := by
  obtain ⟨q, os', rfl⟩ := h
  exact ⟨q, os' ++ #[o], by rw [alloc_eq_grow, grow_grow]⟩
theorem Grew.drew {w w' : World} (h : Grew w w') : Grew w w'.drew := by
  obtain ⟨q, os', rfl⟩ := h
  exact ⟨q + 1, os', by simp [grow, World.drewN, World.drew, Nat.add_assoc]⟩
theorem Grew.trans {w w' w'' : World} (h : Grew w w') (h2 : Grew w' w'') : Grew w w'' := by
  obtain ⟨q, os', rfl⟩ := h
  obtain ⟨q2, os2, rfl⟩ := h2
  exact ⟨q + q2, os' ++ os2, by simp [grow, World.drewN, Array.append_assoc, Nat.add_assoc]⟩

end Go.Proofs.Ytnchbndgdkhldaa
