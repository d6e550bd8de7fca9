/-
  For every code the law FnUpdateTexts answers true: a right update comes back from its text; what is read, written again, has just its bytes. The tables that the card lists are as the program's text lays them (the card's tie).
-/
import Derived.Handed
import Derived.Test.YtjgcjopijblpkaaDoorRd5
import Derived.Test.YtjgcjopijblpkaaDoorDraw1
import Derived.Test.YtjgcjopijblpkaaDoorRdrUpd
import Derived.Test.YtjgcjopijblpkaaDoorMath28
import Derived.Test.YtjgcjopijblpkaaDoorMath2
import Derived.Test.YtjgcjopijblpkaaDoorMath5
import Derived.Test.YtjgcjopijblpkaaDoorRd3
import Derived.Test.YtjgcjopijblpkaaDoorRd7
import Derived.Test.YtjgcjopijblpkaaDoorTx3
import Derived.Test.YtjgcjopijblpkaaDoorUpdOk
import Derived.Test.YtjgcjopijblpkaaDoorCards
import Derived.Test.YtjgcjopijblpkaaDoorTie
import Derived.SevenTiedAt
import Derived.Stop.LaidErr
import Derived.Lib.LaidTab
import Derived.LaidMore
import Derived.Lay
import Derived.ChangeSame
import Derived.ChangeVars
import Derived.JoinedOf
import Derived.Stop.Joined
import Derived.OpenShut
import Derived.ShutString
import Derived.ChangeOld
import Derived.ChangeMaps
import Derived.Lib.SmallJoins
namespace Go
variable {H : Type} {enc : TypeId × Value → H}
theorem returnsInHanded_and_shaped {a : Assume} {C : Checked} {os : Os} {f : FuncId} {fn : Func} {s : ChangeSpec} {conds : List PathCond} {apart fresh handsOn again : Bool} {X : World → Array Value → Prop}
    (hX : ∀ (w w' : World) (args : Array Value), w.heap = w'.heap → X w args → X w' args)
    (own : ownKnob C.prog.godebug = none) (started : os.Started) (noInit : C.prog.inits.idxOf? f = none) (hfn : C.prog.funcs[f]? = some fn)
    (witness : ∃ (w : World) (tape : Tape) (i : Input), w.os = os ∧ (w.forCall tape i).Shaped C.prog ∧ i.vars = [] ∧ Input.okWide C.prog (w.forCall tape i) .any w.heap.size f i ∧
      ((s.pre enc C.prog fn conds apart (w.forCall tape i).memory i.args ∧ X (w.forCall tape i).memory i.args) ∧ sizedMet enc C.prog fn (OpenSpec.ofChange s) apart (w.forCall tape i).memory i.args) ∧ a.holds C.prog (lone (Frame.enter C.prog f i.args .normal) [] (w.forCall tape i)))
    (contract : ∀ (W : World) (base : Nat) (args : Array Value) (ds gs : List (DataW H)) (before : List MemPlace),
      (∀ (j : Nat) t v, fn.params[j]? = some t → args[j]? = some v → Value.okWide C.prog W .any base t v) →
      DataW.Whole enc C.prog fn.params.toList s.vars apart W args.toList ds gs before →
      conds.all (PathCond.test C.prog ⟨fn.params.toList, ds, s.plain.varTypes C.prog, gs⟩) = true →
      (DataW.weightsEach C.prog (fn.params.toList ++ s.plain.varTypes C.prog) (ds ++ gs)).all (· ≤ reachBytes) = true → X W args →
      W.ShapedOpen C.prog →
      a.holds C.prog (lone (Frame.enter C.prog f args .normal) [] W) →
      Calls C.prog f args W fun e W' => ∃ v, e = .returned v ∧ s.post enc C.prog fn apart fresh handsOn again W args v W') :
    ReturnsInHanded a C os f .any (fun w args => (s.pre enc C.prog fn conds apart w args ∧ X w args) ∧ sizedMet enc C.prog fn (OpenSpec.ofChange s) apart w args) (s.post enc C.prog fn apart fresh handsOn again) := by
  refine returnsInHanded_of_calls own started noInit witness ?_
  intro w tape i _ hsh _ hok hpre hholds
  obtain ⟨_, _, _, fn', hfn', _, _, _, _, hval⟩ := hok
  cases Option.some.inj (hfn'.symm.trans hfn)
  obtain ⟨⟨⟨ds, gs, before, hw, hc⟩, hx⟩, hz⟩ := hpre
  refine (contract (w.forCall tape i) w.heap.size i.args ds gs before hval (DataW.Whole.of_heap (w' := w.forCall tape i) (by rfl) hw) hc (hz.weights hw) (hX _ _ _ (by rfl) hx) hsh hholds).mono fun e W' ⟨v, he, hp⟩ => ?_
  subst he
  exact ChangeSpec.post_blind hp
end Go
namespace Go.Proofs.YtjgcjopijblpkaaDoor
open Go.ChangeShapes Go.WideShapes Go.ChangeAt Go.RowKit Go.Shelf
/-- internal/bytealg.MaxLen's cell holds some number. -/
def MaxIn (w : World) : Prop := 1 < w.heap.size ∧ ∃ m, w.cell? ⟨1, 0, none⟩ = some (.int .i64 m)
theorem maxIn_of {W : World} (h : W.ShapedOpen Tryd.prog) : MaxIn W := by
  obtain ⟨m, hm⟩ : ∃ m, W.cell? ⟨1, 0, none⟩ = some (.int .i64 m) := Tryd.laySplit.s1_3 W h
  refine ⟨?_, m, hm⟩
  by_cases hl : 1 < W.heap.size
  · exact hl
  · have : W.heap[1]? = none := Array.getElem?_eq_none (by omega)
    simp [World.cell?, this] at hm
theorem MaxIn.below {w w' : World} (h : MaxIn w) (hb : Below w.heap.size w w') : MaxIn w' := by
  obtain ⟨hg, m, hm⟩ := h
  exact ⟨Nat.lt_of_lt_of_le hg hb.size, m, (hb.cell (p := ⟨1, 0, none⟩) hg).trans hm⟩
end Go.Proofs.YtjgcjopijblpkaaDoor

namespace Go.Proofs.YtjgcjopijblpkaaDoor
open Go.ChangeShapes Go.WideShapes Go.ChangeAt Go.RowKit
set_option linter.unusedSimpArgs false
set_option linter.unusedVariables false

def HtW (w w' : World) (e : Ending) (g : Nat) (av : Option Addr) (len cap n : Nat) : Prop := ∃ t : ByteArray, e = .returned (.string t) ∧ t.size ≤ n + 1 ∧ Rdr w' g av len cap ∧ Gr g w w'

set_option maxHeartbeats 8000000 in
set_option maxRecDepth 100000 in
theorem hurt_any (g : Nat) (av : Option Addr) (len cap : Nat) (s : ByteArray) (w : World) (h : Rdr w g av len cap) (hs : s.size ≤ 1000) :
    Calls Tryd.prog 38 #[.pointer (some ⟨g, 0, none⟩), .string s] w fun e w' => HtW w w' e g av len cap s.size := by
  have hgl := h.lt
  go_enter Tryd.func38, Tryd.ntmps38
  go_wp2_with fail
  refine (below_any g av len cap 6 _ h (by omega) (by omega)).mono ?_
  rintro e w1 ⟨x, rfl, x0, x6, R1, G1⟩
  have hl1 := R1.lt
  by_cases e1 : x = 1
  · subst e1
    go_wp2_with fail
    refine (below_any g av len cap _ _ R1 (by omega) (by omega)).mono ?_
    rintro e w2 ⟨y, rfl, y0, y6, R2, G2⟩
    obtain ⟨k, rfl⟩ : ∃ k : Nat, y = (k : Int) := ⟨y.toNat, by omega⟩
    have hk : k ≤ s.size := by omega
    go_wp2_with fail
    go_ret
    exact ⟨_, rfl, by rw [ByteArray.size_extract]; omega, R2, gr_trans G1 G2⟩
  by_cases e2 : x = 2
  · subst e2
    by_cases hs0 : s.size = 0
    · go_wp2_with fail
      go_ret
      exact ⟨s, rfl, by omega, R1, G1⟩
    · go_wp2_with fail
      refine (below_any g av len cap _ _ R1 (by omega) (by omega)).mono ?_
      rintro e w2 ⟨y, rfl, y0, y6, R2, G2⟩
      obtain ⟨k, rfl⟩ : ∃ k : Nat, y = (k : Int) := ⟨y.toNat, by omega⟩
      have hk : k < s.size := by omega
      have hwr : IntKind.i64.wrap ((k : Int) + 1) = (k : Int) + 1 := IntWalk.i64_in _ (by omega)
      go_upto_region 7 with fail
      refine wp_region_held_drew (S := fun w' => Rdr w' g av len cap ∧ Gr g w w') (by kernel_rfl) ?_ (fun hHeld => ?_)
      · exact ⟨R2.below (Below.refl _ _).drew, gr_trans (gr_trans G1 G2) (gr_below (Below.refl _ _).drew)⟩
      refine wpAnyH_take (i := 0) (v := ?_) rfl (by kernel_rfl) (by kernel_rfl) (by kernel_rfl) (fun _ _ _ h => h) (Or.inl ⟨by rfl, ?_⟩) hHeld ?_
      rotate_left
      · (intro w hSw; (try dsimp only at hSw); go_simp; try (with_reducible rfl))
      (try simp only [Act.put, List.getElem_toArray, List.getElem_cons_zero, List.getElem_cons_succ, List.setIfInBounds_toArray, List.set_cons_zero, List.set_cons_succ])
      refine wpAnyH_take (i := 1) (v := ?_) rfl (by kernel_rfl) (by kernel_rfl) (by kernel_rfl) (fun _ _ _ h => h) (Or.inl ⟨by rfl, ?_⟩) hHeld ?_
      rotate_left
      · (intro w hSw; (try dsimp only at hSw); go_simp; try (with_reducible rfl))
      (try simp only [Act.put, List.getElem_toArray, List.getElem_cons_zero, List.getElem_cons_succ, List.setIfInBounds_toArray, List.set_cons_zero, List.set_cons_succ])
      refine wpAnyH_take (i := 2) (v := .string (s.extract 0 k)) rfl (by kernel_rfl) (by kernel_rfl) (by kernel_rfl) (fun _ _ _ h => h) (Or.inl ⟨by rfl, ?_⟩) hHeld ?_
      · (intro w hSw; (try dsimp only at hSw); go_simp; (intro hx; omega))
      (try simp only [Act.put, List.getElem_toArray, List.getElem_cons_zero, List.getElem_cons_succ, List.setIfInBounds_toArray, List.set_cons_zero, List.set_cons_succ])
      refine wpAnyH_take (i := 4) (v := ?_) rfl (by kernel_rfl) (by kernel_rfl) (by kernel_rfl) (fun _ _ _ h => h) (Or.inl ⟨by rfl, ?_⟩) hHeld ?_
      rotate_left
      · (intro w hSw; (try dsimp only at hSw); go_simp; try (with_reducible rfl))
      (try simp only [Act.put, List.getElem_toArray, List.getElem_cons_zero, List.getElem_cons_succ, List.setIfInBounds_toArray, List.set_cons_zero, List.set_cons_succ])
      refine wpAnyH_take (i := 9) (v := ?_) rfl (by kernel_rfl) (by kernel_rfl) (by kernel_rfl) (fun _ _ _ h => h) (Or.inl ⟨by rfl, ?_⟩) hHeld ?_
      rotate_left
      · (intro w hSw; (try dsimp only at hSw); go_simp; try (with_reducible rfl))
      (try simp only [Act.put, List.getElem_toArray, List.getElem_cons_zero, List.getElem_cons_succ, List.setIfInBounds_toArray, List.set_cons_zero, List.set_cons_succ])
      refine wpAnyH_take (i := 10) (v := ?_) rfl (by kernel_rfl) (by kernel_rfl) (by kernel_rfl) (fun _ _ _ h => h) (Or.inl ⟨by rfl, ?_⟩) hHeld ?_
      rotate_left
      · (intro w hSw; (try dsimp only at hSw); go_simp; try (with_reducible rfl))
      (try simp only [Act.put, List.getElem_toArray, List.getElem_cons_zero, List.getElem_cons_succ, List.setIfInBounds_toArray, List.set_cons_zero, List.set_cons_succ])
      refine wpAnyH_take (i := 11) (v := .int .i64 ((k + 1 : Nat) : Int)) rfl (by kernel_rfl) (by kernel_rfl) (by kernel_rfl) (fun _ _ _ h => h) (Or.inl ⟨by rfl, ?_⟩) hHeld ?_
      · (intro w hSw; (try dsimp only at hSw); go_simp; (first | done | (rw [hwr]; done) | (simp [hwr]; done) | skip))
      (try simp only [Act.put, List.getElem_toArray, List.getElem_cons_zero, List.getElem_cons_succ, List.setIfInBounds_toArray, List.set_cons_zero, List.set_cons_succ])
      refine wpAnyH_take (i := 12) (v := .string (s.extract (k + 1) s.size)) rfl (by kernel_rfl) (by kernel_rfl) (by kernel_rfl) (fun _ _ _ h => h) (Or.inl ⟨by rfl, ?_⟩) hHeld ?_
      · (intro w hSw; (try dsimp only at hSw); go_simp; (first | done | (intro hx; omega) | skip))
      (try simp only [Act.put, List.getElem_toArray, List.getElem_cons_zero, List.getElem_cons_succ, List.setIfInBounds_toArray, List.set_cons_zero, List.set_cons_succ])
      refine wpAnyH_ready (rs := [3, 5]) (by kernel_rfl) (by simp) ?_
      refine AllReadyH.cons (o := _) rfl (fun K hK => ?_) (AllReadyH.cons (o := _) rfl (fun K hK => ?_) AllReadyH.nil)
      · go_simp
        refine hK.out _ _ ?_ (fun hHeld2 => ?_)
        · exact ⟨hHeld.1.below ((Below.refl _ _).alloc (Nat.le_refl _) _), gr_alloc hHeld.2 _⟩
        clear hK K hHeld
        have hHeld := hHeld2
        clear hHeld2
        (try simp only [Act.put, List.getElem_toArray, List.getElem_cons_zero, List.getElem_cons_succ, List.setIfInBounds_toArray, List.set_cons_zero, List.set_cons_succ])
        refine wpAnyH_ready (rs := [5]) (by kernel_rfl) (by simp) ?_
        refine AllReadyH.cons (o := _) rfl (fun K hK => ?_) AllReadyH.nil
        go_simp
        (refine (below_any g av len cap 5 _ hHeld.1 (by omega) (by omega)).mono ?_; rintro e w8 ⟨z, rfl, z0, z5, R8, G8⟩; go_wp2_with fail)
        refine hK.out _ _ ?_ (fun hHeld2 => ?_)
        · exact ⟨R8, gr_trans hHeld.2 G8⟩
        clear hK K hHeld
        have hHeld := hHeld2
        clear hHeld2
        (try simp only [Act.put, List.getElem_toArray, List.getElem_cons_zero, List.getElem_cons_succ, List.setIfInBounds_toArray, List.set_cons_zero, List.set_cons_succ])
        have hl2 := R2.lt
        obtain ⟨j, rfl⟩ : ∃ j : Nat, z = (j : Int) := ⟨z.toNat, by omega⟩
        have hj : j < 5 := by omega
        have hze1 := (s.extract 0 k).size
        have hze : (s.extract 0 k).size = k := by rw [ByteArray.size_extract]; omega
        have hzf : (s.extract (k + 1) s.size).size = s.size - (k + 1) := by rw [ByteArray.size_extract]; omega
        obtain ⟨t, ht, htz⟩ : ∃ t : ByteArray, w8.cell? ⟨w2.heap.size, j, none⟩ = some (.string t) ∧ t.size = 1 := by
          have hrow := ((show RowAt (w2.alloc (.cells #[.string ⟨#[48]⟩, .string ⟨#[49]⟩, .string ⟨#[32]⟩, .string ⟨#[120]⟩, .string ⟨#[57]⟩] 9)).drew w2.heap.size 5 (fun o => (#[.string ⟨#[48]⟩, .string ⟨#[49]⟩, .string ⟨#[32]⟩, .string ⟨#[120]⟩, .string ⟨#[57]⟩] : Array Value).getD o undef) from (RowAt.new w2 _ _).below (Below.refl _ _).drew).gr G8 (by omega))
          match j, hj with
          | 0, _ => exact ⟨⟨#[48]⟩, hrow.cell (o := 0) (by omega), rfl⟩
          | 1, _ => exact ⟨⟨#[49]⟩, hrow.cell (o := 1) (by omega), rfl⟩
          | 2, _ => exact ⟨⟨#[32]⟩, hrow.cell (o := 2) (by omega), rfl⟩
          | 3, _ => exact ⟨⟨#[120]⟩, hrow.cell (o := 3) (by omega), rfl⟩
          | 4, _ => exact ⟨⟨#[57]⟩, hrow.cell (o := 4) (by omega), rfl⟩
        have hjz : ((j : Nat) : Int) < 5 := by omega
        have hjz0 : (0 : Int) ≤ (j : Int) := by omega
        refine wpAnyH_ready (rs := [6]) (by kernel_rfl) (by simp) ?_
        refine AllReadyH.cons (o := _) rfl (fun K hK => ?_) AllReadyH.nil
        go_simp
        skip
        refine hK.out _ _ ?_ (fun hHeld2 => ?_)
        · exact hHeld
        clear hK K hHeld
        have hHeld := hHeld2
        clear hHeld2
        (try simp only [Act.put, List.getElem_toArray, List.getElem_cons_zero, List.getElem_cons_succ, List.setIfInBounds_toArray, List.set_cons_zero, List.set_cons_succ])
        refine wpAnyH_ready (rs := [7]) (by kernel_rfl) (by simp) ?_
        refine AllReadyH.cons (o := _) rfl (fun K hK => ?_) AllReadyH.nil
        go_simp
        skip
        refine hK.out _ _ ?_ (fun hHeld2 => ?_)
        · exact hHeld
        clear hK K hHeld
        have hHeld := hHeld2
        clear hHeld2
        (try simp only [Act.put, List.getElem_toArray, List.getElem_cons_zero, List.getElem_cons_succ, List.setIfInBounds_toArray, List.set_cons_zero, List.set_cons_succ])
        refine wpAnyH_take (i := 8) (v := .string (s.extract 0 k ++ t)) rfl (by kernel_rfl) (by kernel_rfl) (by kernel_rfl) (fun _ _ _ h => h) (Or.inl ⟨by rfl, ?_⟩) hHeld ?_
        · (intro w hSw; (try dsimp only at hSw); go_simp; (first | done | omega | (intro hx; omega) | skip))
        (try simp only [Act.put, List.getElem_toArray, List.getElem_cons_zero, List.getElem_cons_succ, List.setIfInBounds_toArray, List.set_cons_zero, List.set_cons_succ])
        refine wpAnyH_take (i := 13) (v := .string (s.extract 0 k ++ t ++ s.extract (k + 1) s.size)) rfl (by kernel_rfl) (by kernel_rfl) (by kernel_rfl) (fun _ _ _ h => h) (Or.inl ⟨by rfl, ?_⟩) hHeld ?_
        · (intro w hSw; (try dsimp only at hSw); go_simp; (first | done | omega | (intro hx; omega) | skip))
        (try simp only [Act.put, List.getElem_toArray, List.getElem_cons_zero, List.getElem_cons_succ, List.setIfInBounds_toArray, List.set_cons_zero, List.set_cons_succ])
        refine wpAnyH_take (i := 14) (v := ?_) rfl (by kernel_rfl) (by kernel_rfl) (by kernel_rfl) (fun _ _ _ h => h) (Or.inl ⟨by rfl, ?_⟩) hHeld ?_
        rotate_left
        · (intro w hSw; (try dsimp only at hSw); go_simp; try (with_reducible rfl))
        (try simp only [Act.put, List.getElem_toArray, List.getElem_cons_zero, List.getElem_cons_succ, List.setIfInBounds_toArray, List.set_cons_zero, List.set_cons_succ])
        refine wpAnyH_done (by kernel_rfl) ?_ _
        go_wp2_with fail
        go_ret
        exact ⟨_, rfl, by rw [ByteArray.size_append, ByteArray.size_append]; omega, hHeld.1, hHeld.2⟩
      · go_simp
        refine (below_any g av len cap 5 _ hHeld.1 (by omega) (by omega)).mono ?_
        rintro e w8 ⟨z, rfl, z0, z5, R8, G8⟩
        go_wp2_with fail
        refine hK.out _ _ ?_ (fun hHeld2 => ?_)
        · exact ⟨R8, gr_trans hHeld.2 G8⟩
        clear hK K hHeld
        have hHeld := hHeld2
        clear hHeld2
        (try simp only [Act.put, List.getElem_toArray, List.getElem_cons_zero, List.getElem_cons_succ, List.setIfInBounds_toArray, List.set_cons_zero, List.set_cons_succ])
        refine wpAnyH_ready (rs := [3]) (by kernel_rfl) (by simp) ?_
        refine AllReadyH.cons (o := _) rfl (fun K hK => ?_) AllReadyH.nil
        go_simp
        skip
        refine hK.out _ _ ?_ (fun hHeld2 => ?_)
        · exact ⟨hHeld.1.below ((Below.refl _ _).alloc (Nat.le_refl _) _), gr_alloc hHeld.2 _⟩
        clear hK K hHeld
        have hHeld := hHeld2
        clear hHeld2
        (try simp only [Act.put, List.getElem_toArray, List.getElem_cons_zero, List.getElem_cons_succ, List.setIfInBounds_toArray, List.set_cons_zero, List.set_cons_succ])
        obtain ⟨j, rfl⟩ : ∃ j : Nat, z = (j : Int) := ⟨z.toNat, by omega⟩
        have hj : j < 5 := by omega
        have hze1 := (s.extract 0 k).size
        have hze : (s.extract 0 k).size = k := by rw [ByteArray.size_extract]; omega
        have hzf : (s.extract (k + 1) s.size).size = s.size - (k + 1) := by rw [ByteArray.size_extract]; omega
        obtain ⟨t, ht, htz⟩ : ∃ t : ByteArray, (w8.alloc (.cells #[.string ⟨#[48]⟩, .string ⟨#[49]⟩, .string ⟨#[32]⟩, .string ⟨#[120]⟩, .string ⟨#[57]⟩] 9)).cell? ⟨w8.heap.size, j, none⟩ = some (.string t) ∧ t.size = 1 := by
          have hrow := (show RowAt (w8.alloc (.cells #[.string ⟨#[48]⟩, .string ⟨#[49]⟩, .string ⟨#[32]⟩, .string ⟨#[120]⟩, .string ⟨#[57]⟩] 9)) w8.heap.size 5 (fun o => (#[.string ⟨#[48]⟩, .string ⟨#[49]⟩, .string ⟨#[32]⟩, .string ⟨#[120]⟩, .string ⟨#[57]⟩] : Array Value).getD o undef) from RowAt.new w8 _ _)
          match j, hj with
          | 0, _ => exact ⟨⟨#[48]⟩, hrow.cell (o := 0) (by omega), rfl⟩
          | 1, _ => exact ⟨⟨#[49]⟩, hrow.cell (o := 1) (by omega), rfl⟩
          | 2, _ => exact ⟨⟨#[32]⟩, hrow.cell (o := 2) (by omega), rfl⟩
          | 3, _ => exact ⟨⟨#[120]⟩, hrow.cell (o := 3) (by omega), rfl⟩
          | 4, _ => exact ⟨⟨#[57]⟩, hrow.cell (o := 4) (by omega), rfl⟩
        have hjz : ((j : Nat) : Int) < 5 := by omega
        have hjz0 : (0 : Int) ≤ (j : Int) := by omega
        refine wpAnyH_ready (rs := [6]) (by kernel_rfl) (by simp) ?_
        refine AllReadyH.cons (o := _) rfl (fun K hK => ?_) AllReadyH.nil
        go_simp
        skip
        refine hK.out _ _ ?_ (fun hHeld2 => ?_)
        · exact hHeld
        clear hK K hHeld
        have hHeld := hHeld2
        clear hHeld2
        (try simp only [Act.put, List.getElem_toArray, List.getElem_cons_zero, List.getElem_cons_succ, List.setIfInBounds_toArray, List.set_cons_zero, List.set_cons_succ])
        refine wpAnyH_ready (rs := [7]) (by kernel_rfl) (by simp) ?_
        refine AllReadyH.cons (o := _) rfl (fun K hK => ?_) AllReadyH.nil
        go_simp
        skip
        refine hK.out _ _ ?_ (fun hHeld2 => ?_)
        · exact hHeld
        clear hK K hHeld
        have hHeld := hHeld2
        clear hHeld2
        (try simp only [Act.put, List.getElem_toArray, List.getElem_cons_zero, List.getElem_cons_succ, List.setIfInBounds_toArray, List.set_cons_zero, List.set_cons_succ])
        refine wpAnyH_take (i := 8) (v := .string (s.extract 0 k ++ t)) rfl (by kernel_rfl) (by kernel_rfl) (by kernel_rfl) (fun _ _ _ h => h) (Or.inl ⟨by rfl, ?_⟩) hHeld ?_
        · (intro w hSw; (try dsimp only at hSw); go_simp; (first | done | omega | (intro hx; omega) | skip))
        (try simp only [Act.put, List.getElem_toArray, List.getElem_cons_zero, List.getElem_cons_succ, List.setIfInBounds_toArray, List.set_cons_zero, List.set_cons_succ])
        refine wpAnyH_take (i := 13) (v := .string (s.extract 0 k ++ t ++ s.extract (k + 1) s.size)) rfl (by kernel_rfl) (by kernel_rfl) (by kernel_rfl) (fun _ _ _ h => h) (Or.inl ⟨by rfl, ?_⟩) hHeld ?_
        · (intro w hSw; (try dsimp only at hSw); go_simp; (first | done | omega | (intro hx; omega) | skip))
        (try simp only [Act.put, List.getElem_toArray, List.getElem_cons_zero, List.getElem_cons_succ, List.setIfInBounds_toArray, List.set_cons_zero, List.set_cons_succ])
        refine wpAnyH_take (i := 14) (v := ?_) rfl (by kernel_rfl) (by kernel_rfl) (by kernel_rfl) (fun _ _ _ h => h) (Or.inl ⟨by rfl, ?_⟩) hHeld ?_
        rotate_left
        · (intro w hSw; (try dsimp only at hSw); go_simp; try (with_reducible rfl))
        (try simp only [Act.put, List.getElem_toArray, List.getElem_cons_zero, List.getElem_cons_succ, List.setIfInBounds_toArray, List.set_cons_zero, List.set_cons_succ])
        refine wpAnyH_done (by kernel_rfl) ?_ _
        go_wp2_with fail
        go_ret
        exact ⟨_, rfl, by rw [ByteArray.size_append, ByteArray.size_append]; omega, hHeld.1, hHeld.2⟩
  by_cases e3 : x = 3
  · subst e3
    go_wp2_with fail
    refine (below_any g av len cap 3 _ (R1.below ((Below.refl _ _).alloc (Nat.le_refl _) _)) (by omega) (by omega)).mono ?_
    rintro e w2 ⟨y, rfl, y0, y6, R2, G2⟩
    have hl2 := R2.lt
    obtain ⟨j, rfl⟩ : ∃ j : Nat, y = (j : Int) := ⟨y.toNat, by omega⟩
    have hj : j < 3 := by omega
    obtain ⟨t, ht, htz⟩ : ∃ t : ByteArray, w2.cell? ⟨w1.heap.size, j, none⟩ = some (.string t) ∧ t.size = 1 := by
      have hrow := (show RowAt (w1.alloc (.cells #[.string ⟨#[32]⟩, .string ⟨#[48]⟩, .string ⟨#[120]⟩] 9)) w1.heap.size 3 (fun o => (#[.string ⟨#[32]⟩, .string ⟨#[48]⟩, .string ⟨#[120]⟩] : Array Value).getD o undef) from RowAt.new w1 _ _).gr G2 (by omega)
      match j, hj with
      | 0, _ => exact ⟨⟨#[32]⟩, hrow.cell (o := 0) (by omega), rfl⟩
      | 1, _ => exact ⟨⟨#[48]⟩, hrow.cell (o := 1) (by omega), rfl⟩
      | 2, _ => exact ⟨⟨#[120]⟩, hrow.cell (o := 2) (by omega), rfl⟩
    have hjz : ((j : Nat) : Int) < 3 := by omega
    go_wp2_with fail
    go_ret
    exact ⟨_, rfl, by rw [ByteArray.size_append]; omega, R2, gr_trans (gr_alloc G1 _) G2⟩
  · go_wp2_with fail
    go_ret
    exact ⟨s, rfl, by omega, R1, G1⟩
end Go.Proofs.YtjgcjopijblpkaaDoor

namespace Go.Proofs.YtjgcjopijblpkaaDoor
open Go.ChangeShapes Go.WideShapes Go.ChangeAt Go.RowKit
set_option maxRecDepth 100000

/-- A slice of bytes. -/
structure IsBytes (w : World) (av : Option Addr) (len cap : Nat) : Prop where
  hc : len ≤ cap
  hm : cap ≤ maxLen
  lies : len = 0 ∨ ∃ b off, av = some ⟨b, off, none⟩ ∧ b < w.heap.size ∧ ∀ i, i < len → ∃ z, w.cell? ⟨b, off + i, none⟩ = some (.int .u8 z) ∧ 0 ≤ z ∧ z ≤ 255

theorem IsBytes.below {w w' : World} {av : Option Addr} {len cap : Nat} (h : IsBytes w av len cap) {B : Nat} (hB : w.heap.size ≤ B) (hb : Below B w w') : IsBytes w' av len cap :=
  ⟨h.hc, h.hm, h.lies.imp id fun ⟨b, off, e, hlt, hz⟩ => ⟨b, off, e, Nat.lt_of_lt_of_le hlt hb.size, fun i hi => let ⟨z, h2, h3⟩ := hz i hi; ⟨z, (hb.cell (p := ⟨b, off + i, none⟩) (by show b < B; omega)).trans h2, h3⟩⟩⟩

theorem open_bytes {H : Type} {enc : TypeId × Value → H} {W : World} {fuel len cap : Nat} {a : Option Addr} {x : DataW H × List MemPlace}
    (hf : DataW.trod enc Tryd.prog W 0 (fun _ => true) true fuel 22 (Value.slice a len cap).cells.toList = some x) : IsBytes W a len cap := by
  rcases open_ints Tryd.underlying22 Tryd.underlying5 (by kernel_rfl) hf with ⟨hcs, _⟩ | ⟨y, l, c, zs, hcs, _, hl, hm, hz, _, hcell, hwz⟩
  · simp [Value.cells] at hcs
    obtain ⟨rfl, rfl, rfl⟩ := hcs
    exact ⟨Nat.le_refl _, Nat.zero_le _, Or.inl rfl⟩
  · simp [Value.cells] at hcs
    obtain ⟨rfl, rfl, rfl⟩ := hcs
    have hz' : zs.length = cap := by simpa using hz
    refine ⟨hl, hm, ?_⟩
    rcases Nat.eq_zero_or_pos len with h0 | h0
    · exact Or.inl h0
    · obtain ⟨b, off, rfl, hc⟩ := ints_at hcell (by omega)
      refine Or.inr ⟨b, off, rfl, World.block_lt_of_cell? W _ (hc 0 (by omega)), fun i hi => ⟨zs.getD i 0, hc i (by omega), ?_⟩⟩
      have hw := bounds_u8 (hwz (zs.getD i 0) (by simp [List.getD, show i < zs.length from by omega]))
      exact hw

theorem l1Open_any (av : Option Addr) (len cap : Nat) (w : World) (h : IsBytes w av len cap) :
    Calls Tryd.prog 23 #[.slice av len cap] w fun e w' => e = .returned (.pointer (some ⟨w.heap.size, 0, none⟩)) ∧ Rdr w' w.heap.size av len cap ∧ Below w.heap.size w w' := by
  go_enter Tryd.func23, Tryd.ntmps23
  go_wp2
  go_ret
  have hr := RowAt.new w #[.slice av len cap, .int .i64 0] 90
  refine ⟨rfl, ⟨by simp, hr.cell (o := 0) (by simp), ⟨0, Nat.zero_le _, hr.cell (o := 1) (by simp)⟩, hr.free (o := 0) (by simp), hr.free (o := 1) (by simp), h.hc, h.hm, ?_⟩, (Below.refl _ _).alloc (Nat.le_refl _) _⟩
  have hb : Below w.heap.size w (w.alloc (.cells #[.slice av len cap, .int .i64 0] 90)) := (Below.refl _ _).alloc (Nat.le_refl _) _
  exact h.lies.imp id fun ⟨b, off, e, hlt, hz⟩ => ⟨b, off, e, by simp; omega, by omega, fun i hi => let ⟨z, h2, h3⟩ := hz i hi; ⟨z, (hb.cell (p := ⟨b, off + i, none⟩) hlt).trans h2, h3⟩⟩
end Go.Proofs.YtjgcjopijblpkaaDoor

namespace M1

theorem rg_app {l : List (Int × Int)} {d : Int × Int} {i : Nat} (h : i < l.length) : rg (l ++ [d]) i = rg l i ∧ nm (l ++ [d]) i = nm l i := by
  simp [rg, nm, List.getD, List.getElem?_append_left h]
theorem rg_last (l : List (Int × Int)) (d : Int × Int) : rg (l ++ [d]) l.length = d.1 ∧ nm (l ++ [d]) l.length = d.2 := by
  simp [rg, nm, List.getD]
theorem lkTo_app {l : List (Int × Int)} {d : Int × Int} {r : Int} : ∀ k, k ≤ l.length → lkTo (l ++ [d]) k r = lkTo l k r
  | 0, _ => rfl
  | k + 1, h => by
    have := rg_app (d := d) (show k < l.length by omega)
    rw [lkTo_succ, lkTo_succ, this.1, this.2, lkTo_app k (by omega)]
theorem lk_snoc (l : List (Int × Int)) (d : Int × Int) (r : Int) : lk (l ++ [d]) r = if d.1 = r then d.2 else lk l r := by
  unfold lk
  rw [show (l ++ [d]).length = l.length + 1 from by simp, lkTo_succ, (rg_last l d).1, (rg_last l d).2, lkTo_app _ (Nat.le_refl _)]
theorem lk_dlTo (f : Int → Int) : ∀ (k : Nat) (r : Int), lk (dlTo f k) r = if 1 ≤ r ∧ r ≤ k ∧ 0 < f r then f r else 0
  | 0, r => by rw [if_neg (by omega)]; rfl
  | k + 1, r => by
    by_cases h : 0 < f (k + 1)
    · rw [dlTo_yes h, lk_snoc, lk_dlTo f k r]
      by_cases e : ((k : Int) + 1) = r
      · subst e; rw [if_pos rfl, if_pos ⟨by omega, by omega, h⟩]
      · rw [if_neg e]
        by_cases q : 1 ≤ r ∧ r ≤ k ∧ 0 < f r
        · rw [if_pos q, if_pos ⟨q.1, by omega, q.2.2⟩]
        · rw [if_neg q, if_neg (fun q2 => q ⟨q2.1, by omega, q2.2.2⟩)]
    · rw [dlTo_no h, lk_dlTo f k r]
      by_cases q : 1 ≤ r ∧ r ≤ k ∧ 0 < f r
      · rw [if_pos q, if_pos ⟨q.1, by omega, q.2.2⟩]
      · rw [if_neg q, if_neg (fun q2 => q ⟨q2.1, by
          have : r ≠ (k : Int) + 1 := fun e => h (by rw [← e]; exact q2.2.2)
          omega, q2.2.2⟩)]
theorem vecOk_snoc {l : List (Int × Int)} {d : Int × Int} (h : vecOk l = true) (hd : dotOk d.1 d.2 = true) (hr : ∀ j, j < l.length → rg l j < d.1) : vecOk (l ++ [d]) = true := by
  refine vecOk_yes fun j hj => ?_
  simp at hj
  by_cases e : j = l.length
  · subst e
    unfold vokAt
    rw [(rg_last l d).1, (rg_last l d).2, hd]
    by_cases e0 : l.length = 0
    · simp [e0]
    · have h1 := hr (l.length - 1) (by omega)
      rw [(rg_app (d := d) (show l.length - 1 < l.length by omega)).1]
      simp [h1]
  · have hj' : j < l.length := by omega
    have h1 := vecOk_all h j hj'
    unfold vokAt at h1 ⊢
    rw [(rg_app (d := d) hj').1, (rg_app (d := d) hj').2]
    by_cases e0 : j = 0
    · subst e0; simpa using h1
    · rw [(rg_app (d := d) (show j - 1 < l.length by omega)).1]; exact h1
theorem dlTo_rg (f : Int → Int) : ∀ (k : Nat) (j : Nat), j < (dlTo f k).length → rg (dlTo f k) j ≤ k
  | 0, j, h => by simp [dlTo] at h
  | k + 1, j, h => by
    by_cases q : 0 < f (k + 1)
    · rw [dlTo_yes q] at h ⊢
      simp at h
      by_cases e : j = (dlTo f k).length
      · rw [e, (rg_last _ _).1]; simp
      · rw [(rg_app (by omega)).1]; have := dlTo_rg f k j (by omega); omega
    · rw [dlTo_no q] at h ⊢
      have := dlTo_rg f k j h; omega
theorem dlTo_ok {f : Int → Int} (hf : ∀ r : Int, f r ≤ 1000000) : ∀ k : Nat, k ≤ 5 → vecOk (dlTo f k) = true
  | 0, _ => rfl
  | k + 1, h => by
    by_cases q : 0 < f (k + 1)
    · rw [dlTo_yes q]
      refine vecOk_snoc (dlTo_ok hf k (by omega)) ?_ (fun j hj => by have := dlTo_rg f k j hj; show _ < (k : Int) + 1; omega)
      have := hf ((k : Int) + 1)
      simp [dotOk, inB]; omega
    · rw [dlTo_no q]; exact dlTo_ok hf k (by omega)

theorem joinL_eq {a b : List (Int × Int)} (ha : vecOk a = true) (hb : vecOk b = true) : joinL a b = dlTo (fun r => max (lk a r) (lk b r)) 5 := by
  unfold joinL; rw [if_pos ⟨ha, hb⟩]
theorem joinL_ok {a b : List (Int × Int)} (ha : vecOk a = true) (hb : vecOk b = true) : vecOk (joinL a b) = true := by
  rw [joinL_eq ha hb]
  exact dlTo_ok (fun r => by have h1 := lk_bd ha r; have h2 := lk_bd hb r; show max (lk a r) (lk b r) ≤ _; omega) 5 (by omega)
theorem joinL_lk {a b : List (Int × Int)} (ha : vecOk a = true) (hb : vecOk b = true) (r : Int) : lk (joinL a b) r = max (lk a r) (lk b r) := by
  rw [joinL_eq ha hb, lk_dlTo]
  have h1 := lk_bd ha r
  have h2 := lk_bd hb r
  by_cases q : 1 ≤ r ∧ r ≤ ((5 : Nat) : Int) ∧ 0 < max (lk a r) (lk b r)
  · rw [if_pos q]
  · rw [if_neg q]
    by_cases hr : 1 ≤ r ∧ r ≤ 5
    · have : ¬ 0 < max (lk a r) (lk b r) := fun h => q ⟨hr.1, by have := hr.2; omega, h⟩
      omega
    · rw [lk_out ha (by omega), lk_out hb (by omega)]; rfl
theorem joinL_comm (a b : List (Int × Int)) : joinL b a = joinL a b := by
  unfold joinL
  by_cases h : vecOk a = true ∧ vecOk b = true
  · rw [if_pos h, if_pos h.symm]
    exact dlTo_congr 5 (fun r _ _ => by omega)
  · rw [if_neg h, if_neg (fun k => h k.symm)]
theorem joinL_again {a b : List (Int × Int)} (ha : vecOk a = true) (hb : vecOk b = true) : joinL (joinL a b) a = joinL a b := by
  rw [joinL_eq (joinL_ok ha hb) ha]
  conv => rhs; rw [joinL_eq ha hb]
  exact dlTo_congr 5 (fun r _ _ => by rw [joinL_lk ha hb]; omega)
theorem joinL_assoc {a b c : List (Int × Int)} (ha : vecOk a = true) (hb : vecOk b = true) (hc : vecOk c = true) : joinL (joinL a b) c = joinL a (joinL b c) := by
  rw [joinL_eq (joinL_ok ha hb) hc, joinL_eq ha (joinL_ok hb hc)]
  exact dlTo_congr 5 (fun r _ _ => by rw [joinL_lk ha hb, joinL_lk hb hc]; omega)
theorem cov_join {a b : List (Int × Int)} (ha : vecOk a = true) (hb : vecOk b = true) : covB (joinL a b) a = true ∧ covB (joinL a b) b = true := by
  constructor
  · rw [cov_iff (joinL_ok ha hb) ha]; intro r _ _; rw [joinL_lk ha hb]; omega
  · rw [cov_iff (joinL_ok ha hb) hb]; intro r _ _; rw [joinL_lk ha hb]; omega
theorem cov_both {a b c : List (Int × Int)} (ha : vecOk a = true) (hb : vecOk b = true) (hc : vecOk c = true) : covB c (joinL a b) = (covB c a && covB c b) := by
  rw [Bool.eq_iff_iff, Bool.and_eq_true, cov_iff hc (joinL_ok ha hb), cov_iff hc ha, cov_iff hc hb]
  constructor
  · intro h
    exact ⟨fun r h1 h2 => by have := h r h1 h2; rw [joinL_lk ha hb] at this; omega, fun r h1 h2 => by have := h r h1 h2; rw [joinL_lk ha hb] at this; omega⟩
  · intro ⟨h1, h2⟩ r h3 h4
    have a1 := h1 r h3 h4
    have a2 := h2 r h3 h4
    rw [joinL_lk ha hb]; omega
end M1

namespace M1

/-- The last number of region r in the first k updates (0: none). -/
def lastN (us : List Upd) : Nat → Int → Int
  | 0, _ => 0
  | k + 1, r => if (up us k).dr = r then (up us k).dn else lastN us k r
theorem lastN_succ (us : List Upd) (k : Nat) (r : Int) : lastN us (k + 1) r = if (up us k).dr = r then (up us k).dn else lastN us k r := rfl
theorem lastN_none {us : List Upd} {r : Int} : ∀ k, (∀ j, j < k → ¬ (up us j).dr = r) → lastN us k r = 0
  | 0, _ => rfl
  | k + 1, h => by rw [lastN_succ, if_neg (h k (by omega))]; exact lastN_none k (fun j hj => h j (by omega))
theorem lastN_at {us : List Upd} {j : Nat} : ∀ k, j < k → (∀ i, j < i → i < k → ¬ (up us i).dr = (up us j).dr) → lastN us k (up us j).dr = (up us j).dn
  | 0, hj, _ => absurd hj (Nat.not_lt_zero _)
  | k + 1, hj, h => by
    rw [lastN_succ]
    by_cases e : j = k
    · rw [e, if_pos rfl]
    · rw [if_neg (h k (by omega) (by omega))]; exact lastN_at k (by omega) (fun i h1 h2 => h i h1 (by omega))

/-- The vector of a set. -/
def vecU (us : List Upd) : List (Int × Int) := dlTo (lastN us us.length) 5
def vectorOf (us : List Upd) : List (Int × Int) := if setOk us = true then vecU us else []
theorem vectorOf_len (us : List Upd) : (vectorOf us).length ≤ 5 := by
  unfold vectorOf; split
  · exact dlTo_len _ 5
  · simp

theorem fol_le {a b : Upd} (h : fol a b = true) : a.dr ≤ b.dr := by
  unfold fol at h
  by_cases e : b.dr = a.dr
  · omega
  · rw [if_neg e] at h
    simp at h; omega
theorem ok_step {us : List Upd} {j : Nat} (h : okAt us (j + 1) = true) : (up us j).dr ≤ (up us (j + 1)).dr := by
  unfold okAt at h
  simp at h
  exact fol_le h.2
theorem ok_mono {us : List Upd} (h : ∀ j, j < us.length → okAt us j = true) {i : Nat} : ∀ j, i ≤ j → j < us.length → (up us i).dr ≤ (up us j).dr
  | 0, hij, _ => by have : i = 0 := by omega
                    rw [this]; exact Int.le_refl _
  | j + 1, hij, hj => by
    by_cases e : i = j + 1
    · rw [e]; exact Int.le_refl _
    · have h1 := ok_mono h (i := i) j (by omega) (by omega)
      have h2 := ok_step (h (j + 1) hj)
      omega
theorem ok_rg {us : List Upd} (h : ∀ j, j < us.length → okAt us j = true) {j : Nat} (hj : j < us.length) : 1 ≤ (up us j).dr ∧ (up us j).dr ≤ 5 ∧ 1 ≤ (up us j).dn ∧ (up us j).dn ≤ 1000000 := okU_dot (okAt_ok (h j hj))

theorem dl_gap {f : Int → Int} {a : Nat} : ∀ b : Nat, a ≤ b → (∀ r : Int, (a : Int) < r → r ≤ b → f r = 0) → dlTo f b = dlTo f a
  | 0, hab, _ => by have : a = 0 := by omega
                    rw [this]
  | b + 1, hab, h => by
    by_cases e : a = b + 1
    · rw [e]
    · rw [dlTo_no (by rw [h ((b : Int) + 1) (by omega) (by omega)]; omega)]
      exact dl_gap b (by omega) (fun r h1 h2 => h r h1 (by omega))

/-- Up to which region the dots have been told when k updates are over. -/
def cl (us : List Upd) (k : Nat) : Nat :=
  if k = 0 then 0 else if k = us.length ∨ ¬ (up us k).dr = (up us (k - 1)).dr then (up us (k - 1)).dr.toNat else (up us (k - 1)).dr.toNat - 1

theorem cl_gap {us : List Upd} (h : ∀ j, j < us.length → okAt us j = true) {k : Nat} (hk : k < us.length) : dlTo (lastN us us.length) ((up us k).dr.toNat - 1) = dlTo (lastN us us.length) (cl us k) := by
  have hk1 := ok_rg h hk
  unfold cl
  by_cases e0 : k = 0
  · rw [if_pos e0]
    refine dl_gap _ (by omega) (fun r h1 h2 => lastN_none _ (fun j hj e => ?_))
    have := ok_mono h (i := k) j (by omega) hj
    omega
  · rw [if_neg e0]
    have hp := ok_rg h (show k - 1 < us.length by omega)
    have hm := ok_mono h (i := k - 1) k (by omega) hk
    by_cases e1 : (up us k).dr = (up us (k - 1)).dr
    · rw [if_neg (by intro q; rcases q with q | q; · omega
                     · exact q e1), e1]
    · rw [if_pos (Or.inr e1)]
      refine dl_gap _ (by omega) (fun r h1 h2 => lastN_none _ (fun j hj e => ?_))
      rcases Nat.lt_or_ge j k with hjk | hjk
      · have := ok_mono h (i := j) (k - 1) (by omega) (by omega); omega
      · have := ok_mono h (i := k) j hjk hj; omega

theorem cl_yes {us : List Upd} (h : ∀ j, j < us.length → okAt us j = true) {k : Nat} (hk : k < us.length) (hc : k + 1 = us.length ∨ ¬ (up us (k + 1)).dr = (up us k).dr) :
    dlTo (lastN us us.length) (cl us (k + 1)) = dlTo (lastN us us.length) (cl us k) ++ [((up us k).dr, (up us k).dn)] := by
  have hk1 := ok_rg h hk
  have e1 : cl us (k + 1) = (up us k).dr.toNat := by
    unfold cl; rw [if_neg (by omega)]; simp only [Nat.add_sub_cancel]; rw [if_pos hc]
  have e2 : lastN us us.length (up us k).dr = (up us k).dn := by
    refine lastN_at _ hk (fun i h1 h2 e => ?_)
    rcases hc with hc | hc
    · omega
    · have q1 := ok_mono h (i := k) (k + 1) (by omega) (by omega)
      have q2 := ok_mono h (i := k + 1) i (by omega) h2
      omega
  rw [e1, ← cl_gap h hk]
  obtain ⟨q, hq⟩ : ∃ q : Nat, (up us k).dr.toNat = q + 1 := ⟨(up us k).dr.toNat - 1, by omega⟩
  have hq2 : (q : Int) + 1 = (up us k).dr := by omega
  rw [hq, Nat.add_sub_cancel, dl_step _ q _ hq2 (by rw [e2]; omega), e2]

theorem cl_no {us : List Upd} (h : ∀ j, j < us.length → okAt us j = true) {k : Nat} (hk : k < us.length) (hc : ¬ (k + 1 = us.length ∨ ¬ (up us (k + 1)).dr = (up us k).dr)) :
    dlTo (lastN us us.length) (cl us (k + 1)) = dlTo (lastN us us.length) (cl us k) := by
  have e1 : cl us (k + 1) = (up us k).dr.toNat - 1 := by
    unfold cl; rw [if_neg (by omega)]; simp only [Nat.add_sub_cancel]; rw [if_neg hc]
  rw [e1, cl_gap h hk]

theorem cl_end {us : List Upd} (h : ∀ j, j < us.length → okAt us j = true) : dlTo (lastN us us.length) (cl us us.length) = vecU us := by
  unfold vecU
  by_cases e0 : us.length = 0
  · have : cl us us.length = 0 := by unfold cl; rw [if_pos e0]
    rw [this]
    exact (dl_gap 5 (by omega) (fun r h1 h2 => lastN_none _ (fun j hj => by omega))).symm
  · have hk1 := ok_rg h (show us.length - 1 < us.length by omega)
    have : cl us us.length = (up us (us.length - 1)).dr.toNat := by unfold cl; rw [if_neg e0, if_pos (Or.inl rfl)]
    rw [this]
    refine (dl_gap 5 (by omega) (fun r h1 h2 => lastN_none _ (fun j hj e => ?_))).symm
    have := ok_mono h (i := j) (us.length - 1) (by omega) (by omega)
    omega
end M1

namespace M1
/-- Of the first k updates the first, at most most, that the vector does not cover. -/
def sinceTo (us : List Upd) (ds : List (Int × Int)) (most : Int) : Nat → List Upd
  | 0 => []
  | k + 1 => if ((sinceTo us ds most k).length : Int) < most ∧ lk ds (up us k).dr < (up us k).dn then sinceTo us ds most k ++ [up us k] else sinceTo us ds most k
theorem since_yes {us : List Upd} {ds : List (Int × Int)} {most : Int} {k : Nat} (h : ((sinceTo us ds most k).length : Int) < most ∧ lk ds (up us k).dr < (up us k).dn) : sinceTo us ds most (k + 1) = sinceTo us ds most k ++ [up us k] := if_pos h
theorem since_no {us : List Upd} {ds : List (Int × Int)} {most : Int} {k : Nat} (h : ¬ (((sinceTo us ds most k).length : Int) < most ∧ lk ds (up us k).dr < (up us k).dn)) : sinceTo us ds most (k + 1) = sinceTo us ds most k := if_neg h
theorem since_len (us : List Upd) (ds : List (Int × Int)) (most : Int) : ∀ k, (sinceTo us ds most k).length ≤ k
  | 0 => Nat.le_refl _
  | k + 1 => by
    have := since_len us ds most k
    by_cases h : ((sinceTo us ds most k).length : Int) < most ∧ lk ds (up us k).dr < (up us k).dn
    · rw [since_yes h]; simp; omega
    · rw [since_no h]; omega
theorem since_full {us : List Upd} {ds : List (Int × Int)} {most : Int} {k : Nat} (h : most ≤ ((sinceTo us ds most k).length : Int)) : ∀ j, sinceTo us ds most (k + j) = sinceTo us ds most k
  | 0 => rfl
  | j + 1 => by
    have ih := since_full h j
    show sinceTo us ds most (k + j + 1) = _
    rw [since_no (by rw [ih]; omega), ih]
theorem since_end {us : List Upd} {ds : List (Int × Int)} {most : Int} {k n : Nat} (h : most ≤ ((sinceTo us ds most k).length : Int)) (hk : k ≤ n) : sinceTo us ds most n = sinceTo us ds most k := by
  have := since_full h (n - k)
  rwa [show k + (n - k) = n from by omega] at this
theorem since_mem {us : List Upd} {ds : List (Int × Int)} {most : Int} : ∀ (k : Nat) (x : Upd), x ∈ sinceTo us ds most k → ∃ j, j < k ∧ x = up us j
  | 0, x, h => by cases h
  | k + 1, x, h => by
    by_cases q : ((sinceTo us ds most k).length : Int) < most ∧ lk ds (up us k).dr < (up us k).dn
    · rw [since_yes q] at h
      rcases List.mem_append.1 h with h | h
      · obtain ⟨j, hj, e⟩ := since_mem k x h; exact ⟨j, by omega, e⟩
      · simp at h; exact ⟨k, by omega, h⟩
    · rw [since_no q] at h
      obtain ⟨j, hj, e⟩ := since_mem k x h; exact ⟨j, by omega, e⟩
def sinceOk (us : List Upd) (ds : List (Int × Int)) (most : Int) : Bool := setOk us && (vecOk ds && inB most 1 60)
def sinceL (us : List Upd) (ds : List (Int × Int)) (most : Int) : List Upd := if sinceOk us ds most = true then sinceTo us ds most us.length else []
theorem sinceL_len (us : List Upd) (ds : List (Int × Int)) (most : Int) : (sinceL us ds most).length ≤ us.length := by
  unfold sinceL; split
  · exact since_len _ _ _ _
  · simp
theorem up_mem {us : List Upd} {i : Nat} (h : i < us.length) : up us i ∈ us := by
  unfold up; simp [List.getD, h]
theorem sinceL_txt {us : List Upd} {ds : List (Int × Int)} {most : Int} {b : Nat} (h : ∀ i, i < us.length → (up us i).s.size ≤ b) : ∀ i, i < (sinceL us ds most).length → (up (sinceL us ds most) i).s.size ≤ b := by
  intro i hi
  have hm := up_mem hi
  unfold sinceL at hm hi ⊢
  by_cases q : sinceOk us ds most = true
  · rw [if_pos q] at hm ⊢
    obtain ⟨j, hj, e⟩ := since_mem _ _ hm
    rw [e]; exact h j hj
  · rw [if_neg q] at hi; simp at hi
theorem toList_len (s : ByteArray) : s.toList.length = s.size := by
  have key : ∀ (n i : Nat) (r : List UInt8), s.size - i = n → (ByteArray.toList.loop s i r).length = r.length + n := by
    intro n
    induction n with
    | zero => intro i r h; unfold ByteArray.toList.loop; rw [if_neg (by omega)]; simp
    | succ n ih => intro i r h; unfold ByteArray.toList.loop; rw [if_pos (by omega), ih (i + 1) _ (by omega)]; simp; omega
  have := key s.size 0 [] (by omega)
  simpa [ByteArray.toList] using this
theorem ok_txt {u : Upd} (h : okU u = true) : u.s.size ≤ 12 := by
  unfold okU updB kindB at h
  rw [Bool.and_eq_true] at h
  have h2 := h.2
  by_cases k1 : u.k = 1
  · rw [if_pos k1] at h2
    simp [spanB, nameB] at h2
    exact h2.1.1.1.2.1.2
  · rw [if_neg k1] at h2
    have key : zeroB u.id u.pa u.s u.st u.en = true → u.s.size ≤ 12 := by
      intro hz
      simp [zeroB] at hz
      have h3 := toList_len u.s
      rw [hz.1.1.2] at h3
      simp at h3
      omega
    by_cases k2 : u.k = 2
    · rw [if_pos k2] at h2; simp at h2; exact key h2.1
    · rw [if_neg k2] at h2
      by_cases k3 : u.k = 3
      · rw [if_pos k3] at h2; simp at h2; exact key h2.1
      · rw [if_neg k3] at h2; cases h2
end M1

namespace M1
open Go
theorem utx_len (u : Upd) : (utx u).size ≤ 200 := by
  unfold utx
  split
  · rename_i h
    rw [mkB_size]
    exact txt_len h
  · exact Nat.zero_le _
theorem rdU_nil : rdU [] = none := by
  cases h : rdU [] with
  | none => rfl
  | some v => exact absurd (rdU_iff.1 h).2.symm (txt_ne v)
theorem rdU_utx (u : Upd) : rdU (utx u).data.toList = if okU u = true then some u else none := by
  unfold utx
  split
  · rename_i h
    rw [mkB_toList]
    exact rdU_iff.2 ⟨h, rfl⟩
  · exact rdU_nil
theorem utx_of {s : ByteArray} {v : Upd} (h : rdU s.data.toList = some v) : utx v = s ∧ v.s.size ≤ 12 := by
  obtain ⟨h1, h2⟩ := rdU_iff.1 h
  refine ⟨?_, ok_txt h1⟩
  unfold utx
  rw [if_pos h1, ← h2, mkB_of]
end M1
namespace Go.Proofs.YtjgcjopijblpkaaDoor
open Go.ChangeShapes Go.WideShapes Go.ChangeAt Go.RowKit
set_option linter.unusedSimpArgs false
set_option linter.unusedVariables false

set_option maxHeartbeats 4000000 in
set_option maxRecDepth 100000 in
theorem drawUpdateText_any (av : Option Addr) (len cap : Nat) (w : World) (h : IsBytes w av len cap) :
    Calls Tryd.prog 8 #[.slice av len cap] w fun e w' => ∃ u : M1.Upd, e = .returned (.agg #[.int .i64 u.dr, .int .i64 u.dn, .int .i64 u.sw, .int .i64 u.sc, .int .i64 u.sr, .int .i64 u.k, .int .i64 u.tr, .int .i64 u.id, .int .i64 u.pa, .string u.s, .int .i64 u.st, .int .i64 u.en, .int .i64 u.lv]) ∧ u.s.size ≤ 4 ∧ Below w.heap.size w w' := by
  have hA : Below w.heap.size w (w.alloc (.cells #[.int .i64 0, .int .i64 0, .int .i64 0, .int .i64 0, .int .i64 0, .int .i64 0, .int .i64 0, .int .i64 0, .int .i64 0, .string ⟨#[]⟩, .int .i64 0, .int .i64 0, .int .i64 0] 31)) := (Below.refl _ _).alloc (Nat.le_refl _) _
  go_enter Tryd.func8, Tryd.ntmps8
  go_upto_region 1 with fail
  obtain ⟨W0, hW0⟩ : ∃ W, w.alloc (.cells #[.int .i64 0, .int .i64 0, .int .i64 0, .int .i64 0, .int .i64 0, .int .i64 0, .int .i64 0, .int .i64 0, .int .i64 0, .string ⟨#[]⟩, .int .i64 0, .int .i64 0, .int .i64 0] 31) = W := ⟨_, rfl⟩
  have rr0 := uq_new w ⟨0, 0, 0, 0, 0, 0, 0, 0, 0, ⟨#[]⟩, 0, 0, 0⟩ 31
  rw [hW0] at hA rr0 ⊢
  clear hW0
  have hr0 := rr0.lt
  go_wp2_with fail
  refine (l1Open_any _ _ _ _ (h.below (Nat.le_refl _) hA)).mono ?_
  rintro e w1 ⟨rfl, R1, hb1⟩
  have hB1 := hA.trans (hb1.mono hA.size)
  have rr1 := rr0.below hb1
  have hr1 := R1.lt
  go_wp2_with fail
  refine (update_any _ _ _ _ _ R1).mono ?_
  rintro e w2 ⟨u, rfl, hus, _, _, R2, G2⟩
  have rr2 := rr1.gr G2 (by omega)
  have hB2 := hB1.trans (gr_to G2 hB1.size (by omega))
  clear rr0 rr1 R1 R2 G2
  obtain ⟨r0, r1, r2, r3, r4, r5, r6, r7, r8, r9, r10, r11, r12⟩ := uq_cells rr2
  obtain ⟨y0, y1, y2, y3, y4, y5, y6, y7, y8, y9, y10, y11, y12⟩ := uq_free rr2
  have rl := rr2.lt
  have rz : RowAt (((((((((((((w2.setCell ⟨w.heap.size, 0, none⟩ (.int .i64 u.dr)).setCell ⟨w.heap.size, 1, none⟩ (.int .i64 u.dn)).setCell ⟨w.heap.size, 2, none⟩ (.int .i64 u.sw)).setCell ⟨w.heap.size, 3, none⟩ (.int .i64 u.sc)).setCell ⟨w.heap.size, 4, none⟩ (.int .i64 u.sr)).setCell ⟨w.heap.size, 5, none⟩ (.int .i64 u.k)).setCell ⟨w.heap.size, 6, none⟩ (.int .i64 u.tr)).setCell ⟨w.heap.size, 7, none⟩ (.int .i64 u.id)).setCell ⟨w.heap.size, 8, none⟩ (.int .i64 u.pa)).setCell ⟨w.heap.size, 9, none⟩ (.string u.s)).setCell ⟨w.heap.size, 10, none⟩ (.int .i64 u.st)).setCell ⟨w.heap.size, 11, none⟩ (.int .i64 u.en)).setCell ⟨w.heap.size, 12, none⟩ (.int .i64 u.lv)) w.heap.size 13 (uq u) := uq_put rr2 u
  have hBz : Below w.heap.size w (((((((((((((w2.setCell ⟨w.heap.size, 0, none⟩ (.int .i64 u.dr)).setCell ⟨w.heap.size, 1, none⟩ (.int .i64 u.dn)).setCell ⟨w.heap.size, 2, none⟩ (.int .i64 u.sw)).setCell ⟨w.heap.size, 3, none⟩ (.int .i64 u.sc)).setCell ⟨w.heap.size, 4, none⟩ (.int .i64 u.sr)).setCell ⟨w.heap.size, 5, none⟩ (.int .i64 u.k)).setCell ⟨w.heap.size, 6, none⟩ (.int .i64 u.tr)).setCell ⟨w.heap.size, 7, none⟩ (.int .i64 u.id)).setCell ⟨w.heap.size, 8, none⟩ (.int .i64 u.pa)).setCell ⟨w.heap.size, 9, none⟩ (.string u.s)).setCell ⟨w.heap.size, 10, none⟩ (.int .i64 u.st)).setCell ⟨w.heap.size, 11, none⟩ (.int .i64 u.en)).setCell ⟨w.heap.size, 12, none⟩ (.int .i64 u.lv)) := bel_put hB2 (Nat.le_refl _) u
  go_wp2_with fail
  clear r0 r1 r2 r3 r4 r5 r6 r7 r8 r9 r10 r11 r12 y0 y1 y2 y3 y4 y5 y6 y7 y8 y9 y10 y11 y12 rr2
  obtain ⟨Wz, hWz⟩ : ∃ W, (((((((((((((w2.setCell ⟨w.heap.size, 0, none⟩ (.int .i64 u.dr)).setCell ⟨w.heap.size, 1, none⟩ (.int .i64 u.dn)).setCell ⟨w.heap.size, 2, none⟩ (.int .i64 u.sw)).setCell ⟨w.heap.size, 3, none⟩ (.int .i64 u.sc)).setCell ⟨w.heap.size, 4, none⟩ (.int .i64 u.sr)).setCell ⟨w.heap.size, 5, none⟩ (.int .i64 u.k)).setCell ⟨w.heap.size, 6, none⟩ (.int .i64 u.tr)).setCell ⟨w.heap.size, 7, none⟩ (.int .i64 u.id)).setCell ⟨w.heap.size, 8, none⟩ (.int .i64 u.pa)).setCell ⟨w.heap.size, 9, none⟩ (.string u.s)).setCell ⟨w.heap.size, 10, none⟩ (.int .i64 u.st)).setCell ⟨w.heap.size, 11, none⟩ (.int .i64 u.en)).setCell ⟨w.heap.size, 12, none⟩ (.int .i64 u.lv)) = W := ⟨_, rfl⟩
  rw [hWz] at rz hBz ⊢
  clear hWz
  obtain ⟨v0, v1, v2, v3, v4, v5, v6, v7, v8, v9, v10, v11, v12⟩ := uq_cells rz
  refine bodyPost_ret (v := .agg #[.int .i64 u.dr, .int .i64 u.dn, .int .i64 u.sw, .int .i64 u.sc, .int .i64 u.sr, .int .i64 u.k, .int .i64 u.tr, .int .i64 u.id, .int .i64 u.pa, .string u.s, .int .i64 u.st, .int .i64 u.en, .int .i64 u.lv]) (by simp [results, Tryd.results8, go_sem, v0, v1, v2, v3, v4, v5, v6, v7, v8, v9, v10, v11, v12]) rfl ?_
  exact ⟨u, rfl, hus, hBz⟩

theorem drawReadUpdate_any (av : Option Addr) (len cap : Nat) (w : World) (h : IsBytes w av len cap) :
    Calls Tryd.prog 13 #[.slice av len cap] w fun e w' => ∃ t : ByteArray, e = .returned (.string t) ∧ t.size ≤ 201 ∧ Below w.heap.size w w' := by
  go_enter Tryd.func13, Tryd.ntmps13
  go_wp2_with fail
  refine (l1Open_any _ _ _ _ h).mono ?_
  rintro e w1 ⟨rfl, R1, hb1⟩
  have hr1 := R1.lt
  go_wp2_with fail
  refine (update_any _ _ _ _ _ R1).mono ?_
  rintro e w2 ⟨u, rfl, hus, _, _, R2, G2⟩
  have hB2 := hb1.trans (gr_to G2 hb1.size (Nat.le_refl _))
  have hr2 := R2.lt
  have hul := M1.utx_len u
  obtain ⟨x, hx⟩ : ∃ x, Hid (M1.utx u = x) := ⟨_, rfl⟩
  rw [hx.out] at hul
  go_wp2_with fail
  refine (updateText_spec u _ (by unfold maxLen; omega)).mono ?_
  rw [hx.out]
  rintro e w3 ⟨rfl, hb3⟩
  have hB3 := hB2.trans (hb3.mono hB2.size)
  have R3 := R2.below hb3
  have hr3 := R3.lt
  go_wp2_with fail
  refine (hurt_any _ _ _ _ x _ R3 (by omega)).mono ?_
  rintro e w4 ⟨t, rfl, ht, R4, G4⟩
  have hB4 := hB3.trans (gr_to G4 hB3.size (Nat.le_refl _))
  go_wp2_with fail
  go_ret
  exact ⟨t, rfl, by omega, hB4⟩
end Go.Proofs.YtjgcjopijblpkaaDoor

namespace Go.Proofs.YtjgcjopijblpkaaDoor.updateTexts
open Go.ChangeShapes Go.WideShapes Go.ChangeAt Go.RowKit
set_option linter.unusedVariables false

theorem big_any (av : Option Addr) (len cap : Nat) (w : World) (hc : len ≤ cap) (hm : cap ≤ maxLen) :
    Calls Tryd.prog 7 #[.slice av len cap] w fun e w' => e = .returned (.bool (decide ((1048576 : Int) < (len : Int)))) ∧ w' = w := by
  unfold maxLen at hm
  go_enter Tryd.func7, Tryd.ntmps7
  go_wp2
  go_ret
  exact ⟨rfl, rfl⟩
theorem tab_of {W : World} (h : laidMetH Tryd.prog Rows.fnUpdateTextsRow.laid W) : Tab W.heap.size W := by
  rw [MakeChecks.laidMetH_plain _ _ _ (by kernel_rfl)] at h
  refine Lib.tabBelow_of_tabIs ?_
  have h3 : laidMet Tryd.prog (("internal/strconv.uint64pow10", Lib.tabData .u64 Lib.pow10Tab) :: Rows.fnUpdateTextsRow.laid.drop 3) W := h.tail.tail
  exact Lib.tabIs_of_head (g := 0) (t := 143) (e := 127) (n := 20) (by kernel_rfl) (by kernel_rfl) (by kernel_rfl) (by kernel_rfl) (by kernel_rfl) (by kernel_rfl) h3
theorem rdW_form (l : List UInt8) : ∃ (z : M1.Upd) (b : Bool), Hid (RdW l = .tuple #[.agg #[.int .i64 z.dr, .int .i64 z.dn, .int .i64 z.sw, .int .i64 z.sc, .int .i64 z.sr, .int .i64 z.k, .int .i64 z.tr, .int .i64 z.id, .int .i64 z.pa, .string z.s, .int .i64 z.st, .int .i64 z.en, .int .i64 z.lv], .bool b]) ∧ Hid (M1.rdU l = if b = true then some z else none) := by
  cases h : M1.rdU l with
  | none => exact ⟨M1.zeroU, false, rdW_none h, by rfl⟩
  | some u => exact ⟨u, true, rdW_some h, by rfl⟩
theorem rdW_utx (u : M1.Upd) : ∃ z : M1.Upd, Hid (RdW (M1.utx u).data.toList = .tuple #[.agg #[.int .i64 z.dr, .int .i64 z.dn, .int .i64 z.sw, .int .i64 z.sc, .int .i64 z.sr, .int .i64 z.k, .int .i64 z.tr, .int .i64 z.id, .int .i64 z.pa, .string z.s, .int .i64 z.st, .int .i64 z.en, .int .i64 z.lv], .bool (M1.okU u)]) ∧ Hid (M1.okU u = true → z = u) := by
  have h := M1.rdU_utx u
  cases e : M1.okU u with
  | false => rw [e] at h; exact ⟨M1.zeroU, rdW_none h, fun q => by cases q⟩
  | true => rw [e] at h; exact ⟨u, rdW_some h, fun _ => rfl⟩

set_option maxHeartbeats 4000000 in
set_option maxRecDepth 100000 in
theorem walk (av : Option Addr) (len cap : Nat) (w : World) (h : IsBytes w av len cap) (tab : Tab w.heap.size w) (hm : MaxIn w) :
    Calls Tryd.prog 3 #[.slice av len cap] w fun e w' => e = .returned (.bool true) ∧ Below w.heap.size w w' := by
  by_cases hl : (1048576 : Int) < (len : Int)
  · go_enter Tryd.func3, Tryd.ntmps3
    go_wp2_with fail
    refine (big_any _ _ _ _ h.hc h.hm).mono ?_
    rw [decide_eq_true hl]
    rintro e w0 ⟨rfl, rfl⟩
    go_wp2_with fail
    go_ret
    exact ⟨rfl, Below.refl _ _⟩
  go_enter Tryd.func3, Tryd.ntmps3
  go_wp2_with fail
  refine (big_any _ _ _ _ h.hc h.hm).mono ?_
  rw [decide_eq_false (by omega : ¬ (1048576 : Int) < (len : Int))]
  rintro e w0 ⟨rfl, rfl⟩
  clear hl
  go_wp2_with fail
  refine (drawUpdateText_any _ _ _ _ h).mono ?_
  rintro e w1 ⟨u, rfl, hus, hb1⟩
  have hA1 : Below w0.heap.size w0 (w1.alloc (.cells #[.int .i64 u.dr, .int .i64 u.dn, .int .i64 u.sw, .int .i64 u.sc, .int .i64 u.sr, .int .i64 u.k, .int .i64 u.tr, .int .i64 u.id, .int .i64 u.pa, .string u.s, .int .i64 u.st, .int .i64 u.en, .int .i64 u.lv] 31)) := hb1.alloc hb1.size _
  have ru1 := uq_new w1 u 31
  go_upto_region 4 with fail
  obtain ⟨W1, hW1⟩ : ∃ W, w1.alloc (.cells #[.int .i64 u.dr, .int .i64 u.dn, .int .i64 u.sw, .int .i64 u.sc, .int .i64 u.sr, .int .i64 u.k, .int .i64 u.tr, .int .i64 u.id, .int .i64 u.pa, .string u.s, .int .i64 u.st, .int .i64 u.en, .int .i64 u.lv] 31) = W := ⟨_, rfl⟩
  rw [hW1] at hA1 ru1 ⊢
  clear hW1
  obtain ⟨p, hp⟩ : ∃ p, Hid (w1.heap.size = p) := ⟨_, rfl⟩
  rw [hp.out] at ru1 ⊢
  have hul := M1.utx_len u
  obtain ⟨z, hz, hzu⟩ := rdW_utx u
  obtain ⟨b, hb⟩ : ∃ b, Hid (M1.okU u = b) := ⟨_, rfl⟩
  obtain ⟨x, hx⟩ : ∃ x, Hid (M1.utx u = x) := ⟨_, rfl⟩
  rw [hx.out] at hul hz
  rw [hb.out] at hz hzu
  obtain ⟨c0, c1, c2, c3, c4, c5, c6, c7, c8, c9, c10, c11, c12⟩ := uq_cells ru1
  have cl := ru1.lt
  go_wp2_with fail
  refine (updateText_impl u _ (by unfold maxLen; omega) (tab_more (tab.on hA1) hA1.size)).mono ?_
  rw [hx.out]
  rintro e w2 ⟨rfl, hb2⟩
  have hB2 := hA1.trans (hb2.mono hA1.size)
  have ru2 := ru1.below hb2
  clear c0 c1 c2 c3 c4 c5 c6 c7 c8 c9 c10 c11 c12 cl ru1
  obtain ⟨hg, m, hmc⟩ := hm.below hB2
  go_wp2_with fail
  refine (readUpdate_impl x m _ (by omega) hg hmc).mono ?_
  rw [hz.out]
  rintro e w3 ⟨rfl, hb3⟩
  have hB3 := hB2.trans (hb3.mono hB2.size)
  have ru3 := ru2.below hb3
  clear hmc hg ru2
  have hA4 : Below w3.heap.size w3 (w3.alloc (.cells #[.int .i64 z.dr, .int .i64 z.dn, .int .i64 z.sw, .int .i64 z.sc, .int .i64 z.sr, .int .i64 z.k, .int .i64 z.tr, .int .i64 z.id, .int .i64 z.pa, .string z.s, .int .i64 z.st, .int .i64 z.en, .int .i64 z.lv] 31)) := (Below.refl _ _).alloc (Nat.le_refl _) _
  have ru4 := ru3.below hA4
  have rv4 := uq_new w3 z 31
  have hB4 := hB3.trans (hA4.mono hB3.size)
  clear ru3 hA4
  go_upto_region 6 with fail
  obtain ⟨W4, hW4⟩ : ∃ W, w3.alloc (.cells #[.int .i64 z.dr, .int .i64 z.dn, .int .i64 z.sw, .int .i64 z.sc, .int .i64 z.sr, .int .i64 z.k, .int .i64 z.tr, .int .i64 z.id, .int .i64 z.pa, .string z.s, .int .i64 z.st, .int .i64 z.en, .int .i64 z.lv] 31) = W := ⟨_, rfl⟩
  rw [hW4] at hB4 ru4 rv4 ⊢
  clear hW4
  obtain ⟨q, hq⟩ : ∃ q, Hid (w3.heap.size = q) := ⟨_, rfl⟩
  rw [hq.out] at rv4 ⊢
  obtain ⟨c0, c1, c2, c3, c4, c5, c6, c7, c8, c9, c10, c11, c12⟩ := uq_cells ru4
  have cl := ru4.lt
  go_wp2_with fail
  refine (updateText_spec u _ (by unfold maxLen; omega)).mono ?_
  rw [hx.out]
  rintro e w5 ⟨rfl, hb5⟩
  have hB5 := hB4.trans (hb5.mono hB4.size)
  have ru5 := ru4.below hb5
  have rv5 := rv4.below hb5
  clear c0 c1 c2 c3 c4 c5 c6 c7 c8 c9 c10 c11 c12 cl ru4 rv4
  obtain ⟨c0, c1, c2, c3, c4, c5, c6, c7, c8, c9, c10, c11, c12⟩ := uq_cells ru5
  have cl := ru5.lt
  go_wp2_with fail
  refine (updateOk_impl _ _ _ _ _ _ _ _ _ _ _ _ _ _ (by unfold maxLen; omega)).mono ?_
  rw [show M1.updB u.dr u.dn u.sw u.sc u.sr u.k u.tr u.id u.pa u.s u.st u.en u.lv = b from hb.out]
  rintro e w6 ⟨rfl, hb6⟩
  have hB6 := hB5.trans (hb6.mono hB5.size)
  have ru6 := ru5.below hb6
  have rv6 := rv5.below hb6
  clear c0 c1 c2 c3 c4 c5 c6 c7 c8 c9 c10 c11 c12 cl ru5 rv5
  cases b with
  | false =>
    clear ru6 rv6
    go_wp2_with fail
    refine (drawReadUpdate_any _ _ _ _ (h.below (Nat.le_refl _) hB6)).mono ?_
    rintro e v1 ⟨t, rfl, ht, hc1⟩
    have hC1 := hB6.trans (hc1.mono hB6.size)
    obtain ⟨y, d, hy, hyd⟩ := rdW_form t.data.toList
    obtain ⟨hg, m, hmc⟩ := hm.below hC1
    go_wp2_with fail
    refine (readUpdate_impl t m _ (by omega) hg hmc).mono ?_
    rw [hy.out]
    rintro e v2 ⟨rfl, hc2⟩
    have hC2 := hC1.trans (hc2.mono hC1.size)
    clear hmc hg
    have hC3 := hC2.alloc hC2.size (.cells #[.int .i64 y.dr, .int .i64 y.dn, .int .i64 y.sw, .int .i64 y.sc, .int .i64 y.sr, .int .i64 y.k, .int .i64 y.tr, .int .i64 y.id, .int .i64 y.pa, .string y.s, .int .i64 y.st, .int .i64 y.en, .int .i64 y.lv] 31)
    have ry3 := uq_new v2 y 31
    go_upto_region 10 with fail
    obtain ⟨V3, hV3⟩ : ∃ W, v2.alloc (.cells #[.int .i64 y.dr, .int .i64 y.dn, .int .i64 y.sw, .int .i64 y.sc, .int .i64 y.sr, .int .i64 y.k, .int .i64 y.tr, .int .i64 y.id, .int .i64 y.pa, .string y.s, .int .i64 y.st, .int .i64 y.en, .int .i64 y.lv] 31) = W := ⟨_, rfl⟩
    rw [hV3] at hC3 ry3 ⊢
    clear hV3
    obtain ⟨p3, hp3⟩ : ∃ p, Hid (v2.heap.size = p) := ⟨_, rfl⟩
    rw [hp3.out] at ry3 ⊢
    go_wp2_with fail
    refine (readUpdate_spec t _ (by unfold maxLen; omega)).mono ?_
    rw [hy.out]
    rintro e v4 ⟨rfl, hc4⟩
    have hC4 := hC3.trans (hc4.mono hC3.size)
    have ry4 := ry3.below hc4
    have hA5 : Below v4.heap.size v4 (v4.alloc (.cells #[.int .i64 y.dr, .int .i64 y.dn, .int .i64 y.sw, .int .i64 y.sc, .int .i64 y.sr, .int .i64 y.k, .int .i64 y.tr, .int .i64 y.id, .int .i64 y.pa, .string y.s, .int .i64 y.st, .int .i64 y.en, .int .i64 y.lv] 31)) := (Below.refl _ _).alloc (Nat.le_refl _) _
    have ry5 := ry4.below hA5
    have hC5 := hC4.trans (hA5.mono hC4.size)
    clear ry3 ry4 hA5
    go_upto_region 11 with fail
    obtain ⟨V5, hV5⟩ : ∃ W, v4.alloc (.cells #[.int .i64 y.dr, .int .i64 y.dn, .int .i64 y.sw, .int .i64 y.sc, .int .i64 y.sr, .int .i64 y.k, .int .i64 y.tr, .int .i64 y.id, .int .i64 y.pa, .string y.s, .int .i64 y.st, .int .i64 y.en, .int .i64 y.lv] 31) = W := ⟨_, rfl⟩
    rw [hV5] at hC5 ry5 ⊢
    clear hV5
    obtain ⟨c0, c1, c2, c3, c4, c5, c6, c7, c8, c9, c10, c11, c12⟩ := uq_cells ry5
    have cl := ry5.lt
    cases d with
    | false =>
      go_wp2_with fail
      go_ret
      exact ⟨rfl, hC5⟩
    | true =>
      obtain ⟨hut, hsz⟩ := M1.utx_of (hyd.out.trans (if_pos rfl))
      go_wp2_with fail
      refine (updateText_impl y _ (by unfold maxLen; omega) (tab_more (tab.on hC5) hC5.size)).mono ?_
      rw [hut]
      rintro e v6 ⟨rfl, hc6⟩
      have hC6 := hC5.trans (hc6.mono hC5.size)
      go_wp2_with fail
      go_ret
      exact ⟨rfl, hC6⟩
  | true =>
    have hzz := hzu.out rfl
    subst hzz
    obtain ⟨c0, c1, c2, c3, c4, c5, c6, c7, c8, c9, c10, c11, c12⟩ := uq_cells ru6
    obtain ⟨d0, d1, d2, d3, d4, d5, d6, d7, d8, d9, d10, d11, d12⟩ := uq_cells rv6
    have cl := ru6.lt
    have dl := rv6.lt
    go_upto_region 8 with fail
    clear c0 c1 c2 c3 c4 c5 c6 c7 c8 c9 c10 c11 c12 d0 d1 d2 d3 d4 d5 d6 d7 d8 d9 d10 d11 d12 cl dl ru6 rv6
    go_wp2_with fail
    refine (drawReadUpdate_any _ _ _ _ (h.below (Nat.le_refl _) hB6)).mono ?_
    rintro e v1 ⟨t, rfl, ht, hc1⟩
    have hC1 := hB6.trans (hc1.mono hB6.size)
    obtain ⟨y, d, hy, hyd⟩ := rdW_form t.data.toList
    obtain ⟨hg, m, hmc⟩ := hm.below hC1
    go_wp2_with fail
    refine (readUpdate_impl t m _ (by omega) hg hmc).mono ?_
    rw [hy.out]
    rintro e v2 ⟨rfl, hc2⟩
    have hC2 := hC1.trans (hc2.mono hC1.size)
    clear hmc hg
    have hC3 := hC2.alloc hC2.size (.cells #[.int .i64 y.dr, .int .i64 y.dn, .int .i64 y.sw, .int .i64 y.sc, .int .i64 y.sr, .int .i64 y.k, .int .i64 y.tr, .int .i64 y.id, .int .i64 y.pa, .string y.s, .int .i64 y.st, .int .i64 y.en, .int .i64 y.lv] 31)
    have ry3 := uq_new v2 y 31
    go_upto_region 10 with fail
    obtain ⟨V3, hV3⟩ : ∃ W, v2.alloc (.cells #[.int .i64 y.dr, .int .i64 y.dn, .int .i64 y.sw, .int .i64 y.sc, .int .i64 y.sr, .int .i64 y.k, .int .i64 y.tr, .int .i64 y.id, .int .i64 y.pa, .string y.s, .int .i64 y.st, .int .i64 y.en, .int .i64 y.lv] 31) = W := ⟨_, rfl⟩
    rw [hV3] at hC3 ry3 ⊢
    clear hV3
    obtain ⟨p3, hp3⟩ : ∃ p, Hid (v2.heap.size = p) := ⟨_, rfl⟩
    rw [hp3.out] at ry3 ⊢
    go_wp2_with fail
    refine (readUpdate_spec t _ (by unfold maxLen; omega)).mono ?_
    rw [hy.out]
    rintro e v4 ⟨rfl, hc4⟩
    have hC4 := hC3.trans (hc4.mono hC3.size)
    have ry4 := ry3.below hc4
    have hA5 : Below v4.heap.size v4 (v4.alloc (.cells #[.int .i64 y.dr, .int .i64 y.dn, .int .i64 y.sw, .int .i64 y.sc, .int .i64 y.sr, .int .i64 y.k, .int .i64 y.tr, .int .i64 y.id, .int .i64 y.pa, .string y.s, .int .i64 y.st, .int .i64 y.en, .int .i64 y.lv] 31)) := (Below.refl _ _).alloc (Nat.le_refl _) _
    have ry5 := ry4.below hA5
    have hC5 := hC4.trans (hA5.mono hC4.size)
    clear ry3 ry4 hA5
    go_upto_region 11 with fail
    obtain ⟨V5, hV5⟩ : ∃ W, v4.alloc (.cells #[.int .i64 y.dr, .int .i64 y.dn, .int .i64 y.sw, .int .i64 y.sc, .int .i64 y.sr, .int .i64 y.k, .int .i64 y.tr, .int .i64 y.id, .int .i64 y.pa, .string y.s, .int .i64 y.st, .int .i64 y.en, .int .i64 y.lv] 31) = W := ⟨_, rfl⟩
    rw [hV5] at hC5 ry5 ⊢
    clear hV5
    obtain ⟨c0, c1, c2, c3, c4, c5, c6, c7, c8, c9, c10, c11, c12⟩ := uq_cells ry5
    have cl := ry5.lt
    cases d with
    | false =>
      go_wp2_with fail
      go_ret
      exact ⟨rfl, hC5⟩
    | true =>
      obtain ⟨hut, hsz⟩ := M1.utx_of (hyd.out.trans (if_pos rfl))
      go_wp2_with fail
      refine (updateText_impl y _ (by unfold maxLen; omega) (tab_more (tab.on hC5) hC5.size)).mono ?_
      rw [hut]
      rintro e v6 ⟨rfl, hc6⟩
      have hC6 := hC5.trans (hc6.mono hC5.size)
      go_wp2_with fail
      go_ret
      exact ⟨rfl, hC6⟩

theorem own : ownKnob Tryd.prog.godebug = none := by kernel_rfl
theorem laidOut : laidOutB Tryd.prog = true := by kernel_rfl
set_option maxRecDepth 100000 in
theorem lifted (os : Os) (started : os.Started) (H : Type) (enc : TypeId × Value → H) :
    ReturnsInHanded {} Tryd.checked os 3 .any (fun w args => (Rows.fnUpdateTextsSpec.pre enc Tryd.prog Tryd.f3 Rows.fnUpdateTextsRow.domain false w args ∧ laidMetH Tryd.prog Rows.fnUpdateTextsRow.laid w) ∧ sizedMet enc Tryd.prog Tryd.f3 (OpenSpec.ofChange Rows.fnUpdateTextsSpec) false w args) (Rows.fnUpdateTextsSpec.post enc Tryd.prog Tryd.f3 false true false false) := by
  refine returnsInHanded_and_shaped (C := Tryd.checked) (X := fun w _ => laidMetH Tryd.prog Rows.fnUpdateTextsRow.laid w) (fun _ _ _ hh h => h.of_heap hh) own started (by kernel_rfl) Tryd.func3
    (ChangeSpec.witness_shaped (enc := enc) (C := Tryd.checked) (os := os) (X := fun w _ => laidMetH Tryd.prog Rows.fnUpdateTextsRow.laid w) false (World.laidAll Tryd.prog os Rows.fnUpdateTextsRow.laid) #[.slice none 0 0] 8 (World.laidAll_os _ _ _) (World.shaped_of_ZipB (by kernel_rfl) (by kernel_rfl)) (by kernel_rfl) (by kernel_rfl) (by kernel_rfl) (by rw [MakeChecks.laidMetH_plain _ _ _ (by kernel_rfl)]; exact laidMet_laidAll _ (by kernel_rfl) (by kernel_rfl))) ?_
  intro W base args ds gs before hval0 hW hcnd _ hL hSh _
  have hval : ∀ (j : Nat) t v, Tryd.f3.params[j]? = some t → args[j]? = some v → Value.okWide Tryd.prog W .any base t v := hval0
  have hW' := hW
  obtain ⟨p, q, hA0, hV, rfl, hfz, hnd⟩ := hW
  have hA : DataW.TrodAll enc Tryd.prog W 0 (fun _ => true) true Tryd.f3.params.toList args.toList ds p := hA0
  rw [Tryd.params3] at hA hval
  obtain ⟨v0, vs0, d0, ds0, p0, q0, hargs, rfl, rfl, h0, r0⟩ := trodAll_cons hA
  obtain ⟨rfl, rfl, rfl⟩ := trodAll_nil r0
  obtain rfl : args = #[v0] := by cases args; simp_all
  obtain ⟨rfl, rfl⟩ := trodVars_none hV
  have k0 := h0
  have lt0 : ∀ x ∈ p0, x.block < W.heap.size := by obtain ⟨m, hm⟩ := k0; exact DataW.trod_lt m _ _ _ hm
  obtain ⟨a0, l0, c0, rfl⟩ := okWide_slice Tryd.underlying22 (hval 0 22 v0 rfl rfl)
  obtain ⟨fu0, hf0⟩ := h0
  have by0 := open_bytes hf0
  clear hA0 hval0
  refine (walk a0 l0 c0 W by0 (tab_of hL) (maxIn_of hSh)).mono fun e W' ⟨he, bel⟩ => ?_
  subst he
  exact ⟨_, rfl, _, _, _, [], _, [], hW', trodAll_mk1 (shut_bool Tryd.underlying4 _), (trodAll_cons_mk (Below.trod laidOut (by kernel_rfl) (of_decide_eq_true (by kernel_rfl)) k0 bel lt0) trodAll_mk0), rfl, bel.frame _, fun h => by cases h⟩

theorem over : Rows.fnUpdateTextsRow.holds Tryd.pinned (OpenSpec.ofChange Rows.fnUpdateTextsSpec) :=
  OpenClaim.holds_of_wide 3 Tryd.f3 rfl rfl rfl rfl rfl rfl rfl ⟨rfl, rfl, rfl, rfl, rfl⟩ rfl rfl rfl rfl rfl (by kernel_rfl) Tryd.func3 (by kernel_rfl)
    (of_decide_eq_true (by kernel_rfl)) (by unfold Func.isWrapper; first | (rw [if_pos (by decide +kernel)]; kernel_rfl) | (rw [if_neg (by decide +kernel)]; exact ⟨rfl, rfl⟩))
    (fun os started H enc _ => lifted os started H enc)

theorem proved : Rows.FnUpdateTextsCardSaid :=
  Claim7.holds_tied_plain_at .later [] [.data, .data, .data, .data, .pinned] true (true, "c6af120a7bbcce473cf4f4960bd49cdc13718dfeedafa9d4aa841a82a0c18a08") true
    over (fun _ h => by cases h) (by kernel_rfl) (fun _ h => by cases h) fnUpdateTexts_row_tie rfl ⟨rfl, rfl⟩ (by kernel_rfl) rfl
    (fun f fn hf hfn => by
      obtain rfl : f = 3 := Option.some.inj ((show Tryd.prog.funcNamed "loop.example/g00368/laws.FnUpdateTexts" = some 3 by kernel_rfl).symm.trans hf) |>.symm
      obtain rfl : fn = Tryd.f3 := (Option.some.inj (Tryd.func3.symm.trans hfn)).symm
      exact ⟨by kernel_rfl, fun j t ht => by
        rw [Tryd.params3] at ht
        have hm : t ∈ [22] := by simpa using Array.mem_of_getElem? ht
        have hall : ([22].all fun u => !Tryd.prog.wantsStandIn u) = true := by kernel_rfl
        exact (show Tryd.prog.wantsStandIn t = false by simpa using List.all_eq_true.1 hall t hm)⟩)
    (by kernel_rfl)
end Go.Proofs.YtjgcjopijblpkaaDoor.updateTexts
namespace Go.Proofs.YtjgcjopijblpkaaDoor
theorem fnUpdateTexts_holds : Rows.FnUpdateTextsCardSaid := updateTexts.proved
end Go.Proofs.YtjgcjopijblpkaaDoor
