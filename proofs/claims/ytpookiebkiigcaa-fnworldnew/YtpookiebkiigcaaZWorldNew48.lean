/-
  Contracts at a new world: that it is right, that its union is empty, that it is the same as another one.
-/
import Derived.Test.YtpookiebkiigcaaZWorldNew30
import Derived.Test.YtpookiebkiigcaaZWorldNew31
import Derived.Test.YtpookiebkiigcaaZWorldNew35
import Derived.Test.YtpookiebkiigcaaZWorldNew47
namespace M1
theorem regOk_new0 (id : Int) (h : inB id 1 5 = true) : regOk id 0 0 id [] = true := by
  simp [regOk, h, stOk, setOk, noneLater]
  decide
theorem j_none : jOk [] [] = true ∧ jL [] [] = [] := by
  have h : agreeB [] [] = true := by simp [agreeB, setOk, agreeTo]
  exact j_yes h (by show setOk [] = true; simp [setOk])
end M1
namespace Go.Proofs.Ytpookiebkiigcaa
open Go.ChangeShapes Go.WideShapes Go.ChangeAt Go.RowKit
set_option linter.unusedSimpArgs false
set_option linter.unusedVariables false

theorem joined_none (av bv : Option Addr) (c d : Nat) (w : World) (h1 : IsUpds w av 0 c []) (h2 : IsUpds w bv 0 d []) :
    Calls Try.prog 48 #[.slice av 0 c, .slice bv 0 d] w fun e w' => ∃ a k, e = .returned (.tuple #[.slice a 0 k, .bool true]) ∧ IsUpds w' a 0 k [] ∧ Below w.heap.size w w' := by
  have q := joined_impl _ _ _ _ _ _ _ _ _ h1 h2
  rw [M1.j_none.1, M1.j_none.2] at q
  refine q.mono ?_
  rintro e w1 ⟨⟨a, k, rfl, m⟩, hb⟩
  exact ⟨a, k, rfl, m.upds rfl (fun i hi => absurd hi (Nat.not_lt_zero _)), hb⟩

set_option maxHeartbeats 4000000 in
set_option maxRecDepth 100000 in
theorem allOf_new (av : Option Addr) (n c lo hi : Nat) (w : World) (h : MG w av n c lo hi rcell) (hn : n ≤ 5) :
    Calls Try.prog 45 #[.slice av n c] w fun e w' => (∃ b, e = .returned (.tuple #[.map (some b), .bool true])) ∧ Below w.heap.size w w' := by
  have hm1 := h.1
  have hm2 := h.2.1
  unfold maxLen at hm2
  go_enter Try.func45, Try.ntmps45
  go_wp2_with fail
  go_loopw [4, 14] (fun v i wr => ∃ (p : Nat) (a : Option Addr) (k : Nat), p ≤ n ∧ i = .int .i64 p ∧ v = .slice a 0 k ∧ IsUpds wr a 0 k [] ∧ Below w.heap.size w wr) (fun _ i _ => n - (intOf i).toNat)
  case atStart => exact ⟨0, none, 0, Nat.zero_le _, rfl, rfl, noUpds _, Below.refl _ _⟩
  case round =>
    obtain ⟨p, a, k, hp, rfl, rfl, hu, hB⟩ := hrel
    have g1 := h.below hB
    by_cases hlt : p < n
    · rcases g1.2.2 with ⟨h0, _⟩ | ⟨g, rfl, _, _, r1⟩
      · omega
      have hgl := r1.lt
      have i0 : (0 : Int) ≤ (p : Int) := by omega
      have i1 : (p : Int) < (n : Int) := by omega
      have d0 := r1.cell (o := p * 5) (by omega)
      have d1 := r1.cell (o := p * 5 + 1) (by omega)
      have d2 := r1.cell (o := p * 5 + 2) (by omega)
      have d3 := r1.cell (o := p * 5 + 3) (by omega)
      have d4 := r1.cell (o := p * 5 + 4) (by omega)
      rw [rcell0] at d0
      rw [rcell1] at d1
      rw [rcell2] at d2
      rw [rcell3] at d3
      rw [rcell4] at d4
      have hin : M1.inB ((p : Int) + 1) 1 5 = true := by unfold M1.inB; simp; omega
      have HR : Hid (M1.regOk ((p : Int) + 1) 0 0 ((p : Int) + 1) [] = true) := M1.regOk_new0 _ hin
      have hpp : (((p : Int) + 1) != ((p : Int) + 1)) = false := by simp
      clear hin g1
      go_wp2_with fail
      obtain ⟨W1, hW1⟩ : ∃ W, W = (wr.alloc (.cells #[.int .i64 ((p : Int) + 1), .int .i64 0, .int .i64 0, .int .i64 ((p : Int) + 1), .slice none 0 0] 53)) := ⟨_, rfl⟩
      have bb1 : Below wr.heap.size wr W1 := by rw [hW1]; exact (Below.refl _ _).alloc (Nat.le_refl _) _
      have hz1 : W1.heap.size = wr.heap.size + 1 := by rw [hW1]; simp
      have rw1 : RowAt W1 wr.heap.size 5 (fun o => (#[.int .i64 ((p : Int) + 1), .int .i64 0, .int .i64 0, .int .i64 ((p : Int) + 1), .slice none 0 0] : Array Value).getD o undef) := by rw [hW1]; exact RowAt.new wr _ _
      rw [← hW1]
      clear hW1
      have c2 := regionOk_impl ((p : Int) + 1) 0 0 ((p : Int) + 1) none 0 0 [] W1 (noUpds _)
      rw [HR.out] at c2
      refine c2.mono ?_
      clear c2
      rintro e w2 ⟨rfl, hb2⟩
      have B2 := (hB.trans (bb1.mono hB.size))
      have B3 := B2.trans (hb2.mono B2.size)
      have u2 := (hu.below bb1).below hb2
      have rr := rw1.below hb2
      have hs2 := hb2.size
      clear rw1 bb1 hb2 hu B2 hB d0 d1 d2 d3 d4 r1
      have c0 := rr.cell (o := 0) (by omega)
      have c1 := rr.cell (o := 1) (by omega)
      have c2 := rr.cell (o := 2) (by omega)
      have c3 := rr.cell (o := 3) (by omega)
      have c4 := rr.cell (o := 4) (by omega)
      simp at c0 c1 c2 c3 c4
      have cl := rr.lt
      go_wp2_with fail
      clear c0 c1 c2 c3 c4 cl
      refine (joined_none _ _ _ _ _ u2 (noUpds _)).mono ?_
      rintro e w4 ⟨a4, k4, rfl, u4, hb4⟩
      have B4 := B3.trans (hb4.mono B3.size)
      clear u2 B3 hb4 rr
      go_wp2_with fail
      exact ⟨⟨p + 1, a4, k4, by omega, by go_num, rfl, u4, B4⟩, by simp [intOf]; omega⟩
    · have hk1 := hu.hmost
      unfold maxLen at hk1
      obtain ⟨Wo, hWo⟩ : ∃ W, W = wr := ⟨_, rfl⟩
      subst hWo
      go_wp2_with fail
      go_loopw [42] (fun i wr => i = .int .i64 0 ∧ Below Wo.heap.size Wo wr) (fun i _ => 0)
      case atStart => exact ⟨rfl, Below.refl _ _⟩
      case round =>
        obtain ⟨rfl, hB2⟩ := hrel
        have B2 := hB.trans (hB2.mono hB.size)
        have u2 := hu.below hB2
        clear hB hB2 hu
        go_wp2_with fail
        refine (setFrom_any _ _ _ _ _ u2 (fun i j _ hj => absurd hj (Nat.not_lt_zero _))).mono ?_
        rintro e w5 ⟨⟨b, rfl, _, _⟩, hb5⟩
        have B5 := B2.trans (hb5.mono B2.size)
        go_wp2_with fail
        refine bodyPost_ret (v := .tuple #[.map (some b), .bool true]) (by simp [results, Try.results45, go_sem]) rfl ?_
        exact ⟨⟨b, rfl⟩, B5⟩
end Go.Proofs.Ytpookiebkiigcaa
