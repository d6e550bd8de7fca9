/-
  What holds ahead of each round of the closure's range: and that it abides.
-/
import Derived.Test.YtdpeopmbboogaaaZForest48
namespace Go.Proofs.Ytdpeopmbboogaaa
open Go.ChangeShapes Go.WideShapes Go.ChangeAt Go.RowKit Go.Shelf
set_option linter.unusedSimpArgs false

/-- A block that holds just one span. -/
def SBox (W : World) (B : Nat) (u : M1.Upd) : Prop := W.heap[B]? = some (.cells #[.int .i64 u.id, .int .i64 u.pa, .string u.s, .int .i64 u.st, .int .i64 u.en] 34 (0, 0))
theorem SBox.lt {W : World} {B : Nat} {u : M1.Upd} (h : SBox W B u) : B < W.heap.size := (Array.getElem?_eq_some_iff.1 h).1
theorem SBox.new (W : World) (u : M1.Upd) : SBox (W.alloc (.cells #[.int .i64 u.id, .int .i64 u.pa, .string u.s, .int .i64 u.st, .int .i64 u.en] 34)) W.heap.size u := World.alloc_heap_new W _
theorem SBox.same {W W' : World} {B : Nat} {u : M1.Upd} (h : SBox W B u) (e : W'.heap[B]? = W.heap[B]?) : SBox W' B u := e.trans h
theorem SBox.cell {W : World} {B : Nat} {u : M1.Upd} (h : SBox W B u) : W.cell? ⟨B, 0, none⟩ = some (.int .i64 u.id) ∧ W.cell? ⟨B, 1, none⟩ = some (.int .i64 u.pa) ∧ W.cell? ⟨B, 2, none⟩ = some (.string u.s) ∧ W.cell? ⟨B, 3, none⟩ = some (.int .i64 u.st) ∧ W.cell? ⟨B, 4, none⟩ = some (.int .i64 u.en) := by
  refine ⟨?_, ?_, ?_, ?_, ?_⟩ <;> simp [World.cell?, show W.heap[B]? = _ from h]
theorem sbox_own {β : Type} (B : Nat) (f : β → M1.Upd) : Own (fun s W => SBox W B (f s)) := fun s X Y row hs hg hrow =>
  (hg.block B hs.lt (fun e' => by obtain ⟨o, ho, hc⟩ := hrow B e'.symm; rw [show X.heap[B]? = _ from hs] at ho; cases ho; cases hc)).trans hs
theorem SBox.not_row {W : World} {B : Nat} {u : M1.Upd} (h : SBox W B u) {base n : Nat} {v : Value} {xs : List Value} (hr : W.ownsRow base 36 6 v n xs) : some B ≠ v.ownBlock := by
  intro e
  rcases hr.2 with ⟨rfl, _⟩ | ⟨g, cap, cur, rfl, _, hgb, _⟩
  · simp [Value.ownBlock] at e
  · obtain rfl : B = g := by simpa [Value.ownBlock] using e
    rw [show W.heap[B]? = _ from h] at hgb
    injection hgb with hgb
    injection hgb with _ h2
    revert h2; decide

/-- Ahead of a round: the nodes, what lies still, the box of the depth and kidsOf's two. -/
structure GI (base N BS BI BG b m : Nat) (bv : Option Addr) (bc : Nat) (S : List M1.Upd) (D B : Nat) (j sid : Int) (v : Value) (W : World) (Z : Nat) (L : List (M1.Upd × Int)) (Y : World) : Prop where
  no : ∃ v', GNo Y base N v' L ∧ Trn N v v' W Y
  fix : GFix Y base N BS BI BG b m bv bc S
  deep : Boxed Y D 2 (.int .i64 j)
  k0 : Boxed Y B 31 (.slice bv m bc)
  k1 : Boxed Y (B + 1) 2 (.int .i64 sid)
  size : Z ≤ Y.heap.size
theorem GI.own {base N BS BI BG b m : Nat} {bv : Option Addr} {bc : Nat} {S : List M1.Upd} {D B : Nat} {j sid : Int} {v : Value} {W : World} {Z : Nat} {L : List (M1.Upd × Int)} {X Y : World} (h : GI base N BS BI BG b m bv bc S D B j sid v W Z L X) (hb : base ≤ Z) (hN : N < Z) (hW : W.heap.size ≤ Z) (hD : D < Z) (hB : B + 1 < Z) {row : Option Nat} (hg : X.grownBy Y row) (hr : ∀ r, row = some r → Z ≤ r ∧ ∃ o : Obj, X.heap[r]? = some o ∧ o.isCells = false) : GI base N BS BI BG b m bv bc S D B j sid v W Z L Y := by
  have hsz := h.size
  have st : ∀ k, k < Z → Y.heap[k]? = X.heap[k]? := fun k hk => hg.block k (by omega) (fun e => by have := (hr k e.symm).1; omega)
  obtain ⟨v', ⟨bN, ow⟩, t⟩ := h.no
  refine ⟨⟨v', ⟨(st N hN).trans bN, ow.kept hg ?_⟩, ⟨hg.os.trans t.env.1, hg.tape.trans t.env.2.1, hg.output.trans t.env.2.2⟩, Nat.le_trans t.size hg.size, fun k hk hn ho => (st k (by omega)).trans (t.block k hk hn ho), t.own⟩, h.fix.same (by have := hg.size; omega) (fun k hk _ => st k (by omega)), (st D hD).trans h.deep, (st B (by omega)).trans h.k0, (st (B + 1) hB).trans h.k1, Nat.le_trans hsz hg.size⟩
  rcases ow.2 with ⟨rfl, _⟩ | ⟨g, cap, cur, rfl, _, hgb, _⟩
  · exact .inl rfl
  · refine .inr fun e' => ?_
    obtain ⟨o, ho, hc⟩ := (hr g (by simpa [Value.ownBlock] using e'.symm)).2
    rw [hgb] at ho; cases ho; cases hc
theorem GI.below {base N BS BI BG b m : Nat} {bv : Option Addr} {bc : Nat} {S : List M1.Upd} {D B : Nat} {j sid : Int} {v : Value} {W : World} {Z : Nat} {L : List (M1.Upd × Int)} {X Y : World} (h : GI base N BS BI BG b m bv bc S D B j sid v W Z L X) (hW : W.heap.size ≤ Z) (hB : Below X.heap.size X Y) : GI base N BS BI BG b m bv bc S D B j sid v W Z L Y := by
  have hsz := h.size
  have hs2 := hB.size
  obtain ⟨v', ⟨bN, ow⟩, t⟩ := h.no
  exact ⟨⟨v', ⟨(hB.block N bN.lt).trans bN, owns_below ow hB⟩, ⟨hB.os.trans t.env.1, hB.tape.trans t.env.2.1, hB.output.trans t.env.2.2⟩, Nat.le_trans t.size hs2, fun k hk hn ho => (hB.block k (by omega)).trans (t.block k hk hn ho), t.own⟩, h.fix.same (by have := h.fix.size; omega) (fun k hk _ => hB.block k (by have := h.fix.size; omega)), (hB.block D h.deep.lt).trans h.deep, (hB.block B h.k0.lt).trans h.k0, (hB.block (B + 1) h.k1.lt).trans h.k1, by omega⟩
/-- A growing in a round: what the round owes. -/
theorem GI.grown {base N BS BI BG b m : Nat} {bv : Option Addr} {bc : Nat} {S : List M1.Upd} {D B : Nat} {j sid : Int} {v v1 v2 : Value} {W : World} {Z : Nat} {L L' : List (M1.Upd × Int)} {X Y : World} (h : GI base N BS BI BG b m bv bc S D B j sid v W Z L X) (hDN : ¬ D = N) (hBN : ¬ B = N) (hBN1 : ¬ B + 1 = N) (no1 : GNo X base N v1 L) (t0 : Trn N v v1 W X) (no2 : GNo Y base N v2 L') (t : Trn N v1 v2 X Y) :
    GI base N BS BI BG b m bv bc S D B j sid v W Z L' Y ∧ KpX (kx bv B) X Y ∧ KeepsFrom Z X Y := by
  have hf := h.fix
  have st : ∀ k, k < X.heap.size → ¬ k = N → some k ≠ v1.ownBlock → Y.heap[k]? = X.heap[k]? := t.block
  have kD := st D h.deep.lt hDN (h.deep.not_row (by decide) no1.2)
  have k0 := st B h.k0.lt hBN (h.k0.not_row (by decide) no1.2)
  have k1 := st (B + 1) h.k1.lt hBN1 (h.k1.not_row (by decide) no1.2)
  refine ⟨⟨⟨v2, no2, t0.trans t⟩, hf.trn t no1.2, kD.trans h.deep, k0.trans h.k0, k1.trans h.k1, Nat.le_trans h.size t.size⟩, ⟨t.size, ?_⟩, ⟨t.size, ?_⟩⟩
  · rintro k (rfl | rfl | e) hk
    · exact k0
    · exact k1
    · have q := hf.far k (Or.inr (Or.inr (Or.inr (Or.inr e))))
      refine st k hk q.2 (fun e2 => ?_)
      have := owns_base no1.2 k e2.symm
      omega
  · intro k o _ hk ho
    refine (st k (Array.getElem?_eq_some_iff.1 hk).1 (fun e => ?_) (fun e => ?_)).trans hk
    · subst e
      rw [show X.heap[k]? = _ from no1.1] at hk
      cases hk; cases ho
    · rcases no1.2.2 with ⟨rfl, _⟩ | ⟨g, cap, cur, rfl, _, hgb, _⟩
      · simp [Value.ownBlock] at e
      · obtain rfl : k = g := by simpa [Value.ownBlock] using e
        rw [hgb] at hk; cases hk; cases ho
end Go.Proofs.Ytdpeopmbboogaaa
