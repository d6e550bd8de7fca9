/-
  The contract of the program's Taken.
-/
import Derived.Test.YtkdmkgpjcbignaaMath13
import Derived.Test.YtkdmkgpjcbignaaMath12
import Derived.Test.YtkdmkgpjcbignaaMath11
import Derived.Test.YtkdmkgpjcbignaaJdI
import Derived.Test.YtkdmkgpjcbignaaVecU
namespace M1

theorem fm_val {r v : Int} : ∀ {l : List (Int × Int)}, (∃ d ∈ l, d.1 = r) → (∀ d ∈ l, d.1 = r → d.2 = v) → fm l r = v
  | [], ⟨d, hd, _⟩, _ => by cases hd
  | e :: l, ⟨d, hd, he⟩, h => by
    unfold fm
    by_cases c : e.1 = r
    · rw [if_pos c]; exact h e (by simp) c
    · rw [if_neg c]
      refine fm_val ?_ fun x hx => h x (by simp [hx])
      rcases List.mem_cons.1 hd with q | q
      · subst q; exact absurd he c
      · exact ⟨d, q, he⟩
theorem fm_zero {r : Int} : ∀ {l : List (Int × Int)}, (∀ d ∈ l, ¬ d.1 = r) → fm l r = 0
  | [], _ => rfl
  | e :: l, h => by
    unfold fm
    rw [if_neg (h e (by simp))]
    exact fm_zero fun x hx => h x (by simp [hx])

theorem l3To_mem {us : List Upd} {d : Int × Int} : ∀ {k : Nat}, d ∈ l3To us k → ∃ i, i < k ∧ endAt us i ∧ d = ((up us i).dr, (up us i).dn)
  | 0, h => by cases h
  | k + 1, h => by
    by_cases c : endAt us k
    · rw [l3To_yes c] at h
      rcases List.mem_append.1 h with h | h
      · obtain ⟨i, hi, q⟩ := l3To_mem h; exact ⟨i, by omega, q⟩
      · simp at h; exact ⟨k, by omega, c, h⟩
    · rw [l3To_no c] at h
      obtain ⟨i, hi, q⟩ := l3To_mem h; exact ⟨i, by omega, q⟩
theorem l3To_has {us : List Upd} {i : Nat} (c : endAt us i) : ∀ {k : Nat}, i < k → ((up us i).dr, (up us i).dn) ∈ l3To us k
  | 0, h => by omega
  | k + 1, h => by
    by_cases e : i = k
    · subst e; rw [l3To_yes c]; simp
    · have ih := l3To_has c (k := k) (by omega)
      by_cases c2 : endAt us k
      · rw [l3To_yes c2]; simp [ih]
      · rw [l3To_no c2]; exact ih

theorem srt_idx {us : List Upd} (h : us.Pairwise dd) {i j : Nat} (hij : i < j) (hj : j < us.length) : dd (up us i) (up us j) := by
  have := List.pairwise_iff_getElem.1 h i j (by omega) hj hij
  have ei : up us i = us[i] := by simp [up, List.getD, show i < us.length by omega]
  have ej : up us j = us[j] := by simp [up, List.getD, hj]
  rw [ei, ej]; exact this

theorem fm_max {us : List Upd} (h : us.Pairwise dd) {x : Upd} (hx : x ∈ us) (hm : ∀ y ∈ us, y.dr = x.dr → y.dn ≤ x.dn) : fm (l3v us) x.dr = x.dn := by
  obtain ⟨i, hi, e⟩ := mem_up hx
  subst e
  have hend : endAt us i := by
    by_cases c : i + 1 = us.length
    · exact Or.inl c
    · refine Or.inr fun e => ?_
      have hj : i + 1 < us.length := by omega
      have h1 := dd_iff.1 (srt_idx h (show i < i + 1 by omega) hj)
      have h2 := hm (up us (i + 1)) (by
        have : up us (i + 1) = us[i + 1] := by simp [up, List.getD, hj]
        rw [this]; exact List.getElem_mem hj) e
      omega
  refine fm_val ⟨_, l3To_has hend hi, rfl⟩ fun d hd he => ?_
  obtain ⟨j, hj, hje, rfl⟩ := l3To_mem hd
  have he' : (up us j).dr = (up us i).dr := he
  show (up us j).dn = (up us i).dn
  by_cases c1 : j < i
  · exfalso
    rcases hje with q | q
    · omega
    · have h1 := dd_iff.1 (srt_idx h (show j < j + 1 by omega) (by omega))
      by_cases c2 : j + 1 = i
      · rw [c2] at q; exact q he'.symm
      · have h2 := dd_iff.1 (srt_idx h (show j + 1 < i by omega) hi)
        omega
  · by_cases c2 : i < j
    · have h1 := dd_iff.1 (srt_idx h c2 hj)
      have h2 := hm (up us j) (by
        have : up us j = us[j] := by simp [up, List.getD, hj]
        rw [this]; exact List.getElem_mem hj) he'
      omega
    · have : i = j := by omega
      rw [this]
theorem fm_out {us : List Upd} {r : Int} (h : ∀ x ∈ us, ¬ x.dr = r) : fm (l3v us) r = 0 := fm_zero fun d hd => by
  obtain ⟨i, hi, _, rfl⟩ := l3To_mem hd
  refine h (up us i) ?_
  have : up us i = us[i] := by simp [up, List.getD, hi]
  rw [this]; exact List.getElem_mem hi

structure LInv (L : Int → Int) (us : List Upd) : Prop where
  el : ∀ x ∈ us, 1 ≤ x.dr ∧ x.dr ≤ 5 ∧ 1 ≤ x.dn ∧ x.dn ≤ L x.dr
  bd : ∀ r, 0 ≤ L r ∧ L r ≤ 1000000
  has : ∀ r, 1 ≤ r → r ≤ 5 → 0 < L r → ∃ x ∈ us, x.dr = r ∧ x.dn = L r
theorem LInv.fm {L : Int → Int} {us : List Upd} (h : LInv L us) (hs : us.Pairwise dd) {r : Int} (h1 : 1 ≤ r) (h5 : r ≤ 5) : M1.fm (l3v us) r = L r := by
  by_cases c : 0 < L r
  · obtain ⟨x, hx, e1, e2⟩ := h.has r h1 h5 c
    have := fm_max hs hx fun y hy e => by
      have := (h.el y hy).2.2.2
      rw [e, e1] at this; omega
    rw [e1, e2] at this; exact this
  · have h0 : L r = 0 := by have := (h.bd r).1; omega
    rw [h0]
    exact fm_out fun x hx e => by
      have := h.el x hx
      rw [e] at this
      omega
theorem LInv.put {L : Int → Int} {us : List Upd} (h : LInv L us) {u : Upd} (hu : 1 ≤ u.dr ∧ u.dr ≤ 5 ∧ 1 ≤ u.dn ∧ u.dn ≤ 1000000) (hn : u.dn = L u.dr + 1) : (∀ x ∈ us, ¬ (x.dr = u.dr ∧ x.dn = u.dn)) ∧ LInv (fun r => if r = u.dr then u.dn else L r) (insD us u) := by
  have hnew : ∀ x ∈ us, ¬ (x.dr = u.dr ∧ x.dn = u.dn) := fun x hx e => by
    have := (h.el x hx).2.2.2
    rw [e.1] at this; omega
  refine ⟨hnew, ⟨fun x hx => ?_, fun r => ?_, fun r h1 h5 hr => ?_⟩⟩
  · rcases insD_mem hx with hx | hx
    · have q := h.el x hx
      refine ⟨q.1, q.2.1, q.2.2.1, ?_⟩
      by_cases e : x.dr = u.dr
      · simp only [if_pos e]; have := q.2.2.2; rw [e] at this; omega
      · simp only [if_neg e]; exact q.2.2.2
    · subst hx; simp; omega
  · by_cases e : r = u.dr
    · simp only [if_pos e]; omega
    · simp only [if_neg e]; exact h.bd r
  · have hp := insD_new hnew
    by_cases e : r = u.dr
    · exact ⟨u, hp.mem_iff.2 (by simp), e.symm, by simp [e]⟩
    · simp only [if_neg e] at hr ⊢
      obtain ⟨x, hx, q⟩ := h.has r h1 h5 hr
      exact ⟨x, hp.mem_iff.2 (by simp [hx]), q⟩
theorem LInv.start {xs : List Upd} (h : ∀ j, j < xs.length → okAt xs j = true) : LInv (lastN xs xs.length) xs := by
  refine ⟨fun x hx => ?_, fun r => lastN_bd h r _ (Nat.le_refl _), fun r h1 h5 hr => ?_⟩
  · obtain ⟨i, hi, e⟩ := mem_up hx
    have q := ok_rg h hi
    have g := lastN_ge h xs.length hi (Nat.le_refl _)
    rw [e] at q g
    exact ⟨q.1, q.2.1, q.2.2.1, g⟩
  · have key : ∀ k, k ≤ xs.length → 0 < lastN xs k r → ∃ x ∈ xs, x.dr = r ∧ x.dn = lastN xs k r := by
      intro k
      induction k with
      | zero => intro _ h; simp [lastN] at h
      | succ k ih =>
        intro hk hpos
        rw [lastN_succ] at hpos ⊢
        by_cases e : (up xs k).dr = r
        · rw [if_pos e]
          refine ⟨up xs k, ?_, e, rfl⟩
          have : up xs k = xs[k] := by simp [up, List.getD, show k < xs.length by omega]
          rw [this]; exact List.getElem_mem (by omega)
        · rw [if_neg e] at hpos ⊢; exact ih (by omega) hpos
    exact key _ (Nat.le_refl _) hr

/-- What is taken, one by one: the last numbers, the model's list, the map's list. -/
def tkL (xs ys : List Upd) : Nat → Int → Int
  | 0 => lastN xs xs.length
  | k + 1 => if (up ys k).dn = tkL xs ys k (up ys k).dr + 1 then fun r => if r = (up ys k).dr then (up ys k).dn else tkL xs ys k r else tkL xs ys k
def tkO (xs ys : List Upd) : Nat → List Upd
  | 0 => xs
  | k + 1 => if (up ys k).dn = tkL xs ys k (up ys k).dr + 1 then insD (tkO xs ys k) (up ys k) else tkO xs ys k
def tkM (xs ys : List Upd) : Nat → List Upd
  | 0 => xs
  | k + 1 => if (up ys k).dn = tkL xs ys k (up ys k).dr + 1 then putL (tkM xs ys k) (up ys k) else tkM xs ys k

theorem tk_all {xs ys : List Upd} (hx : ∀ j, j < xs.length → okAt xs j = true) (hy : ∀ j, j < ys.length → okU (up ys j) = true) : ∀ k, k ≤ ys.length → (tkO xs ys k).Pairwise dd ∧ (tkM xs ys k).Perm (tkO xs ys k) ∧ LInv (tkL xs ys k) (tkO xs ys k)
  | 0, _ => ⟨ok_sorted hx, List.Perm.refl _, LInv.start hx⟩
  | k + 1, hk => by
    obtain ⟨h1, h2, h3⟩ := tk_all hx hy k (by omega)
    have hd := okU_dot (hy k (by omega))
    by_cases c : (up ys k).dn = tkL xs ys k (up ys k).dr + 1
    · simp only [tkO, tkM, tkL, if_pos c]
      have q := jl_step (u := up ys k) h1 h2
      exact ⟨q.1, q.2, (h3.put hd c).2⟩
    · simp only [tkO, tkM, tkL, if_neg c]
      exact ⟨h1, h2, h3⟩
theorem tk_fd {xs ys : List Upd} (hx : ∀ j, j < xs.length → okAt xs j = true) (hy : ∀ j, j < ys.length → okU (up ys j) = true) {k : Nat} (hk : k < ys.length) (c : (up ys k).dn = tkL xs ys k (up ys k).dr + 1) : fd (tkM xs ys k) (up ys k).dr (up ys k).dn = none := by
  obtain ⟨h1, h2, h3⟩ := tk_all hx hy k (by omega)
  have hd := okU_dot (hy k hk)
  have hn := (h3.put hd c).1
  cases e : fd (tkM xs ys k) (up ys k).dr (up ys k).dn with
  | none => rfl
  | some x =>
    have : (fd (tkM xs ys k) (up ys k).dr (up ys k).dn).isSome = true := by rw [e]; rfl
    obtain ⟨y, hy, q⟩ := fd_mem.1 this
    exact absurd q (hn y (h2.mem_iff.1 hy))
theorem tk_mem {xs ys : List Upd} {x : Upd} : ∀ {k : Nat}, x ∈ tkO xs ys k → x ∈ xs ∨ ∃ j, j < k ∧ x = up ys j
  | 0, h => Or.inl h
  | k + 1, h => by
    unfold tkO at h
    split at h
    · rcases insD_mem h with h | h
      · rcases tk_mem h with h | ⟨j, hj, e⟩
        · exact Or.inl h
        · exact Or.inr ⟨j, by omega, e⟩
      · exact Or.inr ⟨k, by omega, h⟩
    · rcases tk_mem h with h | ⟨j, hj, e⟩
      · exact Or.inl h
      · exact Or.inr ⟨j, by omega, e⟩
theorem tkM_len {xs ys : List Upd} : ∀ k, (tkM xs ys k).length ≤ xs.length + k
  | 0 => Nat.le_refl _
  | k + 1 => by
    have := tkM_len (xs := xs) (ys := ys) k
    unfold tkM putL
    split
    · split
      · omega
      · simp; omega
    · omega

def allR (ys : List Upd) : Bool := (List.range ys.length).all fun j => okU (up ys j)
theorem allR_yes {ys : List Upd} (h : ∀ j, j < ys.length → okU (up ys j) = true) : allR ys = true := by simp [allR]; exact h
theorem allR_no {ys : List Upd} {j : Nat} (hj : j < ys.length) (h : okU (up ys j) = false) : allR ys = false := by simp [allR]; exact ⟨j, hj, h⟩
theorem allR_all {ys : List Upd} (h : allR ys = true) : ∀ j, j < ys.length → okU (up ys j) = true := by simp [allR] at h; exact h
def tpre (xs ys : List Upd) : Bool := setOk xs && decide (ys.length ≤ 60) && allR ys
def tO (xs ys : List Upd) : List Upd := tkO xs ys ys.length
def tOk (xs ys : List Upd) : Bool := tpre xs ys && setOk (tO xs ys)
def tL (xs ys : List Upd) : List Upd := if tOk xs ys = true then tO xs ys else []
theorem t_no {xs ys : List Upd} (h : tpre xs ys = false) : tOk xs ys = false ∧ tL xs ys = [] := by
  have : tOk xs ys = false := by unfold tOk; rw [h]; rfl
  exact ⟨this, by unfold tL; rw [this]; rfl⟩
theorem t_not {xs ys : List Upd} (h : setOk (tO xs ys) = false) : tOk xs ys = false ∧ tL xs ys = [] := by
  have : tOk xs ys = false := by unfold tOk; rw [h]; simp
  exact ⟨this, by unfold tL; rw [this]; rfl⟩
theorem t_yes {xs ys : List Upd} (h : tpre xs ys = true) (h2 : setOk (tO xs ys) = true) : tOk xs ys = true ∧ tL xs ys = tO xs ys := by
  have : tOk xs ys = true := by unfold tOk; rw [h, h2]; rfl
  exact ⟨this, by unfold tL; rw [if_pos this]⟩
theorem tpre_true {xs ys : List Upd} (h : tpre xs ys = true) : setOk xs = true ∧ ys.length ≤ 60 ∧ allR ys = true := by
  unfold tpre at h
  simp at h
  exact ⟨h.1.1, h.1.2, h.2⟩
theorem tk_txt {xs ys : List Upd} (h : tpre xs ys = true) {k : Nat} (hk : k ≤ ys.length) {x : Upd} (hx : x ∈ tkO xs ys k) : x.s.size ≤ 12 := by
  obtain ⟨h1, _, h3⟩ := tpre_true h
  rcases tk_mem hx with hm | ⟨j, hj, e⟩
  · obtain ⟨q, hq, e⟩ := mem_up hm
    have := ok_txt (okAt_ok (setOk_all h1 q hq))
    rwa [e] at this
  · have := ok_txt (allR_all h3 j (by omega))
    rw [e]; exact this
end M1

namespace Go.Proofs.Ytkdmkgpjcbignaa
open Go.ChangeShapes Go.WideShapes Go.ChangeAt Go.RowKit
set_option linter.unusedSimpArgs false
set_option linter.unusedVariables false

theorem row5l (w : World) (a b c d e : Int) (t : TypeId) (f : Nat → Value) (h0 : f 0 = .int .i64 a) (h1 : f 1 = .int .i64 b) (h2 : f 2 = .int .i64 c) (h3 : f 3 = .int .i64 d) (h4 : f 4 = .int .i64 e) : RowAt (w.alloc (.cells #[.int .i64 a, .int .i64 b, .int .i64 c, .int .i64 d, .int .i64 e] t)) w.heap.size 5 f :=
  (RowAt.new w #[.int .i64 a, .int .i64 b, .int .i64 c, .int .i64 d, .int .i64 e] t).same fun o ho => by
    match o, ho with
    | 0, _ => exact h0.symm
    | 1, _ => exact h1.symm
    | 2, _ => exact h2.symm
    | 3, _ => exact h3.symm
    | 4, _ => exact h4.symm
theorem rowg {a b : World} {g m : Nat} {f : Nat → Value} {row : Option Nat} (h : RowAt a g m f) (hg : a.grownBy b row) (hn : ∀ k, row = some k → ¬ k = g) : RowAt b g m f := by
  have e := hg.block g h.lt (fun e => hn g e.symm rfl)
  exact ⟨Nat.lt_of_lt_of_le h.1 hg.size, fun o ho => ⟨(World.cell?_of_block (w := a) (a := ⟨g, o, none⟩) e).trans (h.2 o ho).1, (World.frozen?_of_block (w := a) (a := ⟨g, o, none⟩) e).trans (h.2 o ho).2⟩⟩

set_option maxHeartbeats 8000000 in
set_option maxRecDepth 100000 in
theorem allRight_any (av : Option Addr) (n cn : Nat) (us : List M1.Upd) (w : World) (h1 : IsUpds w av n cn us) :
    Calls Try.prog 49 #[.slice av n cn] w fun e w' => e = .returned (.bool (M1.allR us)) ∧ Below w.heap.size w w' := by
  have hl1 : Hid (us.length = n) := h1.hlen
  have hm1 := h1.hcap
  have hm2 := h1.hmost
  unfold maxLen at hm2
  go_enter Try.func49, Try.ntmps49
  go_wp2_with fail
  go_loopw [7] (fun i wr => ∃ k : Nat, k ≤ n ∧ i = .int .i64 k ∧ Below w.heap.size w wr ∧ Hid (∀ j, j < k → M1.okU (M1.up us j) = true)) (fun i _ => n - (intOf i).toNat)
  case atStart => exact ⟨0, Nat.zero_le _, rfl, Below.refl _ _, fun j hj => absurd hj (Nat.not_lt_zero _)⟩
  case round =>
    obtain ⟨k, hk, rfl, hB, hall⟩ := hrel
    by_cases hlt : k < n
    · have g1 := h1.below hB
      rcases g1.hlies with h0 | ⟨b, off, rfl, hb, hc⟩
      · omega
      obtain ⟨c0, c1, c2, c3, c4, c5, c6, c7, c8, c9, c10, c11, c12⟩ := hc k hlt
      have hs := h1.htxt k hlt
      have i0 : (0 : Int) ≤ (k : Int) := by omega
      have i1 : (k : Int) < (n : Int) := by omega
      clear hc g1
      by_cases hu : M1.okU (M1.up us k) = true
      · have hok : M1.updB (M1.up us k).dr (M1.up us k).dn (M1.up us k).sw (M1.up us k).sc (M1.up us k).sr (M1.up us k).k (M1.up us k).tr (M1.up us k).id (M1.up us k).pa (M1.up us k).s (M1.up us k).st (M1.up us k).en (M1.up us k).lv = true := hu
        have HQ : Hid (∀ j, j < k + 1 → M1.okU (M1.up us j) = true) := fun j hj => by
          by_cases e : j = k
          · rw [e]; exact hu
          · exact hall.out j (by omega)
        clear hall hu
        go_wp2_with fail
        refine (updateOk_impl _ _ _ _ _ _ _ _ _ _ _ _ _ _ hs).mono ?_
        rw [hok]
        rintro e w1 ⟨rfl, hb1⟩
        have hB1 : Below w.heap.size w w1 := (hB.alloc hB.size _).trans (hb1.mono (by have := hB.size; simp; omega))
        go_wp2_with fail
        exact ⟨⟨k + 1, by omega, by go_num, hB1, HQ⟩, by simp [intOf]; omega⟩
      · replace hu : M1.okU (M1.up us k) = false := by simpa using hu
        have hok : M1.updB (M1.up us k).dr (M1.up us k).dn (M1.up us k).sw (M1.up us k).sc (M1.up us k).sr (M1.up us k).k (M1.up us k).tr (M1.up us k).id (M1.up us k).pa (M1.up us k).s (M1.up us k).st (M1.up us k).en (M1.up us k).lv = false := hu
        have HQ : Hid (M1.allR us = false) := M1.allR_no (j := k) (by rw [hl1.out]; exact hlt) hu
        clear hall hu
        go_wp2_with fail
        refine (updateOk_impl _ _ _ _ _ _ _ _ _ _ _ _ _ _ hs).mono ?_
        rw [hok]
        rintro e w1 ⟨rfl, hb1⟩
        have hB1 : Below w.heap.size w w1 := (hB.alloc hB.size _).trans (hb1.mono (by have := hB.size; simp; omega))
        go_wp2_with fail
        go_ret
        exact ⟨by rw [HQ.out]; rfl, hB1⟩
    · have HQ : Hid (M1.allR us = true) := M1.allR_yes fun j hj => hall.out j (by have := hl1.out; omega)
      clear hall
      go_wp2_with fail
      go_ret
      exact ⟨by rw [HQ.out]; rfl, hB⟩

end Go.Proofs.Ytkdmkgpjcbignaa

namespace Go.Proofs.Ytkdmkgpjcbignaa
open Go.ChangeShapes Go.WideShapes Go.ChangeAt Go.RowKit
set_option linter.unusedSimpArgs false
set_option linter.unusedVariables false

set_option maxHeartbeats 8000000 in
set_option maxRecDepth 100000 in
theorem taken_no (av bv : Option Addr) (n cn m cm : Nat) (xs ys : List M1.Upd) (w : World) (h1 : IsUpds w av n cn xs) (h2 : IsUpds w bv m cm ys) (hp : M1.tpre xs ys = false) :
    Calls Try.prog 21 #[.slice av n cn, .slice bv m cm] w fun e w' => Jd w w' e [] false ∧ Below w.heap.size w w' := by
  have hl2 : Hid (ys.length = m) := h2.hlen
  have hm3 := h2.hcap
  have hm4 := h2.hmost
  unfold maxLen at hm4
  by_cases hs1 : M1.setOk xs = true
  · by_cases hm60 : m ≤ 60
    · have hgt : decide ((60 : Int) < (m : Int)) = false := decide_eq_false (by omega)
      have hgt2 : decide (60 < m) = false := decide_eq_false (by omega)
      have hs3 : M1.allR ys = false := by
        have : ys.length ≤ 60 := by have := hl2.out; omega
        simpa [M1.tpre, hs1, this] using hp
      go_enter Try.func21, Try.ntmps21
      go_wp2_with fail
      refine (setOk_impl _ _ _ _ _ h1).mono ?_
      rw [hs1]
      rintro e w1 ⟨rfl, hb1⟩
      go_wp2_with fail
      refine (allRight_any _ _ _ _ _ (h2.below hb1)).mono ?_
      rw [hs3]
      rintro e w2 ⟨rfl, hb2⟩
      have B2 := hb1.trans (hb2.mono hb1.size)
      go_wp2_with fail
      exact bodyPost_ret (v := .tuple #[.slice none 0 0, .bool false]) (by simp [results, Try.results21, go_sem]) rfl ⟨jd_nil _ _, B2⟩
    · have hgt : decide ((60 : Int) < (m : Int)) = true := decide_eq_true (by omega)
      have hgt2 : decide (60 < m) = true := decide_eq_true (by omega)
      go_enter Try.func21, Try.ntmps21
      go_wp2_with fail
      refine (setOk_impl _ _ _ _ _ h1).mono ?_
      rw [hs1]
      rintro e w1 ⟨rfl, hb1⟩
      go_wp2_with fail
      exact bodyPost_ret (v := .tuple #[.slice none 0 0, .bool false]) (by simp [results, Try.results21, go_sem]) rfl ⟨jd_nil _ _, hb1⟩
  · replace hs1 : M1.setOk xs = false := by simpa using hs1
    go_enter Try.func21, Try.ntmps21
    go_wp2_with fail
    refine (setOk_impl _ _ _ _ _ h1).mono ?_
    rw [hs1]
    rintro e w1 ⟨rfl, hb1⟩
    go_wp2_with fail
    exact bodyPost_ret (v := .tuple #[.slice none 0 0, .bool false]) (by simp [results, Try.results21, go_sem]) rfl ⟨jd_nil _ _, hb1⟩
end Go.Proofs.Ytkdmkgpjcbignaa

namespace Go.Proofs.Ytkdmkgpjcbignaa
open Go.ChangeShapes Go.WideShapes Go.ChangeAt Go.RowKit
set_option linter.unusedSimpArgs false
set_option linter.unusedVariables false

theorem MapN.set {w : World} {b : Nat} {us : List M1.Upd} (h : MapN w b us) {a : Addr} (ha : ¬ b = a.block) (u : Value) : MapN (w.setCell a u) b us :=
  h.block (Below.heap_setCell _ _ _ _ ha)

set_option maxHeartbeats 40000000 in
set_option maxRecDepth 100000 in
theorem taken_impl (av bv : Option Addr) (n cn m cm : Nat) (xs ys : List M1.Upd) (w : World) (h1 : IsUpds w av n cn xs) (h2 : IsUpds w bv m cm ys) :
    Calls Try.prog 21 #[.slice av n cn, .slice bv m cm] w fun e w' => Jd w w' e (M1.tL xs ys) (M1.tOk xs ys) ∧ Below w.heap.size w w' := by
  have hl2 : Hid (ys.length = m) := h2.hlen
  have hl1 : Hid (xs.length = n) := h1.hlen
  have hm3 := h2.hcap
  have hm4 := h2.hmost
  unfold maxLen at hm4
  by_cases hp : M1.tpre xs ys = true
  · have HP : Hid (M1.tpre xs ys = true) := hp
    obtain ⟨hs1, hs2, hs3⟩ := M1.tpre_true hp
    have hm60 : m ≤ 60 := by have := hl2.out; omega
    have hgt : decide ((60 : Int) < (m : Int)) = false := decide_eq_false (by omega)
    have hgt2 : decide (60 < m) = false := decide_eq_false (by omega)
    have ha : Hid (M1.apart xs) := M1.ok_apart (M1.setOk_all hs1)
    have HX : Hid (∀ j, j < xs.length → M1.okAt xs j = true) := M1.setOk_all hs1
    have HY : Hid (∀ j, j < ys.length → M1.okU (M1.up ys j) = true) := M1.allR_all hs3
    have hx60 := M1.setOk_len hs1
    have HLEN : Hid ((M1.tkM xs ys ys.length).length ≤ 1000) := (by have := M1.tkM_len (xs := xs) (ys := ys) ys.length; omega : (M1.tkM xs ys ys.length).length ≤ 1000)
    have hr : Hid (∀ j, j < n → 1 ≤ (M1.up xs j).dr ∧ (M1.up xs j).dr ≤ 5) := fun j hj => by
      have := M1.ok_rg HX.out (j := j) (by rw [hl1.out]; exact hj)
      exact ⟨this.1, this.2.1⟩
    clear hx60 hs2
    go_enter Try.func21, Try.ntmps21
    go_wp2_with fail
    refine (setOk_impl _ _ _ _ _ h1).mono ?_
    rw [hs1]
    rintro e w1 ⟨rfl, hb1⟩
    go_wp2_with fail
    refine (allRight_any _ _ _ _ _ (h2.below hb1)).mono ?_
    rw [hs3]
    rintro e w2 ⟨rfl, hb2⟩
    have B2 := hb1.trans (hb2.mono hb1.size)
    clear hs1 hs3 hp
    go_wp2_with fail
    refine (setFromN_any _ _ _ _ _ (h1.below B2) ha).mono ?_
    rintro e w3 ⟨⟨b, rfl, hbb, hM3⟩, hb3⟩
    have B3 := B2.trans (hb3.mono B2.size)
    have hs2 := B2.size
    have hbl := hM3.lt
    go_wp2_with fail
    refine (lastOf_any _ _ _ _ _ (h1.below B3) hr).mono ?_
    rintro e w4 ⟨rfl, hb4⟩
    have B4 := B3.trans (hb4.mono B3.size)
    have hM4 := hM3.below hb4 hbl
    have hs4 := hb4.size
    go_wp2_with fail
    obtain ⟨p, hpe⟩ : ∃ p, p = w4.heap.size := ⟨_, rfl⟩
    obtain ⟨W5, hW5⟩ : ∃ W, W = (w4.alloc (.cells #[.int .i64 (M1.lastN xs n 1), .int .i64 (M1.lastN xs n 2), .int .i64 (M1.lastN xs n 3), .int .i64 (M1.lastN xs n 4), .int .i64 (M1.lastN xs n 5)] 63)) := ⟨_, rfl⟩
    have hb5 : Below w4.heap.size w4 W5 := by rw [hW5]; exact (Below.refl _ _).alloc (Nat.le_refl _) _
    have row5 : RowAt W5 p 5 (fun o => .int .i64 (M1.tkL xs ys 0 (o + 1))) := by
      rw [hW5, hpe]
      have e : M1.tkL xs ys 0 = M1.lastN xs n := by rw [← hl1.out]; rfl
      exact row5l w4 _ _ _ _ _ _ _ (by rw [e]; rfl) (by rw [e]; rfl) (by rw [e]; rfl) (by rw [e]; rfl) (by rw [e]; rfl)
    have hM5 : MapN W5 b (M1.tkM xs ys 0) := hM4.below hb5 (by omega)
    have B5 := B4.trans (hb5.mono B4.size)
    have hbp : ¬ b = p := by omega
    have hpw : w.heap.size ≤ p := by have := B4.size; omega
    have hbw : w.heap.size ≤ b := by omega
    rw [← hpe, ← hW5]
    clear hW5 hpe hM4 hM3 hb4 hb5 hs4 hbl hbb B2 B3 B4 hs2 hb3
    go_loopw [29] (fun i wr => ∃ k : Nat, k ≤ m ∧ i = .int .i64 k ∧ Below w.heap.size w wr ∧ MapN wr b (M1.tkM xs ys k) ∧ RowAt wr p 5 (fun o => .int .i64 (M1.tkL xs ys k (o + 1)))) (fun i _ => m - (intOf i).toNat)
    case atStart => exact ⟨0, Nat.zero_le _, rfl, B5, hM5, row5⟩
    case round =>
      clear hM5 B5 row5
      obtain ⟨k, hk, rfl, hB, hmap, row⟩ := hrel
      have hs0 := hmap.lt
      have hsz := hB.size
      have hpl := row.lt
      by_cases hlt : k < m
      · have g1 := h2.below hB
        rcases g1.hlies with h0 | ⟨c, off, rfl, hb, hc⟩
        · omega
        obtain ⟨c0, c1, c2, c3, c4, c5, c6, c7, c8, c9, c10, c11, c12⟩ := hc k hlt
        have i0 : (0 : Int) ≤ (k : Int) := by omega
        have i1 : (k : Int) < (m : Int) := by omega
        clear hc g1
        have hky : k < ys.length := by rw [hl2.out]; exact hlt
        obtain ⟨d1, d5, _, _⟩ := M1.okU_dot (HY.out k hky)
        have LB := (M1.tk_all HX.out HY.out k (by omega)).2.2.bd (M1.up ys k).dr
        have kd := row.cell (o := ((M1.up ys k).dr - 1).toNat) (by omega)
        have ed : ((((M1.up ys k).dr - 1).toNat : Nat) : Int) + 1 = (M1.up ys k).dr := by omega
        rw [ed] at kd
        obtain ⟨y, hy⟩ : ∃ y, Hid (M1.tkL xs ys k (M1.up ys k).dr = y) := ⟨_, rfl⟩
        rw [hy.out] at kd LB
        have j0 : (0 : Int) ≤ (M1.up ys k).dr - 1 := by omega
        have j1 : (M1.up ys k).dr - 1 < (5 : Int) := by omega
        have j2 : IntKind.i64.wrap ((M1.up ys k).dr - 1) = (M1.up ys k).dr - 1 := IntWalk.i64_in _ (by omega)
        have j3 : IntKind.i64.wrap (y + 1) = y + 1 := IntWalk.i64_in _ (by omega)
        clear ed
        go_wp2_with fail
        obtain ⟨WB, hWB⟩ : ∃ W, W = (wr.alloc (.cells #[.int .i64 (M1.up ys k).dr, .int .i64 (M1.up ys k).dn, .int .i64 (M1.up ys k).sw, .int .i64 (M1.up ys k).sc, .int .i64 (M1.up ys k).sr, .int .i64 (M1.up ys k).k, .int .i64 (M1.up ys k).tr, .int .i64 (M1.up ys k).id, .int .i64 (M1.up ys k).pa, .string (M1.up ys k).s, .int .i64 (M1.up ys k).st, .int .i64 (M1.up ys k).en, .int .i64 (M1.up ys k).lv] 59)) := ⟨_, rfl⟩
        have bbB : Below wr.heap.size wr WB := by rw [hWB]; exact (Below.refl _ _).alloc (Nat.le_refl _) _
        have hzB : WB.heap.size = wr.heap.size + 1 := by rw [hWB]; simp
        have rwB : RowAt WB wr.heap.size 13 (fun o => (#[.int .i64 (M1.up ys k).dr, .int .i64 (M1.up ys k).dn, .int .i64 (M1.up ys k).sw, .int .i64 (M1.up ys k).sc, .int .i64 (M1.up ys k).sr, .int .i64 (M1.up ys k).k, .int .i64 (M1.up ys k).tr, .int .i64 (M1.up ys k).id, .int .i64 (M1.up ys k).pa, .string (M1.up ys k).s, .int .i64 (M1.up ys k).st, .int .i64 (M1.up ys k).en, .int .i64 (M1.up ys k).lv] : Array Value).getD o undef) := by rw [hWB]; exact RowAt.new wr _ _
        rw [← hWB]
        have hmB := hmap.below bbB hs0
        have rowB := row.below bbB
        have hBB := hB.trans (bbB.mono hB.size)
        have kdB : WB.cell? ⟨p, ((M1.up ys k).dr - 1).toNat, none⟩ = some (.int .i64 y) := (bbB.cell (p := ⟨p, ((M1.up ys k).dr - 1).toNat, none⟩) hpl).trans kd
        have ed1 : ((M1.up ys k).dr - 1).toNat = (M1.up ys k).dr.toNat - 1 := by omega
        rw [ed1] at kdB
        clear hWB hmap row hB kd c0 c1 c2 c3 c4 c5 c6 c7 c8 c9 c10 c11 c12 bbB
        obtain ⟨q, hq⟩ : ∃ q, q = wr.heap.size := ⟨_, rfl⟩
        rw [← hq] at rwB hzB hs0 hsz hpl hb ⊢
        have hqB : q < WB.heap.size := by omega
        have hpB : p < WB.heap.size := by omega
        have hbB : b < WB.heap.size := by omega
        clear hq
        have x0 := rwB.cell (o := 0) (by omega)
        have x1 := rwB.cell (o := 1) (by omega)
        have x2 := rwB.cell (o := 2) (by omega)
        have x3 := rwB.cell (o := 3) (by omega)
        have x4 := rwB.cell (o := 4) (by omega)
        have x5 := rwB.cell (o := 5) (by omega)
        have x6 := rwB.cell (o := 6) (by omega)
        have x7 := rwB.cell (o := 7) (by omega)
        have x8 := rwB.cell (o := 8) (by omega)
        have x9 := rwB.cell (o := 9) (by omega)
        have x10 := rwB.cell (o := 10) (by omega)
        have x11 := rwB.cell (o := 11) (by omega)
        have x12 := rwB.cell (o := 12) (by omega)
        simp at x0 x1 x2 x3 x4 x5 x6 x7 x8 x9 x10 x11 x12
        have xl := rwB.lt
        have HBX : Hid (RowAt WB q 13 (fun o => (#[.int .i64 (M1.up ys k).dr, .int .i64 (M1.up ys k).dn, .int .i64 (M1.up ys k).sw, .int .i64 (M1.up ys k).sc, .int .i64 (M1.up ys k).sr, .int .i64 (M1.up ys k).k, .int .i64 (M1.up ys k).tr, .int .i64 (M1.up ys k).id, .int .i64 (M1.up ys k).pa, .string (M1.up ys k).s, .int .i64 (M1.up ys k).st, .int .i64 (M1.up ys k).en, .int .i64 (M1.up ys k).lv] : Array Value).getD o undef)) := rwB
        clear rwB x2 x3 x4 x5 x6 x7 x8 x9 x10 x11 x12
        by_cases hq : (M1.up ys k).dn = y + 1
        · have hqH : Hid ((M1.up ys k).dn = y + 1) := hq
          clear hq
          refine wp_region_held_drew (S := fun w' => Kp WB w') (by kernel_rfl) ?_ (fun hHeld => ?_)
          · exact kp_zero _
          refine wpAnyH_take (i := 0) (v := ?_) rfl (by kernel_rfl) (by kernel_rfl) (by kernel_rfl) (fun _ _ _ h => h) (Or.inl ⟨by rfl, ?_⟩) hHeld ?_
          rotate_left
          · (intro w hSw; (try dsimp only at hSw); go_simp; try (with_reducible rfl))
          (try simp only [Act.put, List.getElem_toArray, List.getElem_cons_zero, List.getElem_cons_succ, List.setIfInBounds_toArray, List.set_cons_zero, List.set_cons_succ])
          refine wpAnyH_take (i := 1) (v := ?_) rfl (by kernel_rfl) (by kernel_rfl) (by kernel_rfl) (fun _ _ _ h => h) (Or.inl ⟨by rfl, ?_⟩) hHeld ?_
          rotate_left
          · (intro w hSw; (try dsimp only at hSw); go_simp; try (with_reducible rfl))
          (try simp only [Act.put, List.getElem_toArray, List.getElem_cons_zero, List.getElem_cons_succ, List.setIfInBounds_toArray, List.set_cons_zero, List.set_cons_succ])
          refine wpAnyH_take (i := 2) (v := ?_) rfl (by kernel_rfl) (by kernel_rfl) (by kernel_rfl) (fun _ _ _ h => h) (Or.inl ⟨by rfl, ?_⟩) hHeld ?_
          rotate_left
          · (intro w hSw; (try dsimp only at hSw); go_simp; try (with_reducible rfl))
          (try simp only [Act.put, List.getElem_toArray, List.getElem_cons_zero, List.getElem_cons_succ, List.setIfInBounds_toArray, List.set_cons_zero, List.set_cons_succ])
          refine wpAnyH_take (i := 3) (v := ?_) rfl (by kernel_rfl) (by kernel_rfl) (by kernel_rfl) (fun _ _ _ h => h) (Or.inl ⟨by rfl, ?_⟩) hHeld ?_
          rotate_left
          · (intro w hSw; (try dsimp only at hSw); go_simp; try (with_reducible rfl))
          (try simp only [Act.put, List.getElem_toArray, List.getElem_cons_zero, List.getElem_cons_succ, List.setIfInBounds_toArray, List.set_cons_zero, List.set_cons_succ])
          refine wpAnyH_take (i := 4) (v := ?_) rfl (by kernel_rfl) (by kernel_rfl) (by kernel_rfl) (fun _ _ _ h => h) (Or.inl ⟨by rfl, ?_⟩) hHeld ?_
          rotate_left
          · (intro w hSw; (try dsimp only at hSw); go_simp; try (with_reducible rfl))
          (try simp only [Act.put, List.getElem_toArray, List.getElem_cons_zero, List.getElem_cons_succ, List.setIfInBounds_toArray, List.set_cons_zero, List.set_cons_succ])
          refine wpAnyH_take (i := 5) (v := ?_) rfl (by kernel_rfl) (by kernel_rfl) (by kernel_rfl) (fun _ _ _ h => h) (Or.inl ⟨by rfl, ?_⟩) hHeld ?_
          rotate_left
          · (intro w hSw; (try dsimp only at hSw); go_simp; try (with_reducible rfl))
          (try simp only [Act.put, List.getElem_toArray, List.getElem_cons_zero, List.getElem_cons_succ, List.setIfInBounds_toArray, List.set_cons_zero, List.set_cons_succ])
          refine wpAnyH_take (i := 6) (v := .int .i64 ((M1.up ys k).dr - 1)) rfl (by kernel_rfl) (by kernel_rfl) (by kernel_rfl) (fun _ _ _ h => h) (Or.inl ⟨by rfl, ?_⟩) hHeld ?_
          · (intro w hSw; (try dsimp only at hSw); go_simp; skip)
          (try simp only [Act.put, List.getElem_toArray, List.getElem_cons_zero, List.getElem_cons_succ, List.setIfInBounds_toArray, List.set_cons_zero, List.set_cons_succ])
          refine wpAnyH_take (i := 7) (v := .pointer (some ⟨p, ((M1.up ys k).dr - 1).toNat, none⟩)) rfl (by kernel_rfl) (by kernel_rfl) (by kernel_rfl) (fun _ _ _ h => h) (Or.inl ⟨by rfl, ?_⟩) hHeld ?_
          · (intro w hSw; (try dsimp only at hSw); go_simp; skip)
          (try simp only [Act.put, List.getElem_toArray, List.getElem_cons_zero, List.getElem_cons_succ, List.setIfInBounds_toArray, List.set_cons_zero, List.set_cons_succ])
          refine wpAnyH_take (i := 8) (v := .int .i64 y) rfl (by kernel_rfl) (by kernel_rfl) (by kernel_rfl) (fun _ _ _ h => h) (Or.inl ⟨by rfl, ?_⟩) hHeld ?_
          · (intro w hSw; (try dsimp only at hSw); go_simp; skip)
          (try simp only [Act.put, List.getElem_toArray, List.getElem_cons_zero, List.getElem_cons_succ, List.setIfInBounds_toArray, List.set_cons_zero, List.set_cons_succ])
          refine wpAnyH_take (i := 9) (v := .int .i64 (y + 1)) rfl (by kernel_rfl) (by kernel_rfl) (by kernel_rfl) (fun _ _ _ h => h) (Or.inl ⟨by rfl, ?_⟩) hHeld ?_
          · (intro w hSw; (try dsimp only at hSw); go_simp; skip)
          (try simp only [Act.put, List.getElem_toArray, List.getElem_cons_zero, List.getElem_cons_succ, List.setIfInBounds_toArray, List.set_cons_zero, List.set_cons_succ])
          refine wpAnyH_take (i := 10) (v := .bool true) rfl (by kernel_rfl) (by kernel_rfl) (by kernel_rfl) (fun _ _ _ h => h) (Or.inl ⟨by rfl, ?_⟩) hHeld ?_
          · (intro w hSw; (try dsimp only at hSw); go_simp; (first | exact hqH.out | simp [hqH.out]))
          (try simp only [Act.put, List.getElem_toArray, List.getElem_cons_zero, List.getElem_cons_succ, List.setIfInBounds_toArray, List.set_cons_zero, List.set_cons_succ])
          refine wpAnyH_done (by kernel_rfl) ?_ _
          have hK1 := hHeld.1
          clear hHeld
          generalize WB.drew = W1 at hK1 ⊢
          have hB1 := hBB.trans (hK1.mono hBB.size)
          have hm1 := hmB.below hK1 hbB
          have ro1 := rowB.below hK1
          have bx1 := HBX.out.below hK1
          have hs1 := hK1.size
          clear x0 x1 xl hK1 hmB rowB HBX hBB kdB
          have x0 := bx1.cell (o := 0) (by omega)
          have x1 := bx1.cell (o := 1) (by omega)
          have x2 := bx1.cell (o := 2) (by omega)
          have x3 := bx1.cell (o := 3) (by omega)
          have x4 := bx1.cell (o := 4) (by omega)
          have x5 := bx1.cell (o := 5) (by omega)
          have x6 := bx1.cell (o := 6) (by omega)
          have x7 := bx1.cell (o := 7) (by omega)
          have x8 := bx1.cell (o := 8) (by omega)
          have x9 := bx1.cell (o := 9) (by omega)
          have x10 := bx1.cell (o := 10) (by omega)
          have x11 := bx1.cell (o := 11) (by omega)
          have x12 := bx1.cell (o := 12) (by omega)
          simp at x0 x1 x2 x3 x4 x5 x6 x7 x8 x9 x10 x11 x12
          have xl := bx1.lt
          have hpl1 := ro1.lt
          have hfd : Hid (M1.fd (M1.tkM xs ys k) (M1.up ys k).dr (M1.up ys k).dn = none) := M1.tk_fd HX.out HY.out hky (by rw [hy.out]; exact hqH.out)
          have HM : Hid (M1.tkM xs ys (k + 1) = M1.putL (M1.tkM xs ys k) (M1.up ys k)) := (by rw [M1.tkM, hy.out, if_pos hqH.out] : M1.tkM xs ys (k + 1) = _)
          have HL : Hid (M1.tkL xs ys (k + 1) = fun r => if r = (M1.up ys k).dr then (M1.up ys k).dn else M1.tkL xs ys k r) := (by rw [M1.tkL, hy.out, if_pos hqH.out] : M1.tkL xs ys (k + 1) = _)
          go_wp2_with (at_mapUpdate; refine wpList_putN rfl _ _ _ rfl b (M1.tkM xs ys k) (M1.up ys k) rfl hm1 (fun x e => by rw [hfd.out] at e; cases e) rfl rfl ?_; intro w3 hm3 hg3; have ro3 := rowg ro1 hg3 (fun j e => by cases e; exact hbp); have bx3 := rowg bx1 hg3 (fun j e => by cases e; omega); have y0 := bx3.cell (o := 0) (by omega); have y1 := bx3.cell (o := 1) (by omega); simp at y0 y1; have hpl3 := ro3.lt; have hql3 := bx3.lt; have cd3 := ro3.cell (o := (M1.up ys k).dr.toNat - 1) (by omega); have fz3 := ro3.free (o := (M1.up ys k).dr.toNat - 1) (by omega))
          have hsw := hB1.size
          have hB3 : Below w.heap.size w w3 := hB1.grown hg3 hsw (fun j e => by cases e; omega)
          refine ⟨⟨k + 1, by omega, by go_num, hB3.setCell hpw _, ?_, ?_⟩, by simp [intOf]; omega⟩
          · rw [HM.out]; exact hm3.set (a := ⟨p, _, none⟩) hbp _
          · rw [HL.out]
            refine (ro3.set (o := (M1.up ys k).dr.toNat - 1) (by omega) (.int .i64 (M1.up ys k).dn)).same fun o ho => ?_
            by_cases e : o = (M1.up ys k).dr.toNat - 1
            · have e2 : ((o : Nat) : Int) + 1 = (M1.up ys k).dr := by omega
              simp only [if_pos e, if_pos e2]
            · have e2 : ¬ ((o : Nat) : Int) + 1 = (M1.up ys k).dr := by omega
              simp only [if_neg e, if_neg e2]
        · have hqb : ((M1.up ys k).dn == y + 1) = false := by simp [hq]
          have HN : Hid (M1.tkM xs ys (k + 1) = M1.tkM xs ys k ∧ M1.tkL xs ys (k + 1) = M1.tkL xs ys k) := ⟨by rw [M1.tkM, hy.out, if_neg hq], by rw [M1.tkL, hy.out, if_neg hq]⟩
          refine wp_region_held_drew (S := fun w' => Kp WB w') (by kernel_rfl) ?_ (fun hHeld => ?_)
          · exact kp_zero _
          refine wpAnyH_take (i := 0) (v := ?_) rfl (by kernel_rfl) (by kernel_rfl) (by kernel_rfl) (fun _ _ _ h => h) (Or.inl ⟨by rfl, ?_⟩) hHeld ?_
          rotate_left
          · (intro w hSw; (try dsimp only at hSw); go_simp; try (with_reducible rfl))
          (try simp only [Act.put, List.getElem_toArray, List.getElem_cons_zero, List.getElem_cons_succ, List.setIfInBounds_toArray, List.set_cons_zero, List.set_cons_succ])
          refine wpAnyH_take (i := 1) (v := ?_) rfl (by kernel_rfl) (by kernel_rfl) (by kernel_rfl) (fun _ _ _ h => h) (Or.inl ⟨by rfl, ?_⟩) hHeld ?_
          rotate_left
          · (intro w hSw; (try dsimp only at hSw); go_simp; try (with_reducible rfl))
          (try simp only [Act.put, List.getElem_toArray, List.getElem_cons_zero, List.getElem_cons_succ, List.setIfInBounds_toArray, List.set_cons_zero, List.set_cons_succ])
          refine wpAnyH_take (i := 2) (v := ?_) rfl (by kernel_rfl) (by kernel_rfl) (by kernel_rfl) (fun _ _ _ h => h) (Or.inl ⟨by rfl, ?_⟩) hHeld ?_
          rotate_left
          · (intro w hSw; (try dsimp only at hSw); go_simp; try (with_reducible rfl))
          (try simp only [Act.put, List.getElem_toArray, List.getElem_cons_zero, List.getElem_cons_succ, List.setIfInBounds_toArray, List.set_cons_zero, List.set_cons_succ])
          refine wpAnyH_take (i := 3) (v := ?_) rfl (by kernel_rfl) (by kernel_rfl) (by kernel_rfl) (fun _ _ _ h => h) (Or.inl ⟨by rfl, ?_⟩) hHeld ?_
          rotate_left
          · (intro w hSw; (try dsimp only at hSw); go_simp; try (with_reducible rfl))
          (try simp only [Act.put, List.getElem_toArray, List.getElem_cons_zero, List.getElem_cons_succ, List.setIfInBounds_toArray, List.set_cons_zero, List.set_cons_succ])
          refine wpAnyH_take (i := 4) (v := ?_) rfl (by kernel_rfl) (by kernel_rfl) (by kernel_rfl) (fun _ _ _ h => h) (Or.inl ⟨by rfl, ?_⟩) hHeld ?_
          rotate_left
          · (intro w hSw; (try dsimp only at hSw); go_simp; try (with_reducible rfl))
          (try simp only [Act.put, List.getElem_toArray, List.getElem_cons_zero, List.getElem_cons_succ, List.setIfInBounds_toArray, List.set_cons_zero, List.set_cons_succ])
          refine wpAnyH_take (i := 5) (v := ?_) rfl (by kernel_rfl) (by kernel_rfl) (by kernel_rfl) (fun _ _ _ h => h) (Or.inl ⟨by rfl, ?_⟩) hHeld ?_
          rotate_left
          · (intro w hSw; (try dsimp only at hSw); go_simp; try (with_reducible rfl))
          (try simp only [Act.put, List.getElem_toArray, List.getElem_cons_zero, List.getElem_cons_succ, List.setIfInBounds_toArray, List.set_cons_zero, List.set_cons_succ])
          refine wpAnyH_take (i := 6) (v := .int .i64 ((M1.up ys k).dr - 1)) rfl (by kernel_rfl) (by kernel_rfl) (by kernel_rfl) (fun _ _ _ h => h) (Or.inl ⟨by rfl, ?_⟩) hHeld ?_
          · (intro w hSw; (try dsimp only at hSw); go_simp; skip)
          (try simp only [Act.put, List.getElem_toArray, List.getElem_cons_zero, List.getElem_cons_succ, List.setIfInBounds_toArray, List.set_cons_zero, List.set_cons_succ])
          refine wpAnyH_take (i := 7) (v := .pointer (some ⟨p, ((M1.up ys k).dr - 1).toNat, none⟩)) rfl (by kernel_rfl) (by kernel_rfl) (by kernel_rfl) (fun _ _ _ h => h) (Or.inl ⟨by rfl, ?_⟩) hHeld ?_
          · (intro w hSw; (try dsimp only at hSw); go_simp; skip)
          (try simp only [Act.put, List.getElem_toArray, List.getElem_cons_zero, List.getElem_cons_succ, List.setIfInBounds_toArray, List.set_cons_zero, List.set_cons_succ])
          refine wpAnyH_take (i := 8) (v := .int .i64 y) rfl (by kernel_rfl) (by kernel_rfl) (by kernel_rfl) (fun _ _ _ h => h) (Or.inl ⟨by rfl, ?_⟩) hHeld ?_
          · (intro w hSw; (try dsimp only at hSw); go_simp; skip)
          (try simp only [Act.put, List.getElem_toArray, List.getElem_cons_zero, List.getElem_cons_succ, List.setIfInBounds_toArray, List.set_cons_zero, List.set_cons_succ])
          refine wpAnyH_take (i := 9) (v := .int .i64 (y + 1)) rfl (by kernel_rfl) (by kernel_rfl) (by kernel_rfl) (fun _ _ _ h => h) (Or.inl ⟨by rfl, ?_⟩) hHeld ?_
          · (intro w hSw; (try dsimp only at hSw); go_simp; skip)
          (try simp only [Act.put, List.getElem_toArray, List.getElem_cons_zero, List.getElem_cons_succ, List.setIfInBounds_toArray, List.set_cons_zero, List.set_cons_succ])
          refine wpAnyH_take (i := 10) (v := .bool false) rfl (by kernel_rfl) (by kernel_rfl) (by kernel_rfl) (fun _ _ _ h => h) (Or.inl ⟨by rfl, ?_⟩) hHeld ?_
          · (intro w hSw; (try dsimp only at hSw); go_simp; (try simp [hq]))
          (try simp only [Act.put, List.getElem_toArray, List.getElem_cons_zero, List.getElem_cons_succ, List.setIfInBounds_toArray, List.set_cons_zero, List.set_cons_succ])
          refine wpAnyH_done (by kernel_rfl) ?_ _
          have hK1 := hHeld.1
          clear hHeld
          have hB1 := hBB.trans (hK1.mono hBB.size)
          have hm1 := hmB.below hK1 hbB
          have ro1 := rowB.below hK1
          clear hK1
          go_wp2_with fail
          exact ⟨⟨k + 1, by omega, by go_num, hB1, by rw [HN.out.1]; exact hm1, by rw [HN.out.2]; exact ro1⟩, by simp [intOf]; omega⟩
      · have hkm : Hid (k = ys.length) := (by have := hl2.out; omega : k = ys.length)
        rw [hkm.out] at hmap
        have T := M1.tk_all HX.out HY.out ys.length (Nat.le_refl _)
        have HSRT : Hid ((M1.tO xs ys).Pairwise M1.dd ∧ (M1.tkM xs ys ys.length).Perm (M1.tO xs ys)) := ⟨T.1, T.2.1⟩
        have htxt : ∀ i, i < (M1.tkM xs ys ys.length).length → (M1.up (M1.tkM xs ys ys.length) i).s.size ≤ 1000 := fun i hi => by
          have hm : M1.up (M1.tkM xs ys ys.length) i ∈ M1.tkM xs ys ys.length := by rw [up_get hi]; exact List.getElem_mem hi
          have := M1.tk_txt HP.out (Nat.le_refl _) (T.2.1.mem_iff.1 hm)
          omega
        clear T
        go_wp2_with fail
        refine (told_any b _ _ hmap htxt HLEN.out).mono ?_
        rintro e w4 ⟨ns, hpm, hso, hres, hb4⟩
        have hns : ns = M1.tO xs ys := M1.told_is HSRT.out.1 HSRT.out.2 hpm hso
        subst hns
        have hB4 := hB.trans (hb4.mono hB.size)
        clear hpm hso hmap htxt
        rcases hres with ⟨hok, av4, cap4, rfl, mu4⟩ | ⟨hok, rfl⟩
        · have q := M1.t_yes HP.out hok
          have Q1 : Hid (M1.tOk xs ys = true) := q.1
          have Q2 : Hid (M1.tL xs ys = M1.tO xs ys) := q.2
          clear q hok
          go_wp2_with fail
          refine bodyPost_ret (v := .tuple #[.slice av4 (M1.tO xs ys).length cap4, .bool true]) (by simp [results, Try.results21, go_sem]) rfl ⟨?_, hB4⟩
          rw [Q1.out, Q2.out]
          exact ⟨av4, cap4, rfl, mu4.1, mu4.2.1, mu4.2.2.imp id fun ⟨g, e, h3, h4, r⟩ => ⟨g, e, by omega, h4, r⟩⟩
        · have q := M1.t_not hok
          have Q1 : Hid (M1.tOk xs ys = false) := q.1
          have Q2 : Hid (M1.tL xs ys = []) := q.2
          clear q hok
          go_wp2_with fail
          refine bodyPost_ret (v := .tuple #[.slice none 0 0, .bool false]) (by simp [results, Try.results21, go_sem]) rfl ⟨?_, hB4⟩
          rw [Q1.out, Q2.out]
          exact jd_nil _ _
  · replace hp : M1.tpre xs ys = false := by simpa using hp
    have q := M1.t_no hp
    rw [q.1, q.2]
    exact taken_no _ _ _ _ _ _ _ _ _ h1 h2 hp
end Go.Proofs.Ytkdmkgpjcbignaa
