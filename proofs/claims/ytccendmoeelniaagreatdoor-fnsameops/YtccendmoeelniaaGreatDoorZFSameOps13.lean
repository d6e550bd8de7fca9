/-
  Texts of one proof, joined: Math14, Math15, Math33b, Math10, Math35.
-/
import Derived.Test.YtccendmoeelniaaGreatDoorZFSameOps00
import Derived.Test.YtccendmoeelniaaGreatDoorZFSameOps12
namespace M1
theorem fm_val {r v : Int} : ∀ {l : List (Int × Int)}, (∃ d ∈ l, d.1 = r) → (∀ d ∈ l, d.1 = r → d.2 = v) → fm l r = v
 | [], ⟨d, hd, _⟩, _ => by cases hd
 | e :: l, ⟨d, hd, he⟩, h => by
  unfold fm
  by_cases c : e.1 = r
  ·rw [if_pos c]; exact h e (by simp) c
  ·rw [if_neg c]
   refine fm_val ?_ fun x hx => h x (by simp [hx])
   rcases List.mem_cons.1 hd with q | q
   ·subst q; exact absurd he c
   ·exact ⟨d, q, he⟩

theorem fm_zero {r : Int} : ∀ {l : List (Int × Int)}, (∀ d ∈ l, ¬ d.1 = r) → fm l r = 0
 | [], _ => rfl
 | e :: l, h => by
  unfold fm
  rw [if_neg (h e (by simp))]
  exact fm_zero fun x hx => h x (by simp [hx])

theorem l3To_mem {us : List Upd} {d : Int × Int} : ∀ {k : Nat}, d ∈ l3To us k → ∃ i, i < k ∧ endAt us i ∧ d = ((up us i).dr, (up us i).dn)
 | 0, h => by cases h
 | k + 1, h => by
  by_cases c : endAt us k
  ·rw [l3To_yes c] at h
   rcases List.mem_append.1 h with h | h
   ·obtain ⟨i, hi, q⟩ := l3To_mem h; exact ⟨i, by omega, q⟩
   ·simp at h; exact ⟨k, by omega, c, h⟩
  ·rw [l3To_no c] at h
   obtain ⟨i, hi, q⟩ := l3To_mem h; exact ⟨i, by omega, q⟩

theorem l3To_has {us : List Upd} {i : Nat} (c : endAt us i) : ∀ {k : Nat}, i < k → ((up us i).dr, (up us i).dn) ∈ l3To us k
 | 0, h => by omega
 | k + 1, h => by
  by_cases e : i = k
  ·subst e; rw [l3To_yes c]; simp
  ·have ih := l3To_has c (k := k) (by omega)
   by_cases c2 : endAt us k
   ·rw [l3To_yes c2]; simp [ih]
   ·rw [l3To_no c2]; exact ih

theorem srt_idx {us : List Upd} (h : us.Pairwise dd) {i j : Nat} (hij : i < j) (hj : j < us.length) : dd (up us i) (up us j) := by
 have := List.pairwise_iff_getElem.1 h i j (by omega) hj hij
 have ei : up us i = us[i] := by simp [up, List.getD, show i < us.length by omega]
 have ej : up us j = us[j] := by simp [up, List.getD, hj]
 rw [ei, ej]; exact this

theorem fm_max {us : List Upd} (h : us.Pairwise dd) {x : Upd} (hx : x ∈ us) (hm : ∀ y ∈ us, y.dr = x.dr → y.dn ≤ x.dn) : fm (l3v us) x.dr = x.dn := by
 obtain ⟨i, hi, e⟩ := mem_up hx
 subst e
 have hend : endAt us i := by
  by_cases c : i + 1 = us.length
  ·exact Or.inl c
  ·refine Or.inr fun e => ?_
   have hj : i + 1 < us.length := by omega
   have h1 := dd_iff.1 (srt_idx h (show i < i + 1 by omega) hj)
   have h2 := hm (up us (i + 1)) (by
    have : up us (i + 1) = us[i + 1] := by simp [up, List.getD, hj]
    rw [this]; exact List.getElem_mem hj) e
   omega
 refine fm_val ⟨_, l3To_has hend hi, rfl⟩ fun d hd he => ?_
 obtain ⟨j, hj, hje, rfl⟩ := l3To_mem hd
 have he' : (up us j).dr = (up us i).dr := he
 show (up us j).dn = (up us i).dn
 by_cases c1 : j < i
 ·exfalso
  rcases hje with q | q
  ·omega
  ·have h1 := dd_iff.1 (srt_idx h (show j < j + 1 by omega) (by omega))
   by_cases c2 : j + 1 = i
   ·rw [c2] at q; exact q he'.symm
   ·have h2 := dd_iff.1 (srt_idx h (show j + 1 < i by omega) hi)
    omega
 ·by_cases c2 : i < j
  ·have h1 := dd_iff.1 (srt_idx h c2 hj)
   have h2 := hm (up us j) (by
    have : up us j = us[j] := by simp [up, List.getD, hj]
    rw [this]; exact List.getElem_mem hj) he'
   omega
  ·have : i = j := by omega
   rw [this]

theorem fm_out {us : List Upd} {r : Int} (h : ∀ x ∈ us, ¬ x.dr = r) : fm (l3v us) r = 0 := fm_zero fun d hd => by
 obtain ⟨i, hi, _, rfl⟩ := l3To_mem hd
 refine h (up us i) ?_
 have : up us i = us[i] := by simp [up, List.getD, hi]
 rw [this]; exact List.getElem_mem hi

structure LInv (L : Int → Int) (us : List Upd) : Prop where
 el : ∀ x ∈ us, 1 ≤ x.dr ∧ x.dr ≤ 5 ∧ 1 ≤ x.dn ∧ x.dn ≤ L x.dr
 bd : ∀ r, 0 ≤ L r ∧ L r ≤ 1000000
 has : ∀ r, 1 ≤ r → r ≤ 5 → 0 < L r → ∃ x ∈ us, x.dr = r ∧ x.dn = L r

theorem LInv.fm {L : Int → Int} {us : List Upd} (h : LInv L us) (hs : us.Pairwise dd) {r : Int} (h1 : 1 ≤ r) (h5 : r ≤ 5) : M1.fm (l3v us) r = L r := by
 by_cases c : 0 < L r
 ·obtain ⟨x, hx, e1, e2⟩ := h.has r h1 h5 c
  have := fm_max hs hx fun y hy e => by
   have := (h.el y hy).2.2.2
   rw [e, e1] at this; omega
  rw [e1, e2] at this; exact this
 ·have h0 : L r = 0 := by have := (h.bd r).1; omega
  rw [h0]
  exact fm_out fun x hx e => by
   have := h.el x hx
   rw [e] at this
   omega

theorem LInv.put {L : Int → Int} {us : List Upd} (h : LInv L us) {u : Upd} (hu : 1 ≤ u.dr ∧ u.dr ≤ 5 ∧ 1 ≤ u.dn ∧ u.dn ≤ 1000000) (hn : u.dn = L u.dr + 1) : (∀ x ∈ us, ¬ (x.dr = u.dr ∧ x.dn = u.dn)) ∧ LInv (fun r => if r = u.dr then u.dn else L r) (insD us u) := by
 have hnew : ∀ x ∈ us, ¬ (x.dr = u.dr ∧ x.dn = u.dn) := fun x hx e => by
  have := (h.el x hx).2.2.2
  rw [e.1] at this; omega
 refine ⟨hnew, ⟨fun x hx => ?_, fun r => ?_, fun r h1 h5 hr => ?_⟩⟩
 ·rcases insD_mem hx with hx | hx
  ·have q := h.el x hx
   refine ⟨q.1, q.2.1, q.2.2.1, ?_⟩
   by_cases e : x.dr = u.dr
   ·simp only [if_pos e]; have := q.2.2.2; rw [e] at this; omega
   ·simp only [if_neg e]; exact q.2.2.2
  ·subst hx; simp; omega
 ·by_cases e : r = u.dr
  ·simp only [if_pos e]; omega
  ·simp only [if_neg e]; exact h.bd r
 ·have hp := insD_new hnew
  by_cases e : r = u.dr
  ·exact ⟨u, hp.mem_iff.2 (by simp), e.symm, by simp [e]⟩
  ·simp only [if_neg e] at hr ⊢
   obtain ⟨x, hx, q⟩ := h.has r h1 h5 hr
   exact ⟨x, hp.mem_iff.2 (by simp [hx]), q⟩

theorem LInv.start {xs : List Upd} (h : ∀ j, j < xs.length → okAt xs j = true) : LInv (lastN xs xs.length) xs := by
 refine ⟨fun x hx => ?_, fun r => lastN_bd h r _ (Nat.le_refl _), fun r h1 h5 hr => ?_⟩
 ·obtain ⟨i, hi, e⟩ := mem_up hx
  have q := ok_rg h hi
  have g := lastN_ge h xs.length hi (Nat.le_refl _)
  rw [e] at q g
  exact ⟨q.1, q.2.1, q.2.2.1, g⟩
 ·have key : ∀ k, k ≤ xs.length → 0 < lastN xs k r → ∃ x ∈ xs, x.dr = r ∧ x.dn = lastN xs k r := by
   intro k
   induction k with
   | zero => intro _ h; simp [lastN] at h
   | succ k ih =>
    intro hk hpos
    rw [lastN_succ] at hpos ⊢
    by_cases e : (up xs k).dr = r
    ·rw [if_pos e]
     refine ⟨up xs k, ?_, e, rfl⟩
     have : up xs k = xs[k] := by simp [up, List.getD, show k < xs.length by omega]
     rw [this]; exact List.getElem_mem (by omega)
    ·rw [if_neg e] at hpos ⊢; exact ih (by omega) hpos
  exact key _ (Nat.le_refl _) hr

def tkL (xs ys : List Upd) : Nat → Int → Int
 | 0 => lastN xs xs.length
 | k + 1 => if (up ys k).dn = tkL xs ys k (up ys k).dr + 1 then fun r => if r = (up ys k).dr then (up ys k).dn else tkL xs ys k r else tkL xs ys k

def tkO (xs ys : List Upd) : Nat → List Upd
 | 0 => xs
 | k + 1 => if (up ys k).dn = tkL xs ys k (up ys k).dr + 1 then insD (tkO xs ys k) (up ys k) else tkO xs ys k

def tkM (xs ys : List Upd) : Nat → List Upd
 | 0 => xs
 | k + 1 => if (up ys k).dn = tkL xs ys k (up ys k).dr + 1 then putL (tkM xs ys k) (up ys k) else tkM xs ys k

theorem tk_all {xs ys : List Upd} (hx : ∀ j, j < xs.length → okAt xs j = true) (hy : ∀ j, j < ys.length → okU (up ys j) = true) : ∀ k, k ≤ ys.length → (tkO xs ys k).Pairwise dd ∧ (tkM xs ys k).Perm (tkO xs ys k) ∧ LInv (tkL xs ys k) (tkO xs ys k)
 | 0, _ => ⟨ok_sorted hx, List.Perm.refl _, LInv.start hx⟩
 | k + 1, hk => by
  obtain ⟨h1, h2, h3⟩ := tk_all hx hy k (by omega)
  have hd := okU_dot (hy k (by omega))
  by_cases c : (up ys k).dn = tkL xs ys k (up ys k).dr + 1
  ·simp only [tkO, tkM, tkL, if_pos c]
   have q := jl_step (u := up ys k) h1 h2
   exact ⟨q.1, q.2, (h3.put hd c).2⟩
  ·simp only [tkO, tkM, tkL, if_neg c]
   exact ⟨h1, h2, h3⟩

theorem tk_fd {xs ys : List Upd} (hx : ∀ j, j < xs.length → okAt xs j = true) (hy : ∀ j, j < ys.length → okU (up ys j) = true) {k : Nat} (hk : k < ys.length) (c : (up ys k).dn = tkL xs ys k (up ys k).dr + 1) : fd (tkM xs ys k) (up ys k).dr (up ys k).dn = none := by
 obtain ⟨h1, h2, h3⟩ := tk_all hx hy k (by omega)
 have hd := okU_dot (hy k hk)
 have hn := (h3.put hd c).1
 cases e : fd (tkM xs ys k) (up ys k).dr (up ys k).dn with
 | none => rfl
 | some x =>
  have : (fd (tkM xs ys k) (up ys k).dr (up ys k).dn).isSome = true := by rw [e]; rfl
  obtain ⟨y, hy, q⟩ := fd_mem.1 this
  exact absurd q (hn y (h2.mem_iff.1 hy))

theorem tk_mem {xs ys : List Upd} {x : Upd} : ∀ {k : Nat}, x ∈ tkO xs ys k → x ∈ xs ∨ ∃ j, j < k ∧ x = up ys j
 | 0, h => Or.inl h
 | k + 1, h => by
  unfold tkO at h
  split at h
  ·rcases insD_mem h with h | h
   ·rcases tk_mem h with h | ⟨j, hj, e⟩
    ·exact Or.inl h
    ·exact Or.inr ⟨j, by omega, e⟩
   ·exact Or.inr ⟨k, by omega, h⟩
  ·rcases tk_mem h with h | ⟨j, hj, e⟩
   ·exact Or.inl h
   ·exact Or.inr ⟨j, by omega, e⟩

theorem tkM_len {xs ys : List Upd} : ∀ k, (tkM xs ys k).length ≤ xs.length + k
 | 0 => Nat.le_refl _
 | k + 1 => by
  have := tkM_len (xs := xs) (ys := ys) k
  unfold tkM putL
  split
  ·split
   ·omega
   ·simp; omega
  ·omega

def tpre (xs ys : List Upd) : Bool := setOk xs && decide (ys.length ≤ 60) && allR ys

def tO (xs ys : List Upd) : List Upd := tkO xs ys ys.length

def tOk (xs ys : List Upd) : Bool := tpre xs ys && setOk (tO xs ys)

def tL (xs ys : List Upd) : List Upd := if tOk xs ys = true then tO xs ys else []

theorem t_no {xs ys : List Upd} (h : tpre xs ys = false) : tOk xs ys = false ∧ tL xs ys = [] := by
 have : tOk xs ys = false := by unfold tOk; rw [h]; rfl
 exact ⟨this, by unfold tL; rw [this]; rfl⟩

theorem t_not {xs ys : List Upd} (h : setOk (tO xs ys) = false) : tOk xs ys = false ∧ tL xs ys = [] := by
 have : tOk xs ys = false := by unfold tOk; rw [h]; simp
 exact ⟨this, by unfold tL; rw [this]; rfl⟩

theorem t_yes {xs ys : List Upd} (h : tpre xs ys = true) (h2 : setOk (tO xs ys) = true) : tOk xs ys = true ∧ tL xs ys = tO xs ys := by
 have : tOk xs ys = true := by unfold tOk; rw [h, h2]; rfl
 exact ⟨this, by unfold tL; rw [if_pos this]⟩

theorem tpre_true {xs ys : List Upd} (h : tpre xs ys = true) : setOk xs = true ∧ ys.length ≤ 60 ∧ allR ys = true := by
 unfold tpre at h
 simp at h
 exact ⟨h.1.1, h.1.2, h.2⟩

theorem tk_txt {xs ys : List Upd} (h : tpre xs ys = true) {k : Nat} (hk : k ≤ ys.length) {x : Upd} (hx : x ∈ tkO xs ys k) : x.s.size ≤ 12 := by
 obtain ⟨h1, _, h3⟩ := tpre_true h
 rcases tk_mem hx with hm | ⟨j, hj, e⟩
 ·obtain ⟨q, hq, e⟩ := mem_up hm
  have := ok_txt (okAt_ok (setOk_all h1 q hq))
  rwa [e] at this
 ·have := ok_txt (allR_all h3 j (by omega))
  rw [e]; exact this

end M1

namespace M1
theorem insD_keeps {u x : Upd} : ∀ {us : List Upd}, x ∈ us → x ∈ insD us u
 | [], h => by cases h
 | y :: t, h => by
  unfold insD
  split
  ·rcases List.mem_cons.1 h with h | h
   ·simp [h]
   ·exact List.mem_cons_of_mem _ (insD_keeps h)
  ·split
   ·exact h
   ·exact List.mem_cons_of_mem _ h

theorem insD_has {u : Upd} : ∀ {us : List Upd}, u ∈ insD us u ∨ ∃ x ∈ us, x.dr = u.dr ∧ x.dn = u.dn
 | [] => Or.inl (by simp [insD])
 | y :: t => by
  unfold insD
  split
  ·rcases insD_has (u := u) (us := t) with h | ⟨x, hx, e⟩
   ·exact Or.inl (List.mem_cons_of_mem _ h)
   ·exact Or.inr ⟨x, List.mem_cons_of_mem _ hx, e⟩
  ·split
   ·rename_i h; exact Or.inr ⟨y, by simp, h⟩
   ·exact Or.inl (by simp)

theorem jlTo_keeps {xs ys : List Upd} {x : Upd} (h : x ∈ xs) : ∀ k, x ∈ jlTo xs ys k
 | 0 => h
 | k + 1 => insD_keeps (jlTo_keeps h k)

theorem jlTo_mem {xs ys : List Upd} {x : Upd} : ∀ {k : Nat}, x ∈ jlTo xs ys k → x ∈ xs ∨ ∃ j, j < k ∧ x = up ys j
 | 0, h => Or.inl h
 | k + 1, h => by
  rcases insD_mem (show x ∈ insD (jlTo xs ys k) (up ys k) from h) with h | h
  ·rcases jlTo_mem h with h | ⟨j, hj, e⟩
   ·exact Or.inl h
   ·exact Or.inr ⟨j, by omega, e⟩
  ·exact Or.inr ⟨k, by omega, h⟩

def Agr (xs ys : List Upd) : Prop := ∀ x, x ∈ xs → ∀ y, y ∈ ys → x.dr = y.dr → x.dn = y.dn → x = y

theorem Agr.symm {xs ys : List Upd} (h : Agr xs ys) : Agr ys xs := fun y hy x hx e1 e2 => (h x hx y hy e1.symm e2.symm).symm

theorem agr_of {xs ys : List Upd} (h : agreeB xs ys = true) : Agr xs ys := fun x hx y hy e1 e2 => by
 obtain ⟨_, _, h3⟩ := agreeB_true h
 obtain ⟨i, hi, rfl⟩ := mem_up hx
 obtain ⟨j, hj, rfl⟩ := mem_up hy
 exact ueq_eq (h3 j hj i hi ⟨e1, e2⟩)

theorem jlTo_has {xs ys : List Upd} (h : Agr xs ys) (ha : apart ys) : ∀ k, k ≤ ys.length → ∀ j, j < k → up ys j ∈ jlTo xs ys k
 | 0, _, j, hj => by omega
 | k + 1, hk, j, hj => by
  show up ys j ∈ insD (jlTo xs ys k) (up ys k)
  by_cases e : j = k
  ·subst e
   rcases insD_has (u := up ys j) (us := jlTo xs ys j) with q | ⟨x, hx, e1, e2⟩
   ·exact q
   ·rcases jlTo_mem hx with q | ⟨i, hi, q⟩
    ·rw [h x q _ (up_mem (by omega)) e1 e2] at hx
     exact insD_keeps hx
    ·subst q; exact absurd ⟨e1, e2⟩ (ha i j hi (by omega))
  ·exact insD_keeps (jlTo_has h ha k (by omega) j (by omega))

theorem jl_both {xs ys : List Upd} (h : agreeB xs ys = true) (x : Upd) : x ∈ jl xs ys ↔ x ∈ xs ∨ x ∈ ys := by
 obtain ⟨h1, h2, _⟩ := agreeB_true h
 constructor
 ·intro q
  rcases jlTo_mem q with q | ⟨j, hj, e⟩
  ·exact Or.inl q
  ·subst e; exact Or.inr (up_mem hj)
 ·intro q
  rcases q with q | q
  ·exact jlTo_keeps q _
  ·obtain ⟨j, hj, rfl⟩ := mem_up q
   exact jlTo_has (agr_of h) (ok_apart (setOk_all h2)) _ (Nat.le_refl _) j hj

theorem jOk_true {xs ys : List Upd} (h : jOk xs ys = true) : agreeB xs ys = true ∧ setOk (jl xs ys) = true := by
 unfold jOk at h
 simpa using h

theorem jL_mem {xs ys : List Upd} (h : jOk xs ys = true) (x : Upd) : x ∈ jL xs ys ↔ x ∈ xs ∨ x ∈ ys := by
 unfold jL
 rw [if_pos h]
 exact jl_both (jOk_true h).1 x

theorem jL_ok {xs ys : List Upd} (h : jOk xs ys = true) : setOk xs = true ∧ setOk ys = true ∧ setOk (jL xs ys) = true := by
 obtain ⟨h1, h2, _⟩ := agreeB_true (jOk_true h).1
 refine ⟨h1, h2, ?_⟩
 unfold jL
 rw [if_pos h]
 exact (jOk_true h).2

theorem tkO_keeps {xs ys : List Upd} {x : Upd} (h : x ∈ xs) : ∀ k, x ∈ tkO xs ys k
 | 0 => h
 | k + 1 => by
  unfold tkO
  split
  ·exact insD_keeps (tkO_keeps h k)
  ·exact tkO_keeps h k

theorem tOk_true {xs ys : List Upd} (h : tOk xs ys = true) : setOk xs = true ∧ ys.length ≤ 60 ∧ setOk (tL xs ys) = true ∧ (∀ x, x ∈ xs → x ∈ tL xs ys) ∧ (∀ x, x ∈ tL xs ys → x ∈ xs ∨ x ∈ ys) := by
 have hL : tL xs ys = tO xs ys := by unfold tL; rw [if_pos h]
 rw [hL]
 unfold tOk at h
 rw [Bool.and_eq_true] at h
 obtain ⟨h1, h2, h3⟩ := tpre_true h.1
 refine ⟨h1, h2, h.2, fun x hx => tkO_keeps hx _, fun x hx => ?_⟩
 rcases tk_mem hx with q | ⟨j, hj, e⟩
 ·exact Or.inl q
 ·subst e; exact Or.inr (up_mem hj)

end M1

namespace M1
theorem tO_one {us : List Upd} {u : Upd} (h : setOk us = true) (hu : okU u = true) : tO us [u] = if u.dn = fm (l3v us) u.dr + 1 then insD us u else us := by
 obtain ⟨d1, d5, _, _⟩ := okU_dot hu
 have hs := ok_sorted (setOk_all h)
 have hl := (LInv.start (setOk_all h)).fm hs d1 d5
 show tkO us [u] 1 = _
 have e0 : up [u] 0 = u := rfl
 rw [tkO, e0, hl]
 rfl

theorem one_pre {us : List Upd} {u : Upd} (h : setOk us = true) (hu : okU u = true) : tpre us [u] = true := by
 unfold tpre
 rw [h, allR_yes (ys := [u]) fun j hj => by
  have : j = 0 := by simp at hj; omega
  subst this; exact hu]
 rfl

end M1

namespace M1
def laterB (sw sc a b : Int) : Bool := decide (a < sw) || (decide (sw = a) && decide (b < sc))

def noneLater (us : List Upd) (a b : Int) : Bool := (List.range us.length).all fun j => !laterB (up us j).sw (up us j).sc a b

def regOk (id a b c : Int) (us : List Upd) : Bool := inB id 1 5 && stOk a b c && decide (c = id) && setOk us && noneLater us a b

theorem noneLater_yes {us : List Upd} {a b : Int} (h : ∀ j, j < us.length → laterB (up us j).sw (up us j).sc a b = false) : noneLater us a b = true := by
 simp [noneLater]; exact h

theorem noneLater_no {us : List Upd} {a b : Int} {j : Nat} (hj : j < us.length) (h : laterB (up us j).sw (up us j).sc a b = true) : noneLater us a b = false := by
 simp [noneLater]; exact ⟨j, hj, h⟩

theorem noneLater_all {us : List Upd} {a b : Int} (h : noneLater us a b = true) : ∀ j, j < us.length → laterB (up us j).sw (up us j).sc a b = false := by
 simp [noneLater] at h; exact h

theorem regOk_1 {id a b c : Int} {us : List Upd} (h : inB id 1 5 = false) : regOk id a b c us = false := by simp [regOk, h]

theorem regOk_2 {id a b c : Int} {us : List Upd} (h : stOk a b c = false) : regOk id a b c us = false := by simp [regOk, h]

theorem regOk_3 {id a b c : Int} {us : List Upd} (h : ¬ c = id) : regOk id a b c us = false := by simp [regOk, h]

theorem regOk_4 {id a b c : Int} {us : List Upd} (h : setOk us = false) : regOk id a b c us = false := by simp [regOk, h]

theorem regOk_5 {id a b c : Int} {us : List Upd} (h1 : inB id 1 5 = true) (h2 : stOk a b c = true) (h3 : c = id) (h4 : setOk us = true) : regOk id a b c us = noneLater us a b := by unfold regOk; rw [h1, h2, h4, decide_eq_true h3]; rfl

end M1

namespace M1
def mtTo (a b c now : Int) (us : List Upd) : Nat → St
 | 0 => ⟨a, b, c, true⟩
 | k + 1 => if (mtTo a b c now us k).ok = true then metP (mtTo a b c now us k).a (mtTo a b c now us k).b (mtTo a b c now us k).c (up us k).sw (up us k).sc (up us k).sr now else ⟨0, 0, 0, false⟩

theorem mt_step {a b c now : Int} {us : List Upd} {k : Nat} (h : (mtTo a b c now us k).ok = true) : mtTo a b c now us (k + 1) = metP (mtTo a b c now us k).a (mtTo a b c now us k).b (mtTo a b c now us k).c (up us k).sw (up us k).sc (up us k).sr now := by
 show (if _ then _ else _) = _
 rw [if_pos h]

theorem mt_no {a b c now : Int} {us : List Upd} {k : Nat} (h : (mtTo a b c now us k).ok = false) : ∀ j, (mtTo a b c now us (k + j)).ok = false
 | 0 => h
 | j + 1 => by
  show (if _ then _ else (⟨0, 0, 0, false⟩ : St)).ok = false
  rw [if_neg (by have := mt_no h j; rw [show k.add j = k + j from rfl, this]; simp)]

theorem mt_fail {a b c now : Int} {us : List Upd} {k n : Nat} (h : (mtTo a b c now us k).ok = false) (hk : k ≤ n) : (mtTo a b c now us n).ok = false := by
 have := mt_no h (n - k)
 rwa [show k + (n - k) = n by omega] at this

structure Rg where
 id : Int
 a : Int
 b : Int
 c : Int
 us : List Upd

def zeroR : Rg := ⟨0, 0, 0, 0, []⟩

def rOk (r : Rg) : Bool := regOk r.id r.a r.b r.c r.us

def rcF (ys : List Upd) (now : Int) : Bool := !(decide (ys.length ≤ 60)) || (!(inB now 0 1000000000) || !(allR ys))

def mt (r : Rg) (ys : List Upd) (now : Int) : St := mtTo r.a r.b r.c now ys ys.length

def rcC (r : Rg) (ys : List Upd) (now : Int) : Int :=
 if rOk r = true then if rcF ys now = true then 2 else if tOk r.us ys = true then if (mt r ys now).ok = true then 0 else 4 else 3 else 1

def rcN (r : Rg) (ys : List Upd) (now : Int) : Rg := ⟨r.id, (mt r ys now).a, (mt r ys now).b, (mt r ys now).c, tL r.us ys⟩

def rcR (r : Rg) (ys : List Upd) (now : Int) : Rg :=
 if rOk r = true then if rcF ys now = true then r else if tOk r.us ys = true then if (mt r ys now).ok = true then rcN r ys now else r else r else zeroR

theorem rc_1 {r : Rg} {ys : List Upd} {now : Int} (h : rOk r = false) : rcC r ys now = 1 ∧ rcR r ys now = zeroR := by
 unfold rcC rcR; rw [h]; exact ⟨rfl, rfl⟩

theorem rc_2 {r : Rg} {ys : List Upd} {now : Int} (h : rOk r = true) (h2 : rcF ys now = true) : rcC r ys now = 2 ∧ rcR r ys now = r := by
 unfold rcC rcR; rw [h, h2]; exact ⟨rfl, rfl⟩

theorem rc_3 {r : Rg} {ys : List Upd} {now : Int} (h : rOk r = true) (h2 : rcF ys now = false) (h3 : tOk r.us ys = false) : rcC r ys now = 3 ∧ rcR r ys now = r := by
 unfold rcC rcR; rw [h, h2, h3]; exact ⟨rfl, rfl⟩

theorem rc_4 {r : Rg} {ys : List Upd} {now : Int} (h : rOk r = true) (h2 : rcF ys now = false) (h3 : tOk r.us ys = true) (h4 : (mt r ys now).ok = false) : rcC r ys now = 4 ∧ rcR r ys now = r := by
 unfold rcC rcR; rw [h, h2, h3, h4]; exact ⟨rfl, rfl⟩

theorem rc_0 {r : Rg} {ys : List Upd} {now : Int} (h : rOk r = true) (h2 : rcF ys now = false) (h3 : tOk r.us ys = true) (h4 : (mt r ys now).ok = true) : rcC r ys now = 0 ∧ rcR r ys now = rcN r ys now := by
 unfold rcC rcR; rw [h, h2, h3, h4]; exact ⟨rfl, rfl⟩

theorem rOk_set {r : Rg} (h : rOk r = true) : setOk r.us = true := by
 unfold rOk regOk at h; simp at h; exact h.1.2

theorem rcF_1 {ys : List Upd} {now : Int} (h : ¬ ys.length ≤ 60) : rcF ys now = true := by simp [rcF, h]

theorem rcF_2 {ys : List Upd} {now : Int} (h : inB now 0 1000000000 = false) : rcF ys now = true := by simp [rcF, h]

theorem rcF_3 {ys : List Upd} {now : Int} (h : allR ys = false) : rcF ys now = true := by simp [rcF, h]

theorem rcF_0 {ys : List Upd} {now : Int} (h1 : ys.length ≤ 60) (h2 : inB now 0 1000000000 = true) (h3 : allR ys = true) : rcF ys now = false := by simp [rcF, h1, h2, h3]

theorem tOk_all {xs ys : List Upd} (h : tOk xs ys = true) : allR ys = true := by
 unfold tOk tpre at h; simp at h; exact h.1.2

end M1
