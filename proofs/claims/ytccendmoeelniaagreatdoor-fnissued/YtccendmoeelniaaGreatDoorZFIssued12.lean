/-
  Texts of one proof, joined: Math14.
-/
import Derived.Test.YtccendmoeelniaaGreatDoorZFIssued00
import Derived.Test.YtccendmoeelniaaGreatDoorZFIssued11
namespace M1
theorem fm_val {r v : Int} : ∀ {l : List (Int × Int)}, (∃ d ∈ l, d.1 = r) → (∀ d ∈ l, d.1 = r → d.2 = v) → fm l r = v
 | [], ⟨d, hd, _⟩, _ => by cases hd
 | e :: l, ⟨d, hd, he⟩, h => by
  unfold fm
  by_cases c : e.1 = r
  ·rw [if_pos c]; exact h e (by simp) c
  ·rw [if_neg c]
   refine fm_val ?_ fun x hx => h x (by simp [hx])
   rcases List.mem_cons.1 hd with q | q
   ·subst q; exact absurd he c
   ·exact ⟨d, q, he⟩

theorem fm_zero {r : Int} : ∀ {l : List (Int × Int)}, (∀ d ∈ l, ¬ d.1 = r) → fm l r = 0
 | [], _ => rfl
 | e :: l, h => by
  unfold fm
  rw [if_neg (h e (by simp))]
  exact fm_zero fun x hx => h x (by simp [hx])

theorem l3To_mem {us : List Upd} {d : Int × Int} : ∀ {k : Nat}, d ∈ l3To us k → ∃ i, i < k ∧ endAt us i ∧ d = ((up us i).dr, (up us i).dn)
 | 0, h => by cases h
 | k + 1, h => by
  by_cases c : endAt us k
  ·rw [l3To_yes c] at h
   rcases List.mem_append.1 h with h | h
   ·obtain ⟨i, hi, q⟩ := l3To_mem h; exact ⟨i, by omega, q⟩
   ·simp at h; exact ⟨k, by omega, c, h⟩
  ·rw [l3To_no c] at h
   obtain ⟨i, hi, q⟩ := l3To_mem h; exact ⟨i, by omega, q⟩

theorem l3To_has {us : List Upd} {i : Nat} (c : endAt us i) : ∀ {k : Nat}, i < k → ((up us i).dr, (up us i).dn) ∈ l3To us k
 | 0, h => by omega
 | k + 1, h => by
  by_cases e : i = k
  ·subst e; rw [l3To_yes c]; simp
  ·have ih := l3To_has c (k := k) (by omega)
   by_cases c2 : endAt us k
   ·rw [l3To_yes c2]; simp [ih]
   ·rw [l3To_no c2]; exact ih

theorem srt_idx {us : List Upd} (h : us.Pairwise dd) {i j : Nat} (hij : i < j) (hj : j < us.length) : dd (up us i) (up us j) := by
 have := List.pairwise_iff_getElem.1 h i j (by omega) hj hij
 have ei : up us i = us[i] := by simp [up, List.getD, show i < us.length by omega]
 have ej : up us j = us[j] := by simp [up, List.getD, hj]
 rw [ei, ej]; exact this

theorem fm_max {us : List Upd} (h : us.Pairwise dd) {x : Upd} (hx : x ∈ us) (hm : ∀ y ∈ us, y.dr = x.dr → y.dn ≤ x.dn) : fm (l3v us) x.dr = x.dn := by
 obtain ⟨i, hi, e⟩ := mem_up hx
 subst e
 have hend : endAt us i := by
  by_cases c : i + 1 = us.length
  ·exact Or.inl c
  ·refine Or.inr fun e => ?_
   have hj : i + 1 < us.length := by omega
   have h1 := dd_iff.1 (srt_idx h (show i < i + 1 by omega) hj)
   have h2 := hm (up us (i + 1)) (by
    have : up us (i + 1) = us[i + 1] := by simp [up, List.getD, hj]
    rw [this]; exact List.getElem_mem hj) e
   omega
 refine fm_val ⟨_, l3To_has hend hi, rfl⟩ fun d hd he => ?_
 obtain ⟨j, hj, hje, rfl⟩ := l3To_mem hd
 have he' : (up us j).dr = (up us i).dr := he
 show (up us j).dn = (up us i).dn
 by_cases c1 : j < i
 ·exfalso
  rcases hje with q | q
  ·omega
  ·have h1 := dd_iff.1 (srt_idx h (show j < j + 1 by omega) (by omega))
   by_cases c2 : j + 1 = i
   ·rw [c2] at q; exact q he'.symm
   ·have h2 := dd_iff.1 (srt_idx h (show j + 1 < i by omega) hi)
    omega
 ·by_cases c2 : i < j
  ·have h1 := dd_iff.1 (srt_idx h c2 hj)
   have h2 := hm (up us j) (by
    have : up us j = us[j] := by simp [up, List.getD, hj]
    rw [this]; exact List.getElem_mem hj) he'
   omega
  ·have : i = j := by omega
   rw [this]

theorem fm_out {us : List Upd} {r : Int} (h : ∀ x ∈ us, ¬ x.dr = r) : fm (l3v us) r = 0 := fm_zero fun d hd => by
 obtain ⟨i, hi, _, rfl⟩ := l3To_mem hd
 refine h (up us i) ?_
 have : up us i = us[i] := by simp [up, List.getD, hi]
 rw [this]; exact List.getElem_mem hi

structure LInv (L : Int → Int) (us : List Upd) : Prop where
 el : ∀ x ∈ us, 1 ≤ x.dr ∧ x.dr ≤ 5 ∧ 1 ≤ x.dn ∧ x.dn ≤ L x.dr
 bd : ∀ r, 0 ≤ L r ∧ L r ≤ 1000000
 has : ∀ r, 1 ≤ r → r ≤ 5 → 0 < L r → ∃ x ∈ us, x.dr = r ∧ x.dn = L r

theorem LInv.fm {L : Int → Int} {us : List Upd} (h : LInv L us) (hs : us.Pairwise dd) {r : Int} (h1 : 1 ≤ r) (h5 : r ≤ 5) : M1.fm (l3v us) r = L r := by
 by_cases c : 0 < L r
 ·obtain ⟨x, hx, e1, e2⟩ := h.has r h1 h5 c
  have := fm_max hs hx fun y hy e => by
   have := (h.el y hy).2.2.2
   rw [e, e1] at this; omega
  rw [e1, e2] at this; exact this
 ·have h0 : L r = 0 := by have := (h.bd r).1; omega
  rw [h0]
  exact fm_out fun x hx e => by
   have := h.el x hx
   rw [e] at this
   omega

theorem LInv.put {L : Int → Int} {us : List Upd} (h : LInv L us) {u : Upd} (hu : 1 ≤ u.dr ∧ u.dr ≤ 5 ∧ 1 ≤ u.dn ∧ u.dn ≤ 1000000) (hn : u.dn = L u.dr + 1) : (∀ x ∈ us, ¬ (x.dr = u.dr ∧ x.dn = u.dn)) ∧ LInv (fun r => if r = u.dr then u.dn else L r) (insD us u) := by
 have hnew : ∀ x ∈ us, ¬ (x.dr = u.dr ∧ x.dn = u.dn) := fun x hx e => by
  have := (h.el x hx).2.2.2
  rw [e.1] at this; omega
 refine ⟨hnew, ⟨fun x hx => ?_, fun r => ?_, fun r h1 h5 hr => ?_⟩⟩
 ·rcases insD_mem hx with hx | hx
  ·have q := h.el x hx
   refine ⟨q.1, q.2.1, q.2.2.1, ?_⟩
   by_cases e : x.dr = u.dr
   ·simp only [if_pos e]; have := q.2.2.2; rw [e] at this; omega
   ·simp only [if_neg e]; exact q.2.2.2
  ·subst hx; simp; omega
 ·by_cases e : r = u.dr
  ·simp only [if_pos e]; omega
  ·simp only [if_neg e]; exact h.bd r
 ·have hp := insD_new hnew
  by_cases e : r = u.dr
  ·exact ⟨u, hp.mem_iff.2 (by simp), e.symm, by simp [e]⟩
  ·simp only [if_neg e] at hr ⊢
   obtain ⟨x, hx, q⟩ := h.has r h1 h5 hr
   exact ⟨x, hp.mem_iff.2 (by simp [hx]), q⟩

theorem LInv.start {xs : List Upd} (h : ∀ j, j < xs.length → okAt xs j = true) : LInv (lastN xs xs.length) xs := by
 refine ⟨fun x hx => ?_, fun r => lastN_bd h r _ (Nat.le_refl _), fun r h1 h5 hr => ?_⟩
 ·obtain ⟨i, hi, e⟩ := mem_up hx
  have q := ok_rg h hi
  have g := lastN_ge h xs.length hi (Nat.le_refl _)
  rw [e] at q g
  exact ⟨q.1, q.2.1, q.2.2.1, g⟩
 ·have key : ∀ k, k ≤ xs.length → 0 < lastN xs k r → ∃ x ∈ xs, x.dr = r ∧ x.dn = lastN xs k r := by
   intro k
   induction k with
   | zero => intro _ h; simp [lastN] at h
   | succ k ih =>
    intro hk hpos
    rw [lastN_succ] at hpos ⊢
    by_cases e : (up xs k).dr = r
    ·rw [if_pos e]
     refine ⟨up xs k, ?_, e, rfl⟩
     have : up xs k = xs[k] := by simp [up, List.getD, show k < xs.length by omega]
     rw [this]; exact List.getElem_mem (by omega)
    ·rw [if_neg e] at hpos ⊢; exact ih (by omega) hpos
  exact key _ (Nat.le_refl _) hr

def tkL (xs ys : List Upd) : Nat → Int → Int
 | 0 => lastN xs xs.length
 | k + 1 => if (up ys k).dn = tkL xs ys k (up ys k).dr + 1 then fun r => if r = (up ys k).dr then (up ys k).dn else tkL xs ys k r else tkL xs ys k

def tkO (xs ys : List Upd) : Nat → List Upd
 | 0 => xs
 | k + 1 => if (up ys k).dn = tkL xs ys k (up ys k).dr + 1 then insD (tkO xs ys k) (up ys k) else tkO xs ys k

def tkM (xs ys : List Upd) : Nat → List Upd
 | 0 => xs
 | k + 1 => if (up ys k).dn = tkL xs ys k (up ys k).dr + 1 then putL (tkM xs ys k) (up ys k) else tkM xs ys k

theorem tk_all {xs ys : List Upd} (hx : ∀ j, j < xs.length → okAt xs j = true) (hy : ∀ j, j < ys.length → okU (up ys j) = true) : ∀ k, k ≤ ys.length → (tkO xs ys k).Pairwise dd ∧ (tkM xs ys k).Perm (tkO xs ys k) ∧ LInv (tkL xs ys k) (tkO xs ys k)
 | 0, _ => ⟨ok_sorted hx, List.Perm.refl _, LInv.start hx⟩
 | k + 1, hk => by
  obtain ⟨h1, h2, h3⟩ := tk_all hx hy k (by omega)
  have hd := okU_dot (hy k (by omega))
  by_cases c : (up ys k).dn = tkL xs ys k (up ys k).dr + 1
  ·simp only [tkO, tkM, tkL, if_pos c]
   have q := jl_step (u := up ys k) h1 h2
   exact ⟨q.1, q.2, (h3.put hd c).2⟩
  ·simp only [tkO, tkM, tkL, if_neg c]
   exact ⟨h1, h2, h3⟩

theorem tk_fd {xs ys : List Upd} (hx : ∀ j, j < xs.length → okAt xs j = true) (hy : ∀ j, j < ys.length → okU (up ys j) = true) {k : Nat} (hk : k < ys.length) (c : (up ys k).dn = tkL xs ys k (up ys k).dr + 1) : fd (tkM xs ys k) (up ys k).dr (up ys k).dn = none := by
 obtain ⟨h1, h2, h3⟩ := tk_all hx hy k (by omega)
 have hd := okU_dot (hy k hk)
 have hn := (h3.put hd c).1
 cases e : fd (tkM xs ys k) (up ys k).dr (up ys k).dn with
 | none => rfl
 | some x =>
  have : (fd (tkM xs ys k) (up ys k).dr (up ys k).dn).isSome = true := by rw [e]; rfl
  obtain ⟨y, hy, q⟩ := fd_mem.1 this
  exact absurd q (hn y (h2.mem_iff.1 hy))

theorem tk_mem {xs ys : List Upd} {x : Upd} : ∀ {k : Nat}, x ∈ tkO xs ys k → x ∈ xs ∨ ∃ j, j < k ∧ x = up ys j
 | 0, h => Or.inl h
 | k + 1, h => by
  unfold tkO at h
  split at h
  ·rcases insD_mem h with h | h
   ·rcases tk_mem h with h | ⟨j, hj, e⟩
    ·exact Or.inl h
    ·exact Or.inr ⟨j, by omega, e⟩
   ·exact Or.inr ⟨k, by omega, h⟩
  ·rcases tk_mem h with h | ⟨j, hj, e⟩
   ·exact Or.inl h
   ·exact Or.inr ⟨j, by omega, e⟩

theorem tkM_len {xs ys : List Upd} : ∀ k, (tkM xs ys k).length ≤ xs.length + k
 | 0 => Nat.le_refl _
 | k + 1 => by
  have := tkM_len (xs := xs) (ys := ys) k
  unfold tkM putL
  split
  ·split
   ·omega
   ·simp; omega
  ·omega

def tpre (xs ys : List Upd) : Bool := setOk xs && decide (ys.length ≤ 60) && allR ys

def tO (xs ys : List Upd) : List Upd := tkO xs ys ys.length

def tOk (xs ys : List Upd) : Bool := tpre xs ys && setOk (tO xs ys)

def tL (xs ys : List Upd) : List Upd := if tOk xs ys = true then tO xs ys else []

theorem t_no {xs ys : List Upd} (h : tpre xs ys = false) : tOk xs ys = false ∧ tL xs ys = [] := by
 have : tOk xs ys = false := by unfold tOk; rw [h]; rfl
 exact ⟨this, by unfold tL; rw [this]; rfl⟩

theorem t_not {xs ys : List Upd} (h : setOk (tO xs ys) = false) : tOk xs ys = false ∧ tL xs ys = [] := by
 have : tOk xs ys = false := by unfold tOk; rw [h]; simp
 exact ⟨this, by unfold tL; rw [this]; rfl⟩

theorem t_yes {xs ys : List Upd} (h : tpre xs ys = true) (h2 : setOk (tO xs ys) = true) : tOk xs ys = true ∧ tL xs ys = tO xs ys := by
 have : tOk xs ys = true := by unfold tOk; rw [h, h2]; rfl
 exact ⟨this, by unfold tL; rw [if_pos this]⟩

theorem tpre_true {xs ys : List Upd} (h : tpre xs ys = true) : setOk xs = true ∧ ys.length ≤ 60 ∧ allR ys = true := by
 unfold tpre at h
 simp at h
 exact ⟨h.1.1, h.1.2, h.2⟩

theorem tk_txt {xs ys : List Upd} (h : tpre xs ys = true) {k : Nat} (hk : k ≤ ys.length) {x : Upd} (hx : x ∈ tkO xs ys k) : x.s.size ≤ 12 := by
 obtain ⟨h1, _, h3⟩ := tpre_true h
 rcases tk_mem hx with hm | ⟨j, hj, e⟩
 ·obtain ⟨q, hq, e⟩ := mem_up hm
  have := ok_txt (okAt_ok (setOk_all h1 q hq))
  rwa [e] at this
 ·have := ok_txt (allR_all h3 j (by omega))
  rw [e]; exact this

end M1
