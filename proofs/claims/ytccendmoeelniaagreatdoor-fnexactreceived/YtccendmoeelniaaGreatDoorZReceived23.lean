/-
  Texts of one proof, joined: Math15.
-/
import Derived.Test.YtccendmoeelniaaGreatDoorZReceived22
namespace M1

theorem insD_keeps {u x : Upd} : ∀ {us : List Upd}, x ∈ us → x ∈ insD us u
  | [], h => by cases h
  | y :: t, h => by
    unfold insD
    split
    · rcases List.mem_cons.1 h with h | h
      · simp [h]
      · exact List.mem_cons_of_mem _ (insD_keeps h)
    · split
      · exact h
      · exact List.mem_cons_of_mem _ h
theorem insD_has {u : Upd} : ∀ {us : List Upd}, u ∈ insD us u ∨ ∃ x ∈ us, x.dr = u.dr ∧ x.dn = u.dn
  | [] => Or.inl (by simp [insD])
  | y :: t => by
    unfold insD
    split
    · rcases insD_has (u := u) (us := t) with h | ⟨x, hx, e⟩
      · exact Or.inl (List.mem_cons_of_mem _ h)
      · exact Or.inr ⟨x, List.mem_cons_of_mem _ hx, e⟩
    · split
      · rename_i h; exact Or.inr ⟨y, by simp, h⟩
      · exact Or.inl (by simp)
theorem jlTo_keeps {xs ys : List Upd} {x : Upd} (h : x ∈ xs) : ∀ k, x ∈ jlTo xs ys k
  | 0 => h
  | k + 1 => insD_keeps (jlTo_keeps h k)
theorem jlTo_mem {xs ys : List Upd} {x : Upd} : ∀ {k : Nat}, x ∈ jlTo xs ys k → x ∈ xs ∨ ∃ j, j < k ∧ x = up ys j
  | 0, h => Or.inl h
  | k + 1, h => by
    rcases insD_mem (show x ∈ insD (jlTo xs ys k) (up ys k) from h) with h | h
    · rcases jlTo_mem h with h | ⟨j, hj, e⟩
      · exact Or.inl h
      · exact Or.inr ⟨j, by omega, e⟩
    · exact Or.inr ⟨k, by omega, h⟩

/-- Where two dots are one, the updates are one. -/
def Agr (xs ys : List Upd) : Prop := ∀ x, x ∈ xs → ∀ y, y ∈ ys → x.dr = y.dr → x.dn = y.dn → x = y
theorem Agr.symm {xs ys : List Upd} (h : Agr xs ys) : Agr ys xs := fun y hy x hx e1 e2 => (h x hx y hy e1.symm e2.symm).symm
theorem agr_of {xs ys : List Upd} (h : agreeB xs ys = true) : Agr xs ys := fun x hx y hy e1 e2 => by
  obtain ⟨_, _, h3⟩ := agreeB_true h
  obtain ⟨i, hi, rfl⟩ := mem_up hx
  obtain ⟨j, hj, rfl⟩ := mem_up hy
  exact ueq_eq (h3 j hj i hi ⟨e1, e2⟩)
theorem agr_to {xs ys : List Upd} (h1 : setOk xs = true) (h2 : setOk ys = true) (h : Agr xs ys) : agreeB xs ys = true := by
  have h3 : agreeTo xs ys ys.length := fun k hk i hi e => by
    rw [h _ (up_mem hi) _ (up_mem hk) e.1 e.2]
    simp [ueq]
  unfold agreeB
  rw [h1, h2]
  simpa using h3
theorem agr_self {xs : List Upd} (h : setOk xs = true) : Agr xs xs := fun x hx y hy e1 e2 => by
  obtain ⟨i, hi, rfl⟩ := mem_up hx
  obtain ⟨j, hj, rfl⟩ := mem_up hy
  have ha := ok_apart (setOk_all h)
  rcases Nat.lt_trichotomy i j with q | q | q
  · exact absurd ⟨e1, e2⟩ (ha i j q hj)
  · rw [q]
  · exact absurd ⟨e1.symm, e2.symm⟩ (ha j i q hi)

theorem sorted_mem : ∀ {a b : List Upd}, a.Pairwise dd → b.Pairwise dd → (∀ x, x ∈ a ↔ x ∈ b) → a = b
  | [], [], _, _, _ => rfl
  | [], y :: b, _, _, h => by have := (h y).2 (by simp); cases this
  | x :: a, [], _, _, h => by have := (h x).1 (by simp); cases this
  | x :: a, y :: b, ha, hb, h => by
    rw [List.pairwise_cons] at ha hb
    have hx : x = y := by
      rcases List.mem_cons.1 ((h x).1 (by simp)) with e | e
      · exact e
      · rcases List.mem_cons.1 ((h y).2 (by simp)) with e' | e'
        · exact e'.symm
        · have h1 := dd_iff.1 (hb.1 x e)
          have h2 := dd_iff.1 (ha.1 y e')
          omega
    subst hx
    rw [sorted_mem ha.2 hb.2 fun z => ?_]
    constructor
    · intro q
      rcases List.mem_cons.1 ((h z).1 (List.mem_cons_of_mem _ q)) with e | e
      · subst e; exact absurd ⟨rfl, rfl⟩ (dd_irr (ha.1 z q))
      · exact e
    · intro q
      rcases List.mem_cons.1 ((h z).2 (List.mem_cons_of_mem _ q)) with e | e
      · subst e; exact absurd ⟨rfl, rfl⟩ (dd_irr (hb.1 z q))
      · exact e

theorem jlTo_has {xs ys : List Upd} (h : Agr xs ys) (ha : apart ys) : ∀ k, k ≤ ys.length → ∀ j, j < k → up ys j ∈ jlTo xs ys k
  | 0, _, j, hj => by omega
  | k + 1, hk, j, hj => by
    show up ys j ∈ insD (jlTo xs ys k) (up ys k)
    by_cases e : j = k
    · subst e
      rcases insD_has (u := up ys j) (us := jlTo xs ys j) with q | ⟨x, hx, e1, e2⟩
      · exact q
      · rcases jlTo_mem hx with q | ⟨i, hi, q⟩
        · rw [h x q _ (up_mem (by omega)) e1 e2] at hx
          exact insD_keeps hx
        · subst q; exact absurd ⟨e1, e2⟩ (ha i j hi (by omega))
    · exact insD_keeps (jlTo_has h ha k (by omega) j (by omega))
theorem jl_both {xs ys : List Upd} (h : agreeB xs ys = true) (x : Upd) : x ∈ jl xs ys ↔ x ∈ xs ∨ x ∈ ys := by
  obtain ⟨h1, h2, _⟩ := agreeB_true h
  constructor
  · intro q
    rcases jlTo_mem q with q | ⟨j, hj, e⟩
    · exact Or.inl q
    · subst e; exact Or.inr (up_mem hj)
  · intro q
    rcases q with q | q
    · exact jlTo_keeps q _
    · obtain ⟨j, hj, rfl⟩ := mem_up q
      exact jlTo_has (agr_of h) (ok_apart (setOk_all h2)) _ (Nat.le_refl _) j hj
theorem jl_sorted {xs ys : List Upd} (h : setOk xs = true) : (jl xs ys).Pairwise dd := (jl_all (ok_sorted (setOk_all h)) _).1
theorem agree_comm (xs ys : List Upd) : agreeB ys xs = agreeB xs ys := by
  have key : ∀ a b : List Upd, agreeB a b = true → agreeB b a = true := fun a b h => by
    obtain ⟨h1, h2, _⟩ := agreeB_true h
    exact agr_to h2 h1 (agr_of h).symm
  rw [Bool.eq_iff_iff]
  exact ⟨key _ _, key _ _⟩
theorem jl_comm {xs ys : List Upd} (h : agreeB xs ys = true) : jl ys xs = jl xs ys := by
  have h' := (agree_comm xs ys).trans h
  refine sorted_mem (jl_sorted (agreeB_true h').1) (jl_sorted (agreeB_true h).1) fun x => ?_
  rw [jl_both h, jl_both h']
  exact Or.comm
theorem jOk_true {xs ys : List Upd} (h : jOk xs ys = true) : agreeB xs ys = true ∧ setOk (jl xs ys) = true := by
  unfold jOk at h
  simpa using h
theorem jOk_comm (xs ys : List Upd) : jOk ys xs = jOk xs ys := by
  unfold jOk
  rw [agree_comm]
  cases h : agreeB xs ys with
  | false => rfl
  | true => rw [jl_comm h]
theorem jL_comm (xs ys : List Upd) : jL ys xs = jL xs ys := by
  unfold jL
  rw [jOk_comm]
  split
  · rename_i h; exact jl_comm (jOk_true h).1
  · rfl
theorem jL_mem {xs ys : List Upd} (h : jOk xs ys = true) (x : Upd) : x ∈ jL xs ys ↔ x ∈ xs ∨ x ∈ ys := by
  unfold jL
  rw [if_pos h]
  exact jl_both (jOk_true h).1 x
theorem jL_ok {xs ys : List Upd} (h : jOk xs ys = true) : setOk xs = true ∧ setOk ys = true ∧ setOk (jL xs ys) = true := by
  obtain ⟨h1, h2, _⟩ := agreeB_true (jOk_true h).1
  refine ⟨h1, h2, ?_⟩
  unfold jL
  rw [if_pos h]
  exact (jOk_true h).2
theorem j_sub {xs ys : List Upd} (h : setOk xs = true) (h2 : setOk ys = true) (hs : ∀ y, y ∈ ys → y ∈ xs) : jOk xs ys = true ∧ jL xs ys = xs := by
  have ha : agreeB xs ys = true := agr_to h h2 fun x hx y hy => agr_self h x hx y (hs y hy)
  have he : jl xs ys = xs := sorted_mem (jl_sorted h) (ok_sorted (setOk_all h)) fun x => by
    rw [jl_both ha]; exact ⟨fun q => q.elim id (hs x), Or.inl⟩
  have := j_yes ha (by rw [he]; exact h)
  exact ⟨this.1, this.2.trans he⟩

theorem lastN_join {xs ys J : List Upd} (hx : setOk xs = true) (hy : setOk ys = true) (hJ : setOk J = true) (hm : ∀ x, x ∈ J ↔ x ∈ xs ∨ x ∈ ys) {r : Int} (h1 : 1 ≤ r) (h5 : r ≤ 5) : lastN J J.length r = max (lastN xs xs.length r) (lastN ys ys.length r) := by
  have ix := LInv.start (setOk_all hx)
  have iy := LInv.start (setOk_all hy)
  have iJ := LInv.start (setOk_all hJ)
  have bx := (ix.bd r).1
  have bJ := (iJ.bd r).1
  refine Int.le_antisymm ?_ ?_
  · by_cases c : 0 < lastN J J.length r
    · obtain ⟨x, hx, e1, e2⟩ := iJ.has r h1 h5 c
      rcases (hm x).1 hx with q | q
      · have := (ix.el x q).2.2.2; rw [e1] at this; omega
      · have := (iy.el x q).2.2.2; rw [e1] at this; omega
    · omega
  · have a1 : lastN xs xs.length r ≤ lastN J J.length r := by
      by_cases c : 0 < lastN xs xs.length r
      · obtain ⟨x, hx, e1, e2⟩ := ix.has r h1 h5 c
        have := (iJ.el x ((hm x).2 (Or.inl hx))).2.2.2; rw [e1] at this; omega
      · omega
    have a2 : lastN ys ys.length r ≤ lastN J J.length r := by
      by_cases c : 0 < lastN ys ys.length r
      · obtain ⟨x, hx, e1, e2⟩ := iy.has r h1 h5 c
        have := (iJ.el x ((hm x).2 (Or.inr hx))).2.2.2; rw [e1] at this; omega
      · omega
    omega
theorem vector_join {xs ys J : List Upd} (hx : setOk xs = true) (hy : setOk ys = true) (hJ : setOk J = true) (hm : ∀ x, x ∈ J ↔ x ∈ xs ∨ x ∈ ys) : vectorOf J = joinL (vectorOf xs) (vectorOf ys) := by
  unfold vectorOf
  rw [if_pos hx, if_pos hy, if_pos hJ]
  unfold joinL
  rw [if_pos ⟨vecU_ok (setOk_all hx), vecU_ok (setOk_all hy)⟩]
  show dlTo (lastN J J.length) 5 = _
  refine dlTo_congr 5 fun r h1 h5 => ?_
  rw [vecU_lk (setOk_all hx) h1 h5, vecU_lk (setOk_all hy) h1 h5]
  exact lastN_join hx hy hJ hm h1 h5
theorem in_idx {a b : List Upd} (h : ∀ x, x ∈ a → x ∈ b) : ∀ i, i < a.length → ∃ j, j < b.length ∧ up b j = up a i := fun _ hi => mem_up (h _ (up_mem hi))

theorem tkO_keeps {xs ys : List Upd} {x : Upd} (h : x ∈ xs) : ∀ k, x ∈ tkO xs ys k
  | 0 => h
  | k + 1 => by
    unfold tkO
    split
    · exact insD_keeps (tkO_keeps h k)
    · exact tkO_keeps h k
theorem tk_stay {t xs : List Upd} (ht : setOk t = true) (hs : ∀ x, x ∈ xs → x ∈ t) : ∀ k, k ≤ xs.length → tkO t xs k = t ∧ tkL t xs k = lastN t t.length
  | 0, _ => ⟨rfl, rfl⟩
  | k + 1, hk => by
    obtain ⟨h1, h2⟩ := tk_stay ht hs k (by omega)
    have hm := ((LInv.start (setOk_all ht)).el _ (hs _ (up_mem (show k < xs.length by omega)))).2.2.2
    have c : ¬ (up xs k).dn = tkL t xs k (up xs k).dr + 1 := by rw [h2]; omega
    simp only [tkO, tkL, if_neg c]
    exact ⟨h1, h2⟩
theorem ok_allR {xs : List Upd} (h : setOk xs = true) : allR xs = true := allR_yes fun j hj => okAt_ok (setOk_all h j hj)
theorem t_again {t xs : List Upd} (ht : setOk t = true) (hx : setOk xs = true) (hs : ∀ x, x ∈ xs → x ∈ t) : tOk t xs = true ∧ tL t xs = t := by
  have hp : tpre t xs = true := by
    unfold tpre
    rw [ht, ok_allR hx]
    simp [setOk_len hx]
  have he : tO t xs = t := (tk_stay ht hs _ (Nat.le_refl _)).1
  have := t_yes hp (by rw [he]; exact ht)
  exact ⟨this.1, this.2.trans he⟩
theorem tOk_true {xs ys : List Upd} (h : tOk xs ys = true) : setOk xs = true ∧ ys.length ≤ 60 ∧ setOk (tL xs ys) = true ∧ (∀ x, x ∈ xs → x ∈ tL xs ys) ∧ (∀ x, x ∈ tL xs ys → x ∈ xs ∨ x ∈ ys) := by
  have hL : tL xs ys = tO xs ys := by unfold tL; rw [if_pos h]
  rw [hL]
  unfold tOk at h
  rw [Bool.and_eq_true] at h
  obtain ⟨h1, h2, h3⟩ := tpre_true h.1
  refine ⟨h1, h2, h.2, fun x hx => tkO_keeps hx _, fun x hx => ?_⟩
  rcases tk_mem hx with q | ⟨j, hj, e⟩
  · exact Or.inl q
  · subst e; exact Or.inr (up_mem hj)

theorem lastN_has {us : List Upd} (h : ∀ j, j < us.length → okAt us j = true) {r n : Int} (hn : 1 ≤ n) : ∀ k, k ≤ us.length → n ≤ lastN us k r → ∃ x, x ∈ us ∧ x.dr = r ∧ x.dn = n
  | 0, _, q => by
    have : lastN us 0 r = 0 := rfl
    omega
  | k + 1, hk, q => by
    rw [lastN_succ] at q
    by_cases e : (up us k).dr = r
    · rw [if_pos e] at q
      have hd := next_dn h (show k < us.length by omega)
      rw [e] at hd
      by_cases e2 : n = (up us k).dn
      · exact ⟨up us k, up_mem (by omega), e, e2.symm⟩
      · exact lastN_has h hn k (by omega) (by omega)
    · rw [if_neg e] at q
      exact lastN_has h hn k (by omega) q
theorem tk_join {xs ys : List Upd} (h : agreeB xs ys = true) : ∀ k, k ≤ ys.length → (∀ r, tkL xs ys k r = max (lastN xs xs.length r) (lastN ys k r)) ∧ ∀ j, j < k → up ys j ∈ tkO xs ys k
  | 0, _ => ⟨fun r => by
      have h1 := (lastN_bd (setOk_all (agreeB_true h).1) r _ (Nat.le_refl _)).1
      show lastN xs xs.length r = max (lastN xs xs.length r) 0
      omega, fun j hj => by omega⟩
  | k + 1, hk => by
    obtain ⟨h1, h2, _⟩ := agreeB_true h
    obtain ⟨i1, i2⟩ := tk_join h k (by omega)
    have hd := next_dn (setOk_all h2) (show k < ys.length by omega)
    have hq := i1 (up ys k).dr
    have hu := okU_dot (okAt_ok (setOk_all h2 k (by omega)))
    by_cases c : (up ys k).dn = tkL xs ys k (up ys k).dr + 1
    · simp only [tkO, tkL, if_pos c]
      refine ⟨fun r => ?_, fun j hj => ?_⟩
      · rw [lastN_succ]
        by_cases e : r = (up ys k).dr
        · subst e; rw [if_pos rfl, if_pos rfl]; omega
        · rw [if_neg e, if_neg (fun q => e q.symm)]; exact i1 r
      · by_cases e : j = k
        · subst e
          rcases insD_has (u := up ys j) (us := tkO xs ys j) with q | ⟨x, hx, q⟩
          · exact q
          · have h3 := (tk_all (setOk_all h1) (fun j hj => okAt_ok (setOk_all h2 j hj)) j (by omega)).2.2
            exact absurd q ((h3.put hu c).1 x hx)
        · exact insD_keeps (i2 j (by omega))
    · simp only [tkO, tkL, if_neg c]
      have hge : (up ys k).dn ≤ lastN xs xs.length (up ys k).dr := by omega
      refine ⟨fun r => ?_, fun j hj => ?_⟩
      · rw [lastN_succ]
        by_cases e : (up ys k).dr = r
        · rw [if_pos e, i1 r]; rw [e] at hd hge; omega
        · rw [if_neg e]; exact i1 r
      · by_cases e : j = k
        · subst e
          obtain ⟨x, hx, e1, e2⟩ := lastN_has (setOk_all h1) hu.2.2.1 _ (Nat.le_refl _) hge
          have := agr_of h x hx _ (up_mem (show j < ys.length by omega)) e1 e2
          rw [← this]
          exact tkO_keeps hx _
        · exact i2 j (by omega)
theorem t_join {xs ys : List Upd} (h : jOk xs ys = true) : tOk xs ys = true ∧ tL xs ys = jL xs ys := by
  obtain ⟨ha, hs⟩ := jOk_true h
  obtain ⟨h1, h2, _⟩ := agreeB_true ha
  have hp : tpre xs ys = true := by
    unfold tpre
    rw [h1, ok_allR h2]
    simp [setOk_len h2]
  have he : tO xs ys = jl xs ys := by
    refine sorted_mem (tk_all (setOk_all h1) (fun j hj => okAt_ok (setOk_all h2 j hj)) _ (Nat.le_refl _)).1 (jl_sorted h1) fun x => ?_
    rw [jl_both ha]
    constructor
    · intro q
      rcases tk_mem q with q | ⟨j, hj, e⟩
      · exact Or.inl q
      · subst e; exact Or.inr (up_mem hj)
    · intro q
      rcases q with q | q
      · exact tkO_keeps q _
      · obtain ⟨j, hj, rfl⟩ := mem_up q
        exact (tk_join ha _ (Nat.le_refl _)).2 j hj
  have := t_yes hp (by rw [he]; exact hs)
  refine ⟨this.1, this.2.trans ?_⟩
  rw [he]
  exact (j_yes ha hs).2.symm
end M1
