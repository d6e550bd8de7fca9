/-
  Texts of one proof, joined: Math8, Math13.
-/
import Derived.Test.YtgcinolbkllkkaaGreatZXWorldOk00
import Derived.Test.YtgcinolbkllkkaaGreatZXWorldOk16
import Derived.Test.YtgcinolbkllkkaaGreatZXWorldOk18
namespace M1
theorem toList_len (s : ByteArray) : s.toList.length = s.size := by
 have key : ∀ (n i : Nat) (r : List UInt8), s.size - i = n → (ByteArray.toList.loop s i r).length = r.length + n := by
  intro n
  induction n with
  | zero => intro i r h; unfold ByteArray.toList.loop; rw [if_neg (by omega)]; simp
  | succ n ih => intro i r h; unfold ByteArray.toList.loop; rw [if_pos (by omega), ih (i + 1) _ (by omega)]; simp; omega
 have := key s.size 0 [] (by omega)
 simpa [ByteArray.toList] using this

theorem ok_txt {u : Upd} (h : okU u = true) : u.s.size ≤ 12 := by
 unfold okU updB kindB at h
 rw [Bool.and_eq_true] at h
 have h2 := h.2
 by_cases k1 : u.k = 1
 ·rw [if_pos k1] at h2
  simp [spanB, nameB] at h2
  exact h2.1.1.1.2.1.2
 ·rw [if_neg k1] at h2
  have key : zeroB u.id u.pa u.s u.st u.en = true → u.s.size ≤ 12 := by
   intro hz
   simp [zeroB] at hz
   have h3 := toList_len u.s
   rw [hz.1.1.2] at h3
   simp at h3
   omega
  by_cases k2 : u.k = 2
  ·rw [if_pos k2] at h2; simp at h2; exact key h2.1
  ·rw [if_neg k2] at h2
   by_cases k3 : u.k = 3
   ·rw [if_pos k3] at h2; simp at h2; exact key h2.1
   ·rw [if_neg k3] at h2; cases h2

end M1

namespace M1
abbrev dd (a b : Upd) : Prop := dahead a.dr a.dn b.dr b.dn = true

theorem dd_iff {a b : Upd} : dd a b ↔ a.dr < b.dr ∨ (a.dr = b.dr ∧ a.dn < b.dn) := by simp [dd, dahead]

theorem dd_trans {a b c : Upd} (h1 : dd a b) (h2 : dd b c) : dd a c := by rw [dd_iff] at *; omega

theorem dd_irr {a b : Upd} (h : dd a b) : ¬ (a.dr = b.dr ∧ a.dn = b.dn) := by rw [dd_iff] at h; omega

theorem dd_tot {a b : Upd} (h : ¬ (a.dr = b.dr ∧ a.dn = b.dn)) (h2 : dahead b.dr b.dn a.dr a.dn = false) : dd a b := by
 rw [dd_iff]
 simp [dahead] at h2
 omega

def insD : List Upd → Upd → List Upd
 | [], u => [u]
 | x :: t, u => if dahead x.dr x.dn u.dr u.dn = true then x :: insD t u else if x.dr = u.dr ∧ x.dn = u.dn then x :: t else u :: x :: t

theorem putR_ins : ∀ {us : List Upd} {u : Upd} {ns : List Upd}, PutR us u ns → ns = insD us u
 | [], u, ns, h => by
  obtain ⟨k, hk, _, _, ⟨h1, _⟩ | ⟨_, e⟩⟩ := h
  ·simp at h1
  ·simp at hk; subst hk; simpa [insD] using e
 | x :: t, u, ns, h => by
  obtain ⟨k, hk, hlo, hhi, hr⟩ := h
  unfold insD
  cases k with
  | zero =>
   have hx : dahead x.dr x.dn u.dr u.dn = false := by
    rcases hhi with e | e
    ·simp at e
    ·exact e
   rw [if_neg (by rw [hx]; simp)]
   rcases hr with ⟨_, h1, h2, e⟩ | ⟨h1, e⟩
   ·have h1' : x.dr = u.dr := h1
    have h2' : x.dn = u.dn := h2
    rw [if_pos ⟨h1', h2'⟩, e]; simp
   ·have : ¬ (x.dr = u.dr ∧ x.dn = u.dn) := fun q => h1 ⟨by simp, q.1, q.2⟩
    rw [if_neg this, e]; simp
  | succ k =>
   have hx : dahead x.dr x.dn u.dr u.dn = true := hlo 0 (by omega)
   rw [if_pos hx]
   have ih := putR_ins (us := t) (u := u) (ns := ns.tail) ⟨k, by simp at hk; omega, fun j hj => hlo (j + 1) (by omega), hhi.imp (fun e => by simp at e; omega) (fun e => e), by
    rcases hr with ⟨h0, h1, h2, e⟩ | ⟨h1, e⟩
    ·exact Or.inl ⟨by simp at h0; omega, h1, h2, by rw [e]; simp⟩
    ·exact Or.inr ⟨fun q => h1 ⟨by simp; omega, q.2⟩, by rw [e]; simp⟩⟩
   rw [← ih]
   rcases hr with ⟨_, _, _, e⟩ | ⟨_, e⟩ <;> (rw [e]; simp)

theorem insD_mem {u x : Upd} : ∀ {us : List Upd}, x ∈ insD us u → x ∈ us ∨ x = u
 | [], h => by simp [insD] at h; exact Or.inr h
 | y :: t, h => by
  unfold insD at h
  split at h
  ·rcases List.mem_cons.1 h with h | h
   ·exact Or.inl (by simp [h])
   ·rcases insD_mem h with h | h
    ·exact Or.inl (by simp [h])
    ·exact Or.inr h
  ·split at h
   ·exact Or.inl h
   ·rcases List.mem_cons.1 h with h | h
    ·exact Or.inr h
    ·exact Or.inl h

theorem insD_sorted {u : Upd} : ∀ {us : List Upd}, us.Pairwise dd → (insD us u).Pairwise dd
 | [], _ => by simp [insD]
 | x :: t, h => by
  rw [List.pairwise_cons] at h
  unfold insD
  split
  ·rename_i hx
   rw [List.pairwise_cons]
   refine ⟨fun y hy => ?_, insD_sorted h.2⟩
   rcases insD_mem hy with hy | hy
   ·exact h.1 y hy
   ·rw [hy]; exact hx
  ·rename_i hx
   split
   ·rw [List.pairwise_cons]; exact h
   ·rename_i hne
    rw [List.pairwise_cons, List.pairwise_cons]
    have hux : dd u x := dd_tot (fun q => hne ⟨q.1.symm, q.2.symm⟩) (by simpa using hx)
    refine ⟨fun y hy => ?_, h⟩
    rcases List.mem_cons.1 hy with hy | hy
    ·rw [hy]; exact hux
    ·exact dd_trans hux (h.1 y hy)

theorem insD_there {u : Upd} : ∀ {us : List Upd}, us.Pairwise dd → (∃ x ∈ us, x.dr = u.dr ∧ x.dn = u.dn) → insD us u = us
 | [], _, ⟨x, hx, _⟩ => by cases hx
 | x :: t, h, ⟨y, hy, he⟩ => by
  rw [List.pairwise_cons] at h
  unfold insD
  rcases List.mem_cons.1 hy with e | e
  ·subst e
   have : ¬ dahead y.dr y.dn u.dr u.dn = true := fun q => dd_irr (a := y) (b := u) q he
   rw [if_neg this, if_pos he]
  ·have hxy := h.1 y e
   have hxu : dahead x.dr x.dn u.dr u.dn = true := by
    have := dd_iff.1 hxy
    exact dd_iff.2 (by omega)
   rw [if_pos hxu, insD_there h.2 ⟨y, e, he⟩]

theorem insD_new {u : Upd} : ∀ {us : List Upd}, (∀ x ∈ us, ¬ (x.dr = u.dr ∧ x.dn = u.dn)) → (insD us u).Perm (u :: us)
 | [], _ => by simp [insD]
 | x :: t, h => by
  unfold insD
  split
  ·exact ((insD_new (us := t) fun y hy => h y (by simp [hy])).cons x).trans (List.Perm.swap u x t)
  ·rw [if_neg (h x (by simp))]

def jlTo (xs ys : List Upd) : Nat → List Upd
 | 0 => xs
 | k + 1 => insD (jlTo xs ys k) (up ys k)

theorem fd_mem {vs : List Upd} {r n : Int} : (fd vs r n).isSome = true ↔ ∃ x ∈ vs, x.dr = r ∧ x.dn = n := by
 induction vs with
 | nil => simp [fd]
 | cons v vs ih =>
  unfold fd
  by_cases c : v.dr = r ∧ v.dn = n
  ·rw [if_pos c]; simp [c]
  ·rw [if_neg c, ih]
   constructor
   ·rintro ⟨x, hx, e⟩; exact ⟨x, by simp [hx], e⟩
   ·rintro ⟨x, hx, e⟩
    rcases List.mem_cons.1 hx with h | h
    ·subst h; exact absurd e c
    ·exact ⟨x, h, e⟩

theorem jl_step {us vs : List Upd} {u : Upd} (hs : us.Pairwise dd) (hp : vs.Perm us) : (insD us u).Pairwise dd ∧ (putL vs u).Perm (insD us u) := by
 refine ⟨insD_sorted hs, ?_⟩
 by_cases h : ∃ x ∈ us, x.dr = u.dr ∧ x.dn = u.dn
 ·rw [insD_there hs h]
  have : (fd vs u.dr u.dn).isSome = true := fd_mem.2 (by
   obtain ⟨x, hx, e⟩ := h
   exact ⟨x, hp.mem_iff.2 hx, e⟩)
  unfold putL
  rw [if_pos this]; exact hp
 ·have hn : ¬ (fd vs u.dr u.dn).isSome = true := fun q => by
   obtain ⟨x, hx, e⟩ := fd_mem.1 q
   exact h ⟨x, hp.mem_iff.1 hx, e⟩
  unfold putL
  rw [if_neg hn]
  have h2 := insD_new (us := us) (u := u) fun x hx e => h ⟨x, hx, e⟩
  exact (List.perm_append_comm.trans ((hp.cons u))).trans h2.symm

theorem jl_all {xs ys : List Upd} (hs : xs.Pairwise dd) : ∀ k, (jlTo xs ys k).Pairwise dd ∧ (putsTo xs ys k).Perm (jlTo xs ys k)
 | 0 => ⟨hs, List.Perm.refl _⟩
 | k + 1 => by
  have ih := jl_all (ys := ys) hs k
  exact jl_step ih.1 ih.2

theorem ok_sorted {us : List Upd} (h : ∀ j, j < us.length → okAt us j = true) : us.Pairwise dd := by
 rw [List.pairwise_iff_getElem]
 have key : ∀ j i, i < j → j < us.length → dd (up us i) (up us j) := by
  intro j
  induction j with
  | zero => intro i hi; omega
  | succ j ih =>
   intro i hi hj
   have hstep : dd (up us j) (up us (j + 1)) := by
    have h1 := h (j + 1) hj
    unfold okAt at h1
    rw [Bool.and_eq_true] at h1
    have h2 : fol (up us j) (up us (j + 1)) = true := by simpa using h1.2
    exact dd_iff.2 (fol_ahead h2)
   by_cases e : i = j
   ·rw [e]; exact hstep
   ·exact dd_trans (ih i (by omega) (by omega)) hstep
 intro i j hi hj hij
 have := key j i hij hj
 have ei : up us i = us[i] := by simp [up, List.getD, hi]
 have ej : up us j = us[j] := by simp [up, List.getD, hj]
 rwa [ei, ej] at this

theorem sorted_unique : ∀ {a b : List Upd}, a.Pairwise dd → b.Pairwise dd → a.Perm b → a = b
 | [], b, _, _, h => (List.perm_nil.1 h.symm).symm
 | x :: a, [], _, _, h => by simp at h
 | x :: a, y :: b, ha, hb, h => by
  rw [List.pairwise_cons] at ha hb
  have hx : x = y := by
   rcases List.mem_cons.1 (h.mem_iff.1 (List.mem_cons_self (a := x) (l := a))) with e | e
   ·exact e
   ·rcases List.mem_cons.1 (h.mem_iff.2 (List.mem_cons_self (a := y) (l := b))) with e' | e'
    ·exact e'.symm
    ·have h1 := dd_iff.1 (hb.1 x e)
     have h2 := dd_iff.1 (ha.1 y e')
     omega
  subst hx
  rw [sorted_unique ha.2 hb.2 (List.Perm.cons_inv h)]

theorem told_is {us ns js : List Upd} (hj : js.Pairwise dd) (h1 : us.Perm js) (h2 : ns.Perm us) (h3 : ∀ i j, i < j → j < ns.length → dahead (up ns j).dr (up ns j).dn (up ns i).dr (up ns i).dn = false) : ns = js := by
 have hp : ns.Perm js := h2.trans h1
 refine sorted_unique ?_ hj hp
 have hnd : (js.map fun u => (u.dr, u.dn)).Nodup := by
  rw [List.nodup_iff_pairwise_ne, List.pairwise_map]
  exact hj.imp (fun {a b : Upd} (h : dd a b) (e : (a.dr, a.dn) = (b.dr, b.dn)) => dd_irr h (by simpa using e))
 have hnd2 : (ns.map fun u => (u.dr, u.dn)).Nodup := (hp.map _).nodup_iff.2 hnd
 rw [List.nodup_iff_pairwise_ne, List.pairwise_map, List.pairwise_iff_getElem] at hnd2
 rw [List.pairwise_iff_getElem]
 intro i j hi hj' hij
 have := h3 i j hij hj'
 have ei : up ns i = ns[i] := by simp [up, List.getD, hi]
 have ej : up ns j = ns[j] := by simp [up, List.getD, hj']
 rw [ei, ej] at this
 exact dd_tot (fun e => hnd2 i j hi hj' hij (by simp [e.1, e.2])) this

theorem ueq_eq {a b : Upd} (h : ueq a b = true) : a = b := by
 simp [ueq] at h
 obtain ⟨h1, h2, h3, h4, h5, h6, h7, h8, h9, h10, h11, h12, h13⟩ := h
 exact upd_ext h1 h2 h3 h4 h5 h6 h7 h8 h9 (by
  have e : ∀ x y : ByteArray, x.toList = y.toList → x = y := fun x y q => by
   rw [Go.ByteArray.toList_eq, Go.ByteArray.toList_eq] at q
   exact Go.WideShapes.bytes_inj q
  exact e _ _ (by simpa using h10)) h11 h12 h13

end M1
