/-
  Texts of one proof, joined: Math16, AppU.
-/
import Derived.Test.YtdpeopmbboogaaaZLongest04
import Derived.Test.YtdpeopmbboogaaaZLongest03
import Derived.Test.YtdpeopmbboogaaaZLongest18
namespace M1
abbrev sah (a b : Upd) : Bool := aheadB a.sw a.sc a.sr b.sw b.sc b.sr
abbrev idlt (a b : Upd) : Prop := a.id < b.id

/-- u put where its number belongs; in the place of the one that bears its number when its stamp is ahead. -/
def putS : List Upd → Upd → List Upd
  | [], u => [u]
  | x :: t, u => if x.id < u.id then x :: putS t u else if x.id = u.id then (if sah x u = true then u :: t else x :: t) else u :: x :: t
/-- The spans' updates of that trace among the first k. -/
def spTo (us : List Upd) (tr : Int) : Nat → List Upd
  | 0 => []
  | k + 1 => if (up us k).k = 1 ∧ (up us k).tr = tr then putS (spTo us tr k) (up us k) else spTo us tr k
/-- The same in a map by number: a new one behind all, another one in its place. -/
def mpS : List Upd → Upd → List Upd
  | [], u => [u]
  | x :: t, u => if x.id = u.id then (if sah x u = true then u :: t else x :: t) else x :: mpS t u
def mpTo (us : List Upd) (tr : Int) : Nat → List Upd
  | 0 => []
  | k + 1 => if (up us k).k = 1 ∧ (up us k).tr = tr then mpS (mpTo us tr k) (up us k) else mpTo us tr k

theorem putS_mem {u x : Upd} : ∀ {bs : List Upd}, x ∈ putS bs u → x ∈ bs ∨ x = u
  | [], h => by simp [putS] at h; exact Or.inr h
  | y :: t, h => by
    unfold putS at h
    split at h
    · rcases List.mem_cons.1 h with h | h
      · exact Or.inl (by simp [h])
      · rcases putS_mem h with h | h
        · exact Or.inl (by simp [h])
        · exact Or.inr h
    · split at h
      · split at h
        · rcases List.mem_cons.1 h with h | h
          · exact Or.inr h
          · exact Or.inl (by simp [h])
        · exact Or.inl h
      · rcases List.mem_cons.1 h with h | h
        · exact Or.inr h
        · exact Or.inl h
theorem putS_len {u : Upd} : ∀ bs : List Upd, (putS bs u).length ≤ bs.length + 1
  | [] => by simp [putS]
  | y :: t => by
    have := putS_len (u := u) t
    unfold putS
    split
    · simp; omega
    · split
      · split <;> simp
      · simp
theorem putS_sorted {u : Upd} : ∀ {bs : List Upd}, bs.Pairwise idlt → (putS bs u).Pairwise idlt
  | [], _ => by simp [putS]
  | y :: t, h => by
    rw [List.pairwise_cons] at h
    unfold putS
    split
    · rename_i hy
      rw [List.pairwise_cons]
      refine ⟨fun z hz => ?_, putS_sorted h.2⟩
      rcases putS_mem hz with hz | hz
      · exact h.1 z hz
      · rw [hz]; exact hy
    · rename_i hy
      split
      · rename_i he
        split
        · rw [List.pairwise_cons]
          exact ⟨fun z hz => by have := h.1 z hz; unfold idlt at *; omega, h.2⟩
        · rw [List.pairwise_cons]; exact h
      · rename_i he
        rw [List.pairwise_cons, List.pairwise_cons]
        refine ⟨fun z hz => ?_, h⟩
        rcases List.mem_cons.1 hz with hz | hz
        · subst hz; unfold idlt; omega
        · have := h.1 z hz; unfold idlt at *; omega
theorem spTo_sorted (us : List Upd) (tr : Int) : ∀ k, (spTo us tr k).Pairwise idlt
  | 0 => List.Pairwise.nil
  | k + 1 => by
    unfold spTo
    split
    · exact putS_sorted (spTo_sorted us tr k)
    · exact spTo_sorted us tr k
theorem spTo_len (us : List Upd) (tr : Int) : ∀ k, (spTo us tr k).length ≤ k
  | 0 => Nat.le_refl _
  | k + 1 => by
    have := spTo_len us tr k
    unfold spTo
    split
    · exact Nat.le_trans (putS_len _) (by omega)
    · omega
theorem spTo_mem {us : List Upd} {tr : Int} {x : Upd} : ∀ {k : Nat}, x ∈ spTo us tr k → ∃ j, j < k ∧ x = up us j
  | 0, h => by cases h
  | k + 1, h => by
    unfold spTo at h
    split at h
    · rcases putS_mem h with h | h
      · obtain ⟨j, hj, e⟩ := spTo_mem h; exact ⟨j, by omega, e⟩
      · exact ⟨k, by omega, h⟩
    · obtain ⟨j, hj, e⟩ := spTo_mem h; exact ⟨j, by omega, e⟩

theorem putS_new {u : Upd} : ∀ {bs : List Upd}, (∀ x, x ∈ bs → ¬ x.id = u.id) → (putS bs u).Perm (u :: bs)
  | [], _ => by simp [putS]
  | y :: t, h => by
    unfold putS
    split
    · exact ((putS_new (bs := t) fun z hz => h z (by simp [hz])).cons y).trans (List.Perm.swap u y t)
    · rw [if_neg (h y (by simp))]
theorem mpS_new {u : Upd} : ∀ {ms : List Upd}, (∀ x, x ∈ ms → ¬ x.id = u.id) → mpS ms u = ms ++ [u]
  | [], _ => rfl
  | y :: t, h => by
    unfold mpS
    rw [if_neg (h y (by simp)), mpS_new (ms := t) fun z hz => h z (by simp [hz])]
    rfl
theorem putS_old {u x : Upd} (hx : x.id = u.id) : ∀ {a b : List Upd}, (∀ z, z ∈ a → z.id < u.id) → putS (a ++ x :: b) u = a ++ (if sah x u = true then u else x) :: b
  | [], b, _ => by
    show putS (x :: b) u = _
    unfold putS
    rw [if_neg (by omega), if_pos hx]
    split <;> rfl
  | y :: a, b, h => by
    show putS (y :: (a ++ x :: b)) u = _
    unfold putS
    rw [if_pos (h y (by simp)), putS_old hx (a := a) fun z hz => h z (by simp [hz])]
    rfl
theorem mpS_old {u x : Upd} (hx : x.id = u.id) : ∀ {a b : List Upd}, (∀ z, z ∈ a → ¬ z.id = u.id) → mpS (a ++ x :: b) u = a ++ (if sah x u = true then u else x) :: b
  | [], b, _ => by
    show mpS (x :: b) u = _
    unfold mpS
    rw [if_pos hx]
    split <;> rfl
  | y :: a, b, h => by
    show mpS (y :: (a ++ x :: b)) u = _
    unfold mpS
    rw [if_neg (h y (by simp)), mpS_old hx (a := a) fun z hz => h z (by simp [hz])]
    rfl
/-- No two of them bear one number. -/
def ids (ms : List Upd) : Prop := ms.Pairwise fun a b => ¬ a.id = b.id
theorem ids_of {bs : List Upd} (h : bs.Pairwise idlt) : ids bs := h.imp fun {a b} (q : a.id < b.id) => by omega
theorem ids_perm {a b : List Upd} (h : a.Perm b) (hb : ids b) : ids a := by
  unfold ids at *
  exact (h.symm.pairwise_iff (fun {x y} q e => q e.symm)).1 hb
theorem mp_step {bs ms : List Upd} {u : Upd} (hs : bs.Pairwise idlt) (hp : ms.Perm bs) : (mpS ms u).Perm (putS bs u) := by
  by_cases h : ∃ x, x ∈ bs ∧ x.id = u.id
  · obtain ⟨x, hx, e⟩ := h
    obtain ⟨a, b, rfl⟩ := List.append_of_mem hx
    obtain ⟨c, d, rfl⟩ := List.append_of_mem (hp.mem_iff.2 hx)
    have h1 : ∀ z, z ∈ a → z.id < u.id := fun z hz => by
      have := (List.pairwise_append.1 hs).2.2 z hz x (by simp)
      unfold idlt at this; omega
    have h2 : ∀ z, z ∈ c → ¬ z.id = u.id := fun z hz => by
      have hi := ids_perm hp (ids_of hs)
      have := (List.pairwise_append.1 hi).2.2 z hz x (by simp)
      omega
    rw [putS_old e h1, mpS_old e h2]
    have q : (c ++ d).Perm (a ++ b) := by
      have q1 : (x :: (c ++ d)).Perm (c ++ x :: d) := List.perm_middle.symm
      have q2 : (x :: (a ++ b)).Perm (a ++ x :: b) := List.perm_middle.symm
      exact (q1.trans (hp.trans q2.symm)).cons_inv
    exact List.perm_middle.trans ((q.cons _).trans List.perm_middle.symm)
  · have h1 : ∀ x, x ∈ bs → ¬ x.id = u.id := fun x hx e => h ⟨x, hx, e⟩
    have h2 : ∀ x, x ∈ ms → ¬ x.id = u.id := fun x hx e => h ⟨x, hp.mem_iff.1 hx, e⟩
    rw [mpS_new h2]
    exact (List.perm_append_comm.trans (hp.cons u)).trans (putS_new h1).symm
theorem mp_all (us : List Upd) (tr : Int) : ∀ k, (mpTo us tr k).Perm (spTo us tr k)
  | 0 => List.Perm.refl _
  | k + 1 => by
    unfold mpTo spTo
    split
    · exact mp_step (spTo_sorted us tr k) (mp_all us tr k)
    · exact mp_all us tr k
theorem id_unique : ∀ {a b : List Upd}, a.Pairwise idlt → b.Pairwise idlt → a.Perm b → a = b
  | [], b, _, _, h => (List.perm_nil.1 h.symm).symm
  | x :: a, [], _, _, h => by simp at h
  | x :: a, y :: b, ha, hb, h => by
    rw [List.pairwise_cons] at ha hb
    have hx : x = y := by
      rcases List.mem_cons.1 (h.mem_iff.1 (List.mem_cons_self (a := x) (l := a))) with e | e
      · exact e
      · rcases List.mem_cons.1 (h.mem_iff.2 (List.mem_cons_self (a := y) (l := b))) with e' | e'
        · exact e'.symm
        · have h1 := hb.1 x e
          have h2 := ha.1 y e'
          unfold idlt at *
          omega
    subst hx
    rw [id_unique ha.2 hb.2 (List.Perm.cons_inv h)]

/-- r is bs with u: as the model finds the place. -/
def PutB (bs : List Upd) (u : Upd) (r : List Upd) : Prop := ∃ k, k ≤ bs.length ∧ (∀ j, j < k → (up bs j).id < u.id) ∧
  ((k < bs.length ∧ (up bs k).id = u.id ∧ r = (if sah (up bs k) u = true then bs.set k u else bs)) ∨ ((k = bs.length ∨ u.id < (up bs k).id) ∧ r = (bs.take k ++ [u]) ++ bs.drop k))
theorem putB_is : ∀ {bs : List Upd} {u : Upd} {r : List Upd}, PutB bs u r → r = putS bs u
  | [], u, r, ⟨k, hk, _, h⟩ => by
    have h0 : k = 0 := by simpa using hk
    subst h0
    rcases h with ⟨h1, _⟩ | ⟨_, e⟩
    · simp at h1
    · simpa [putS] using e
  | x :: t, u, r, ⟨k, hk, hlo, h⟩ => by
    cases k with
    | zero =>
      unfold putS
      rcases h with ⟨_, h2, e⟩ | ⟨h2, e⟩
      · have h2' : x.id = u.id := h2
        rw [if_neg (by omega), if_pos h2', e]
        show (if sah x u = true then _ else _) = _
        split <;> rfl
      · rcases h2 with h2 | h2
        · simp at h2
        · have h2' : u.id < x.id := h2
          rw [if_neg (by omega), if_neg (by omega), e]
          rfl
    | succ k =>
      have hx : x.id < u.id := hlo 0 (by omega)
      unfold putS
      rw [if_pos hx]
      have ih := putB_is (bs := t) (u := u) (r := r.tail) ⟨k, by simp at hk; omega, fun j hj => hlo (j + 1) (by omega), by
        rcases h with ⟨h1, h2, e⟩ | ⟨h2, e⟩
        · refine Or.inl ⟨by simp at h1; omega, h2, ?_⟩
          rw [e]
          show (if sah (up t k) u = true then _ else _ : List Upd).tail = _
          split <;> rfl
        · refine Or.inr ⟨h2.imp (fun q => by simp at q; omega) (fun q => q), ?_⟩
          rw [e]; rfl⟩
      rw [← ih]
      rcases h with ⟨h1, h2, e⟩ | ⟨h2, e⟩
      · by_cases c : sah (up (x :: t) (k + 1)) u = true
        · rw [e, if_pos c]; rfl
        · rw [e, if_neg c]; rfl
      · rw [e]; rfl
end M1

namespace Go.Proofs.Ytdpeopmbboogaaa
open Go.ChangeShapes Go.WideShapes Go.ChangeAt Go.RowKit
set_option linter.unusedSimpArgs false
set_option linter.unusedVariables false

theorem wpList_appU {w : World} {ops : Array Oper} {rest : List Oper} {o : Oper} {a : Act} {Q : Exit → Act → World → Prop} (hw : Region.wanted o (yielded ops a.tmps) = true) (s x : Operand)
    (ho : o.op = .call { callee := .builtin .append, args := #[s, x], argTypes := #[24, 24] })
    (base : Nat) (xv : Option Addr) (xc n : Nat) (ns : List M1.Upd) (hn : ns.length = n) (hs : a.eval s = .slice xv n xc) (hown : w.ownsRow base 63 13 (.slice xv n xc) n (ucL ns))
    (yv : Option Addr) (m yc : Nat) (ys : List M1.Upd) (hx : a.eval x = .slice yv m yc) (hy : IsUpds w yv m yc ys) (hlen : n + m ≤ 1000000) (hbase : base ≤ w.heap.size)
    (h : ∀ av cap w', w'.ownsRow base 63 13 (.slice av (n + m) cap) (n + m) (ucL (ns ++ ys)) → Below base w w' → wpList Try.prog ops Q rest (a.put o.dst (.slice av (n + m) cap)) w') : wpList Try.prog ops Q (o :: rest) a w := by
  obtain ⟨ti, hi1, hi2, hi3, hi4⟩ := infoUpd
  refine wpList_step fun K hK => ?_
  rw [if_pos hw]
  by_cases hm0 : m = 0
  · subst hm0
    have hys : ys = [] := List.eq_nil_of_length_eq_zero hy.hlen
    subst hys
    have hrun := run_append_zero (P := Try.prog) (w := w) base 24 o.type 63 ti 13 Try.underlying24 hi1 (.slice xv n xc) n (ucL ns) hown yv yc
    unfold Oper.wp
    simp [execOp, ho, resolve, invoke, builtin, hs, hx, hrun, Result.andThen]
    refine hK _ _ (h xv xc w ?_ (Below.refl _ _))
    simpa using hown
  · rcases hy.hlies with h0 | ⟨b, off, rfl, hb, hc⟩
    · exact absurd h0 hm0
    have hnews : ∀ j u, (ucL ys)[j]? = some u → w.cell? ((⟨b, off, none⟩ : Addr).add j) = some u := by
      have := ucL_take_cells (w := w) (b := b) (off := off) (n := m) (us := ys) hc hy.hlen 0 m (by omega)
      have e : (ys.drop 0).take m = ys := by rw [List.drop_zero, ← hy.hlen, List.take_length]
      rw [e] at this
      simpa using this
    refine wp_append_lies w s x 24 ho base 63 ti _ 13 112 Try.underlying24 hi1 hi2 hi3 hi4 rfl (by omega) (.slice xv n xc) n (ucL ns) hs hown ⟨b, off, none⟩ m yc (ucL ys) hx (by rw [ucL_len, hy.hlen]) hnews (ucL_one ys) (by omega) (by unfold maxLen; omega) (by omega) hbase _ rfl ?_
    intro g cap w' hown' hgrow hat hlt
    refine hK _ _ (h _ _ _ ?_ ?_)
    · rw [ucL_app]; exact hown'
    · exact (Below.refl base w).grown hgrow hbase (owns_base hown)
end Go.Proofs.Ytdpeopmbboogaaa
