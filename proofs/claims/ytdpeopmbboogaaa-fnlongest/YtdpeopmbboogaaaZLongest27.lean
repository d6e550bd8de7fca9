/-
  Plain mathematics of the forest: the way up from a span to the first root; a circle has a root; who stands below whom.
-/
import Derived.Test.YtdpeopmbboogaaaZLongest26
namespace M1
/-- n steps up. -/
def itr (S : List Upd) : Nat → Upd → Option Upd
  | 0, x => some x
  | n + 1, x => match par S x with
    | none => none
    | some y => itr S n y
theorem itr_succ {S : List Upd} {n : Nat} {x y : Upd} (h : par S x = some y) : itr S (n + 1) x = itr S n y := by
  show (match par S x with | none => none | some y => itr S n y) = _
  rw [h]
theorem itr_none {S : List Upd} {n : Nat} {x : Upd} (h : par S x = none) : itr S (n + 1) x = none := by
  show (match par S x with | none => none | some y => itr S n y) = _
  rw [h]
theorem itr_add {S : List Upd} : ∀ {a b : Nat} {x y : Upd}, itr S a x = some y → itr S (a + b) x = itr S b y
  | 0, b, x, y, h => by
    have h' : x = y := by simpa [itr] using h
    rw [Nat.zero_add, h']
  | a + 1, b, x, y, h => by
    cases e : par S x with
    | none => rw [itr_none e] at h; cases h
    | some z =>
      rw [itr_succ e] at h
      rw [show a + 1 + b = (a + b) + 1 by omega, itr_succ e]
      exact itr_add h
theorem itr_one {S : List Upd} {x : Upd} : itr S 1 x = par S x := by
  cases e : par S x with
  | none => exact itr_none e
  | some y => rw [itr_succ e]; rfl
theorem itr_mem {S : List Upd} : ∀ {n : Nat} {x y : Upd}, x ∈ S → itr S n x = some y → y ∈ S
  | 0, x, y, hx, h => by
    have h' : x = y := by simpa [itr] using h
    rw [← h']; exact hx
  | n + 1, x, y, _, h => by
    cases e : par S x with
    | none => rw [itr_none e] at h; cases h
    | some z => rw [itr_succ e] at h; exact itr_mem (par_mem e) h
theorem itr_back {S : List Upd} {a b : Nat} {x y : Upd} (h : itr S (a + b) x = some y) : ∃ z, itr S a x = some z ∧ itr S b z = some y := by
  cases e : itr S a x with
  | none =>
    exfalso
    have : ∀ (a : Nat) (x : Upd), itr S a x = none → itr S (a + b) x = none := by
      intro a
      induction a with
      | zero => intro x q; cases q
      | succ a ih =>
        intro x q
        cases e2 : par S x with
        | none => rw [show a + 1 + b = (a + b) + 1 by omega]; exact itr_none e2
        | some z =>
          rw [itr_succ e2] at q
          rw [show a + 1 + b = (a + b) + 1 by omega, itr_succ e2]
          exact ih z q
    rw [this a x e] at h; cases h
  | some z => exact ⟨z, rfl, by rw [← itr_add e]; exact h⟩

/-- Who goes up over none with a lesser number, and comes to x's number, meets x. -/
theorem walk_goR {S : List Upd} {x : Upd} : ∀ {n : Nat} {y : Upd}, (∀ m z, m ≤ n → itr S m y = some z → x.id ≤ z.id) → (∃ z, itr S n y = some z ∧ z.id = x.id) → ∃ f, goR S x f (some y) = true
  | 0, y, _, ⟨z, h1, h2⟩ => by
    have h' : y = z := by simpa [itr] using h1
    refine ⟨1, ?_⟩
    unfold goR
    rw [h', if_neg (by omega), if_pos h2]
  | n + 1, y, h, ⟨z, h1, h2⟩ => by
    by_cases c : y.id = x.id
    · refine ⟨1, ?_⟩
      unfold goR
      rw [if_neg (by omega), if_pos c]
    · have hy := h 0 y (by omega) rfl
      cases e : par S y with
      | none => rw [itr_none e] at h1; cases h1
      | some w =>
        rw [itr_succ e] at h1
        obtain ⟨f, hf⟩ := walk_goR (n := n) (y := w) (fun m z hm hz => h (m + 1) z (by omega) (by rw [itr_succ e]; exact hz)) ⟨z, h1, h2⟩
        refine ⟨f + 1, ?_⟩
        unfold goR
        rw [if_neg (by omega), if_neg c, e]
        exact hf
theorem min_at (f : Nat → Int) : ∀ n, ∃ j, j ≤ n ∧ ∀ i, i ≤ n → f j ≤ f i
  | 0 => ⟨0, Nat.le_refl _, fun i hi => by rw [show i = 0 by omega]; exact Int.le_refl _⟩
  | n + 1 => by
    obtain ⟨j, hj, h⟩ := min_at f n
    by_cases c : f (n + 1) < f j
    · refine ⟨n + 1, Nat.le_refl _, fun i hi => ?_⟩
      by_cases e : i = n + 1
      · rw [e]; exact Int.le_refl _
      · have := h i (by omega); omega
    · refine ⟨j, by omega, fun i hi => ?_⟩
      by_cases e : i = n + 1
      · rw [e]; omega
      · exact h i (by omega)
theorem itr_round {S : List Upd} {s : Upd} {n : Nat} (h : itr S (n + 1) s = some s) : ∀ m, ∃ j, j ≤ n ∧ itr S m s = itr S j s := by
  intro m
  induction m using Nat.strongRecOn with
  | ind m ih =>
    by_cases c : m ≤ n
    · exact ⟨m, c, rfl⟩
    · obtain ⟨j, hj, e⟩ := ih (m - (n + 1)) (by omega)
      refine ⟨j, hj, ?_⟩
      have em : itr S m s = itr S ((n + 1) + (m - (n + 1))) s := by rw [show (n + 1) + (m - (n + 1)) = m by omega]
      rw [em, itr_add h]; exact e
/-- A circle has a root. -/
theorem circle {S : List Upd} (hS : S.Pairwise idlt) {s : Upd} (hs : s ∈ S) {n : Nat} (h : itr S (n + 1) s = some s) : ∃ j x, j ≤ n ∧ itr S j s = some x ∧ rootB S x = true := by
  have hall : ∀ m, m ≤ n → ∃ z, itr S m s = some z := fun m hm => by
    obtain ⟨z, h1, _⟩ := itr_back (a := m) (b := n + 1 - m) (by rw [show m + (n + 1 - m) = n + 1 by omega]; exact h)
    exact ⟨z, h1⟩
  obtain ⟨j, hj, hmin⟩ := min_at (fun i => ((itr S i s).getD zeroU).id) n
  obtain ⟨x, hx⟩ := hall j hj
  refine ⟨j, x, hj, hx, ?_⟩
  have hxS := itr_mem hs hx
  have hge : ∀ m z, itr S m x = some z → x.id ≤ z.id := fun m z hz => by
    rw [← itr_add hx] at hz
    obtain ⟨i, hi, e⟩ := itr_round h (j + m)
    rw [e] at hz
    have := hmin i hi
    simp only [hx, hz, Option.getD_some] at this
    exact this
  have hback : itr S (n + 1) x = some x := by
    rw [← itr_add hx, show j + (n + 1) = n + 1 + j by omega, itr_add h, hx]
  unfold rootB
  cases e : par S x with
  | none => rfl
  | some y =>
    rw [itr_succ e] at hback
    obtain ⟨f, hf⟩ := walk_goR (x := x) (n := n) (y := y) (fun m z _ hz => hge (m + 1) z (by rw [itr_succ e]; exact hz)) ⟨x, hback, rfl⟩
    exact goR_enough hS (par_mem e) hf

/-- x stands below s, or is it: up over such as are no roots one comes from x to s in j steps. -/
def Sub (S : List Upd) (s x : Upd) (j : Nat) : Prop := itr S j x = some s ∧ ∀ i y, i < j → itr S i x = some y → rootB S y = false
theorem sub_refl (S : List Upd) (s : Upd) : Sub S s s 0 := ⟨rfl, fun _ _ hi => absurd hi (Nat.not_lt_zero _)⟩
theorem sub_step {S : List Upd} {s k x : Upd} {j : Nat} (h : Sub S k x j) (hp : par S k = some s) (hk : rootB S k = false) : Sub S s x (j + 1) := by
  refine ⟨?_, fun i y hi hy => ?_⟩
  · rw [itr_add h.1, itr_one, hp]
  · by_cases c : i < j
    · exact h.2 i y c hy
    · have : i = j := by omega
      rw [this, h.1] at hy
      injection hy with hy
      rw [← hy]; exact hk
/-- Whose parent is s does not stand above s, when it is no root. -/
theorem no_round {S : List Upd} (hS : S.Pairwise idlt) {s k : Upd} (hs : s ∈ S) (hp : par S k = some s) (hk : rootB S k = false) {j : Nat} : ¬ Sub S k s j := fun h => by
  have hr : itr S (j + 1) s = some s := by rw [itr_add h.1, itr_one, hp]
  obtain ⟨i, x, hi, hx, hroot⟩ := circle hS hs hr
  by_cases c : i < j
  · rw [h.2 i x c hx] at hroot; cases hroot
  · have : i = j := by omega
    rw [this, h.1] at hx
    injection hx with hx
    rw [← hx, hk] at hroot; cases hroot
/-- Of two kids of s that are no roots, nothing stands below both. -/
theorem sub_one {S : List Upd} (hS : S.Pairwise idlt) {s k l x : Upd} (hs : s ∈ S) (hk : par S k = some s) (hl : par S l = some s) (rk : rootB S k = false) (rl : rootB S l = false) {a b : Nat} (h1 : Sub S k x a) (h2 : Sub S l x b) : k = l := by
  have key : ∀ (k l : Upd) (a b : Nat), par S k = some s → par S l = some s → rootB S l = false → Sub S k x a → Sub S l x b → a < b → False := by
    intro k l a b hk hl rl h1 h2 hab
    refine no_round hS hs hl rl (j := b - a - 1) ⟨?_, fun i y hi hy => h2.2 (a + 1 + i) y (by omega) ?_⟩
    · have := h2.1
      rw [show b = a + (b - a) by omega, itr_add h1.1, show b - a = (b - a - 1) + 1 by omega, itr_succ hk] at this
      exact this
    · rw [show a + 1 + i = a + (i + 1) by omega, itr_add h1.1, itr_succ hk]; exact hy
  rcases Nat.lt_trichotomy a b with q | q | q
  · exact (key k l a b hk hl rl h1 h2 q).elim
  · subst q
    have := h1.1.symm.trans h2.1
    injection this
  · exact (key l k b a hl hk rk h2 h1 q).elim
theorem sub_root {S : List Upd} {r q x : Upd} (hr : rootB S r = true) (hq : rootB S q = true) {a b : Nat} (h1 : Sub S r x a) (h2 : Sub S q x b) : r = q ∧ a = b := by
  rcases Nat.lt_trichotomy a b with c | c | c
  · have := h2.2 a r c h1.1; rw [hr] at this; cases this
  · subst c
    have := h1.1.symm.trans h2.1
    injection this with this
    exact ⟨this, rfl⟩
  · have := h1.2 b q c h2.1; rw [hq] at this; cases this
/-- A root that has a parent bears the least number of all above it. -/
theorem root_least {S : List Upd} (hS : S.Pairwise idlt) {r y : Upd} (hrS : r ∈ S) (hr : rootB S r = true) (hp : par S r = some y) : ∀ m z, itr S m r = some z → r.id ≤ z.id := by
  unfold rootB at hr
  rw [hp] at hr
  obtain ⟨l, hl, _⟩ := goR_path hr
  -- the way from y back to r
  have way : ∀ (l : List Upd) (y : Upd), y ∈ S → Pth S r (y :: l) → ∃ n, itr S n y = some r ∧ ∀ m z, m ≤ n → itr S m y = some z → r.id ≤ z.id := by
    intro l
    induction l with
    | nil =>
      intro y hy h
      have e : y = r := id_inj hS hy hrS h
      exact ⟨0, by rw [e]; rfl, fun m z hm hz => by
        have : m = 0 := by omega
        subst this
        have : y = z := by simpa [itr] using hz
        rw [← this, e]; exact Int.le_refl _⟩
    | cons w t ih =>
      intro y hy h
      obtain ⟨n, h1, h2⟩ := ih w (par_mem h.2.1) h.2.2
      refine ⟨n + 1, by rw [itr_succ h.2.1]; exact h1, fun m z hm hz => ?_⟩
      cases m with
      | zero =>
        have : y = z := by simpa [itr] using hz
        rw [← this]; have := h.1; omega
      | succ m => rw [itr_succ h.2.1] at hz; exact h2 m z (by omega) hz
  obtain ⟨n, h1, h2⟩ := way l y (par_mem hp) hl
  have hround : itr S (n + 1) r = some r := by rw [itr_succ hp]; exact h1
  intro m z hz
  obtain ⟨j, hj, e⟩ := itr_round hround m
  rw [e] at hz
  cases j with
  | zero =>
    have : r = z := by simpa [itr] using hz
    rw [← this]; exact Int.le_refl _
  | succ j => rw [itr_succ hp] at hz; exact h2 j z (by omega) hz
/-- A kid of s that is a root is the root that s stands below. -/
theorem kid_root {S : List Upd} (hS : S.Pairwise idlt) {s k r : Upd} (hsS : s ∈ S) (hkS : k ∈ S) (hk : rootB S k = true) (hp : par S k = some s) (hr : rootB S r = true) {d : Nat} (h : Sub S r s d) : k = r := by
  have hk' := hk
  unfold rootB at hk'
  rw [hp] at hk'
  obtain ⟨l, hl, _⟩ := goR_path hk'
  -- k is m steps above s, with greater numbers ahead of it
  have way : ∀ (l : List Upd) (y : Upd), y ∈ S → Pth S k (y :: l) → ∃ m, itr S m y = some k ∧ ∀ i z, i < m → itr S i y = some z → k.id < z.id := by
    intro l
    induction l with
    | nil =>
      intro y hy h
      have e : y = k := id_inj hS hy hkS h
      exact ⟨0, by rw [e]; rfl, fun i z hi => absurd hi (Nat.not_lt_zero _)⟩
    | cons w t ih =>
      intro y hy h
      obtain ⟨n, h1, h2⟩ := ih w (par_mem h.2.1) h.2.2
      refine ⟨n + 1, by rw [itr_succ h.2.1]; exact h1, fun m z hm hz => ?_⟩
      cases m with
      | zero =>
        have : y = z := by simpa [itr] using hz
        rw [← this]; exact h.1
      | succ m => rw [itr_succ h.2.1] at hz; exact h2 m z (by omega) hz
  obtain ⟨m, h1, h2⟩ := way l s hsS hl
  rcases Nat.lt_trichotomy m d with c | c | c
  · have := h.2 m k c h1; rw [hk] at this; cases this
  · subst c
    have := h1.symm.trans h.1
    injection this
  · exfalso
    have hlt := h2 d r c h.1
    have hrest : itr S (m - d) r = some k := by rw [← itr_add h.1, show d + (m - d) = m by omega]; exact h1
    have hrS := itr_mem hsS h.1
    cases e : par S r with
    | none =>
      rw [show m - d = (m - d - 1) + 1 by omega, itr_none e] at hrest; cases hrest
    | some y =>
      have := root_least hS hrS hr e _ _ hrest
      omega
/-- Who stands d steps below a root: d is less than there are spans. -/
theorem sub_deep {S : List Upd} (hS : S.Pairwise idlt) {r x : Upd} (hx : x ∈ S) {d : Nat} (h : Sub S r x d) : d < S.length := by
  have hall : ∀ m, m ≤ d → ∃ z, itr S m x = some z ∧ z ∈ S := fun m hm => by
    obtain ⟨z, h1, _⟩ := itr_back (a := m) (b := d - m) (by rw [show m + (d - m) = d by omega]; exact h.1)
    exact ⟨z, h1, itr_mem hx h1⟩
  have hne : ∀ i j, i < j → j ≤ d → ¬ ((itr S i x).getD zeroU).id = ((itr S j x).getD zeroU).id := fun i j hij hj e => by
    obtain ⟨y, hy, hyS⟩ := hall i (by omega)
    obtain ⟨z, hz, hzS⟩ := hall j hj
    rw [hy, hz] at e
    have eyz : y = z := id_inj hS hyS hzS e
    subst eyz
    have hround : itr S (j - i - 1 + 1) y = some y := by
      rw [← itr_add hy, show i + (j - i - 1 + 1) = j by omega]; exact hz
    obtain ⟨q, u, hq, hu, hroot⟩ := circle hS hyS hround
    rw [← itr_add hy] at hu
    rw [h.2 (i + q) u (by omega) hu] at hroot; cases hroot
  have hnd : ((List.range (d + 1)).map (fun i => ((itr S i x).getD zeroU).id)).Nodup := by
    rw [List.nodup_iff_pairwise_ne, List.pairwise_map]
    refine (List.pairwise_lt_range (n := d + 1)).imp_of_mem (fun {a b} ha hb hab => hne a b hab (by simp at hb; omega))
  have := int_nodup_sub (m := S.map (·.id)) hnd fun i hi => by
    obtain ⟨m, hm, e⟩ := List.mem_map.1 hi
    simp at hm
    obtain ⟨z, hz, hzS⟩ := hall m (by omega)
    rw [hz] at e
    exact List.mem_map.2 ⟨z, hzS, e⟩
  simp at this
  omega
end M1
