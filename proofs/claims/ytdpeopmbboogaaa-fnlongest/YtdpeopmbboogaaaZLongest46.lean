/-
  The closure of ForestOf grows the nodes under one span.
-/
import Derived.Test.YtdpeopmbboogaaaZLongest45
import Derived.Test.YtdpeopmbboogaaaZLongest40
namespace Go.Proofs.Ytdpeopmbboogaaa
open Go.ChangeShapes Go.WideShapes Go.ChangeAt Go.RowKit Go.Shelf
set_option linter.unusedSimpArgs false
set_option linter.unusedVariables false
attribute [local go_sem] Oper.semAt_some

theorem sub_kid {S : List M1.Upd} {r s x : M1.Upd} {j : Nat} (h : M1.Sub S r s j) (hp : M1.par S x = some s) (hx : M1.rootB S x = false) : M1.Sub S r x (j + 1) := by
  refine ⟨(M1.itr_succ hp).trans h.1, fun i y hi hy => ?_⟩
  cases i with
  | zero =>
    have e : some x = some y := hy
    injection e with e
    rw [← e]; exact hx
  | succ i =>
    rw [M1.itr_succ hp] at hy
    exact h.2 i y (by omega) hy

theorem growF_len {S : List M1.Upd} (hS : S.Pairwise M1.idlt) {r k : M1.Upd} {d f : Nat} {D : Int} (hr : r ∈ S) (hroot : M1.rootB S r = true) (hk : k ∈ S) (hq : M1.rootB S k = false) (hsub : M1.Sub S r k d) : (M1.growF S f k D).length ≤ S.length := by
  have hp : M1.Pre S r k d [(r, 0)] := by
    refine ⟨hk, hroot, hsub, fun q hq2 => ?_, Or.inr ⟨(r, 0), by simp, rfl⟩⟩
    have e : q = (r, 0) := by simpa using hq2
    subst e
    refine ⟨hr, fun j h => ?_⟩
    cases j with
    | zero =>
      have e : some r = some k := h.1
      injection e with e
      rw [e] at hroot
      rw [hroot] at hq; cases hq
    | succ j =>
      have := h.2 0 r (by omega) rfl
      rw [hroot] at this; cases this
  have h1 := M1.nd_grow hS f (D := D) hp (by simp [M1.idsO])
  have h2 := M1.nd_len h1 fun q hq2 => by
    rcases List.mem_append.1 hq2 with h | h
    · have e : q = (r, 0) := by simpa using h
      rw [e]; exact hr
    · exact (M1.grow_mem hS hk h).1
  simp at h2
  omega
theorem flat_len {S : List M1.Upd} {s : M1.Upd} {m : Nat} (F : M1.Upd → List (M1.Upd × Int)) (h : ∀ k ∈ M1.kids S s, (F k).length ≤ m) : ∀ pre : List { u : M1.Upd // u ∈ M1.kids S s }, (pre.flatMap (fun k => F k.1)).length ≤ pre.length * m
  | [] => by simp
  | k :: t => by
    have h1 := flat_len F h t
    have h2 := h k.1 k.2
    rw [List.flatMap_cons, List.length_append, List.length_cons, Nat.succ_mul]
    omega

set_option maxRecDepth 100000 in
set_option maxHeartbeats 4000000 in
theorem grow_any {base N BS BI BG b m : Nat} {bv : Option Addr} {bc : Nat} {S : List M1.Upd} (hS : S.Pairwise M1.idlt) (hm : Hid (S.length = m)) (hm60 : m ≤ 1000) {r : M1.Upd} (hr : r ∈ S) (hroot : Hid (M1.rootB S r = true)) :
    ∀ (f j : Nat) (s : M1.Upd) (v : Value) (O : List (M1.Upd × Int)) (W : World), f + j = m → s ∈ S → M1.Sub S r s j → O.length + f * (1 + m * m) ≤ 1000000000 → GFix W base N BS BI BG b m bv bc S → GNo W base N v O →
    Calls Try.prog 31 #[.agg #[.int .i64 s.id, .int .i64 s.pa, .string s.s, .int .i64 s.st, .int .i64 s.en], .int .i64 j, .pointer (some ⟨N, 0, none⟩), .pointer (some ⟨BS, 0, none⟩), .pointer (some ⟨BI, 0, none⟩), .pointer (some ⟨BG, 0, none⟩)] W fun e W' => e = .returned (.tuple #[]) ∧ ∃ v', GNo W' base N v' (O ++ M1.growF S f s j) ∧ Trn N v v' W W' := by
  intro f
  induction f with
  | zero =>
    intro j s v O W hfj hs hsub _ _ _
    exfalso
    have := M1.sub_deep hS hs hsub
    rw [hm.out] at this
    omega
  | succ f ih =>
    intro j s v O W hfj hs hsub hroom hfix hno
    obtain ⟨bN, own⟩ := hno
    obtain ⟨va, vc, hve⟩ : ∃ va vc, v = .slice va O.length vc := by
      rcases own.2 with ⟨hv0, hn0⟩ | ⟨g, cap, cur, hv, _⟩
      · exact ⟨none, 0, by rw [hv0, hn0]⟩
      · exact ⟨_, _, hv⟩
    subst hve
    have hb6 : O.length ≤ 1000000000 := by omega
    have hNl := bN.lt
    have cN := bN.cell
    have fN := bN.frozen
    obtain ⟨ti, hi1, hi2, hi3, hi4⟩ := infoN
    have hi4' : Hid (ti.bytes = 56) := hi4
    have hi2' : Hid (ti.zero = some (.agg #[.int .i64 0, .int .i64 0, .string ByteArray.empty, .int .i64 0, .int .i64 0, .int .i64 0])) := hi2
    have hi3' : Hid (ti.size = 6) := hi3
    have hi1' : Hid (Try.prog.info? 36 = some ti) := hi1
    clear hi1 hi2 hi3 hi4
    refine (callsIn_wide (n := 6)).1 ?_
    refine callsIn_of_wp_marks Try.func31 rfl trivial ?_ rfl
    simp only [Try.ntmps31, List.size_toArray, List.length_cons, List.length_nil, Nat.reduceAdd, Nat.reduceSub, Array.replicate_succ, Array.replicate_zero, List.push_toArray, List.append_toArray, List.nil_append, List.cons_append]
    refine wpIn_wide.2 ?_
    have hsz := hfix.size
    have hA : Below W.heap.size W ((W.alloc (.cells #[.int .i64 s.id, .int .i64 s.pa, .string s.s, .int .i64 s.st, .int .i64 s.en] 34)).alloc (.cells #[.int .i64 j] 2)) := ((Below.refl _ _).alloc (Nat.le_refl _) _).alloc (by simp) _
    have bX : SBox ((W.alloc (.cells #[.int .i64 s.id, .int .i64 s.pa, .string s.s, .int .i64 s.st, .int .i64 s.en] 34)).alloc (.cells #[.int .i64 j] 2)) W.heap.size s := (SBox.new W s).same (((Below.refl _ _).alloc (Nat.le_refl _) _).block _ (by simp))
    have bD := Boxed.new (W.alloc (.cells #[.int .i64 s.id, .int .i64 s.pa, .string s.s, .int .i64 s.st, .int .i64 s.en] 34)) 2 (.int .i64 j)
    simp only [World.size_alloc] at bD
    have hz0 : ((W.alloc (.cells #[.int .i64 s.id, .int .i64 s.pa, .string s.s, .int .i64 s.st, .int .i64 s.en] 34)).alloc (.cells #[.int .i64 j] 2)).heap.size = W.heap.size + 2 := by simp
    go_upto_region 1 with fail
    obtain ⟨W0, hW0⟩ : ∃ W0, (W.alloc (.cells #[.int .i64 s.id, .int .i64 s.pa, .string s.s, .int .i64 s.st, .int .i64 s.en] 34)).alloc (.cells #[.int .i64 j] 2) = W0 := ⟨_, rfl⟩
    rw [hW0] at bX bD hA hz0 ⊢
    clear hW0
    have own1 := owns_below own hA
    have bN1 : Boxed W0 N 27 (.slice va O.length vc) := (hA.block N hNl).trans bN
    have fix1 := hfix.same (by omega) (fun k hk _ => hA.block k (by omega))
    obtain ⟨cx0, cx1, cx2, cx3, cx4⟩ := bX.cell
    have cD := bD.cell
    have cN1 := bN1.cell
    have fN1 := bN1.frozen
    have hzG : Hid (W0.heap.size = W.heap.size + 2) := hz0
    have hN0 : N < W0.heap.size := by omega
    have hX0 := bX.lt
    have hD0 := bD.lt
    clear hz0 cN fN
    go_upto_region 2 with (at_builtin; refine wpList_append_lies _ rfl _ _ _ rfl base 36 ti _ 6 56 Try.underlying27 hi1'.out hi2'.out hi3'.out hi4'.out rfl (by omega) (.slice va O.length vc) O.length (nL O) rfl (own1.alloc _) ⟨W0.heap.size, 0, none⟩ 1 1 (ncs (s, (j : Int))) rfl rfl (newsN _ _ _ _ _ _ _ _) (oneN _) (by omega) (by unfold maxLen; omega) (by omega) (by simp; omega) _ rfl ?_; intro g4 cap4 w4 hown4 hgrow4 hat4 hlt4; obtain ⟨bN4, bN5, own5, trn5⟩ := trn_append bN1 own1 hown4 hgrow4 (by intro k e; rcases hat4 with h | h; (left; have e3 : g4 = k := (by simpa [Value.ownBlock] using e); rw [← e3]; exact h); (right; have e3 : g4 = k := (by simpa [Value.ownBlock] using e); rw [← e3]; exact h)); have cN4 := bN4.cell; have fN4 := bN4.frozen)
    obtain ⟨W5, hW5⟩ : ∃ W5, w4.setCell ⟨N, 0, none⟩ (.slice (some ⟨g4, 0, none⟩) (O.length + 1) cap4) = W5 := ⟨_, rfl⟩
    rw [hW5] at bN5 own5 trn5 ⊢
    clear hW5 cN4 fN4 bN4 hown4 hgrow4 hat4 hlt4
    have hXN : ¬ W.heap.size = N := by omega
    have hDN : ¬ W.heap.size + 1 = N := by omega
    have fix5 := fix1.trn trn5 own1
    have bX5 : SBox W5 W.heap.size s := bX.same (trn5.block _ hX0 hXN (bX.not_row own1))
    have bD5 : Boxed W5 (W.heap.size + 1) 2 (.int .i64 j) := (trn5.block _ hD0 hDN (bD.not_row (by decide) own1)).trans bD
    have hz5 := trn5.size
    have trnW : Trn N (.slice va O.length vc) (.slice (some ⟨g4, 0, none⟩) (O.length + 1) cap4) W W5 := (Trn.below hA).trans trn5
    clear cx0 cx1 cx2 cx3 cx4 cD cN1 fN1
    obtain ⟨cx0, cx1, cx2, cx3, cx4⟩ := bX5.cell
    have cD := bD5.cell
    have cS := fix5.bS.cell
    go_wp2_with fail
    refine (callsIn_wide.1 (kidsOf_in Fence.wide 5 trivial rfl _ _ _ _ _)).mono ?_
    rintro e w2 ⟨rfl, rfl⟩
    simp only [World.size_alloc]
    have b0 := (Boxed.new W5 31 (.slice bv m bc)).alloc (.cells #[.int .i64 s.id] 2)
    have b1 := Boxed.new (W5.alloc (.cells #[.slice bv m bc] 31)) 2 (.int .i64 s.id)
    simp only [World.size_alloc] at b0 b1
    have hA6 : Below W5.heap.size W5 ((W5.alloc (.cells #[.slice bv m bc] 31)).alloc (.cells #[.int .i64 s.id] 2)) := ((Below.refl _ _).alloc (Nat.le_refl _) _).alloc (by simp) _
    have hz6 : ((W5.alloc (.cells #[.slice bv m bc] 31)).alloc (.cells #[.int .i64 s.id] 2)).heap.size = W5.heap.size + 2 := by simp
    obtain ⟨W6, hW6⟩ : ∃ W6, (W5.alloc (.cells #[.slice bv m bc] 31)).alloc (.cells #[.int .i64 s.id] 2) = W6 := ⟨_, rfl⟩
    rw [hW6] at b0 b1 hA6 hz6 ⊢
    clear hW6
    go_wp2_with fail
    refine (wpIn_wide (n := 6)).1 ?_
    have hLG : Hid ((M1.bySt S).length = m) := fix5.row.len
    have hKA : KidsAt W6 bv m bc base W5.heap.size s.id (M1.bySt S) := ⟨fix5.row.below (hA6.mono fix5.size), by omega, b0.cell, b1.cell⟩
    have fix6 := fix5.same (by have := fix5.size; omega) (fun k hk _ => hA6.block k (by have := fix5.size; omega))
    have GI0 : GI base N BS BI BG b m bv bc S (W.heap.size + 1) W5.heap.size j s.id (.slice va O.length vc) W W6.heap.size (O ++ [(s, (j : Int))]) W6 := by
      refine ⟨⟨_, ⟨(hA6.block N bN5.lt).trans bN5, ?_⟩, trnW.trans (Trn.below hA6)⟩, fix6, (hA6.block _ bD5.lt).trans bD5, b0, b1, Nat.le_refl _⟩
      have e1 : nL (O ++ [(s, (j : Int))]) = nL O ++ ncs (s, (j : Int)) := by unfold nL; rw [List.flatMap_append]; simp
      have e2 : (O ++ [(s, (j : Int))]).length = O.length + 1 := by simp
      rw [e1, e2]
      exact owns_below own5 hA6
    have hbW := hfix.size
    have hb5 := fix5.size
    have hN5 := bN5.lt
    have hP : ∀ k, k < m → (M1.up (M1.bySt S) k).pa = s.id → M1.up (M1.bySt S) k ∈ M1.kids S s := fun k hk e => by
      unfold M1.kids
      rw [List.mem_filter]
      exact ⟨M1.up_in (by rw [hLG.out]; exact hk), by simpa using e⟩
    refine wpIn_rangeFunc_ownH rfl (by omega) (gf := 58) (lb := #[.pointer (some ⟨W5.heap.size, 0, none⟩), .pointer (some ⟨W5.heap.size + 1, 0, none⟩)]) rfl trivial (enters_of Try.func58 (by kernel_rfl) rfl)
      (kidsOf_stops Fence.wide _ trivial rfl (by omega) W5.heap.size base bv m bc s.id (M1.bySt S) (fun u => u ∈ M1.kids S s) hP W6 hKA (by omega) ?av) kpX_t (kpX_put ?kx) (Below.refl _ _) (fun _ => rfl)
      (fun pre Y => GI base N BS BI BG b m bv bc S (W.heap.size + 1) W5.heap.size j s.id (.slice va O.length vc) W W6.heap.size (O ++ (s, (j : Int)) :: pre.flatMap (fun k => if M1.rootB S k.1 = true then [] else M1.growF S f k.1 ((j : Int) + 1))) Y ∧ pre.length ≤ m)
      (fun _ _ _ => False)
      (fun _ _ _ _ hs hg hr => ⟨hs.1.own (by omega) (by omega) (by omega) (by omega) (by omega) hg hr, hs.2⟩)
      (fun _ _ _ _ _ hs _ _ => hs)
      ⟨GI0, Nat.zero_le _⟩
      (fun x a' Y => ∃ Bx, SBox Y Bx x.1 ∧ a' = { tmps := #[.agg #[.int .i64 s.id, .int .i64 s.pa, .string s.s, .int .i64 s.st, .int .i64 s.en], .int .i64 j, .pointer (some ⟨N, 0, none⟩), .pointer (some ⟨BS, 0, none⟩), .pointer (some ⟨BI, 0, none⟩), .pointer (some ⟨BG, 0, none⟩), .pointer (some ⟨W.heap.size, 0, none⟩), .pointer (some ⟨W.heap.size + 1, 0, none⟩), .pointer (some ⟨Bx, 0, none⟩), .slice va O.length vc, .agg #[.int .i64 s.id, .int .i64 s.pa, .string s.s, .int .i64 s.st, .int .i64 s.en], .int .i64 j, .agg #[.int .i64 s.id, .int .i64 s.pa, .string s.s, .int .i64 s.st, .int .i64 s.en, .int .i64 j], .slice (some ⟨W0.heap.size, 0, none⟩) 1 1, .slice (some ⟨g4, 0, none⟩) (O.length + 1) cap4, .slice bv m bc, .pointer (some ⟨W.heap.size, 0, none⟩), .int .i64 s.id, .func (.func 58) #[] #[.pointer (some ⟨W5.heap.size, 0, none⟩), .pointer (some ⟨W5.heap.size + 1, 0, none⟩)], .agg #[.int .i64 x.1.id, .int .i64 x.1.pa, .string x.1.s, .int .i64 x.1.st, .int .i64 x.1.en], undef, undef, undef, undef, undef, undef, undef, undef, undef], defers := [] })
      (fun x a' _ X Y row hs hg hr => by obtain ⟨Bx, h2, h3⟩ := hs; exact ⟨Bx, sbox_own Bx (fun (_ : Unit) => x.1) () X Y row h2 hg (fun r e => (hr r e).2), h3⟩)
      ?assign ?body ?done ?stop
    case av =>
      intro h0
      exfalso
      have := List.length_pos_of_mem hs
      rw [hm.out] at this
      omega
    case kx =>
      rintro k (rfl | rfl | e)
      · omega
      · omega
      · have := (fix5.far k (Or.inr (Or.inr (Or.inr (Or.inr e))))).1
        omega
    case assign =>
      rintro l pre x Y K ⟨hG, hpl⟩ hK
      gi_wp2
      exact hK _ _ ((KeepsOthers.alloc _ _).from _) (kpX_alloc _ _ _) ⟨hG.below (by omega) ((Below.refl _ _).alloc (Nat.le_refl _) _), hpl⟩ ⟨Y.heap.size, SBox.new Y x.1, rfl⟩
    case body =>
      rintro l pre x a' Y hl ⟨r', hr'⟩ ⟨hG, hpl⟩ ⟨Bx, bXx, rfl⟩ hlt
      obtain ⟨v1, no1, t1⟩ := hG.no
      obtain ⟨y0, y1, y2, y3, y4⟩ := bXx.cell
      have hBxl := bXx.lt
      have cI := hG.fix.bI.cell
      have hxS : x.1 ∈ S := (M1.kids_mem.1 x.2).1
      have hpx : Hid (M1.par S x.1 = some s) := M1.kids_par hS hs x.2
      clear cx0 cx1 cx2 cx3 cx4 cD cS
      gi_wp2_with fail
      refine ⟨trivial, ?_⟩
      refine (CallsIn.inRound l (callsIn_wide.2 (isRoot_any x.1 b m S _ hG.fix.map hm hm60))).mono ?_
      rintro e Y2 ⟨rfl, hb2⟩
      have hG2 := hG.below (by omega) hb2
      have hz2 := hb2.size
      have hKp2 : KpX (kx bv W5.heap.size) Y Y2 := ⟨hz2, fun k _ hk => hb2.block k hk⟩
      have hKF2 : KeepsFrom W6.heap.size Y Y2 := ⟨hz2, fun k o _ hk _ => (hb2.block k (Array.getElem?_eq_some_iff.1 hk).1).trans hk⟩
      have bX2 : SBox Y2 Bx x.1 := bXx.same (hb2.block _ hBxl)
      obtain ⟨z0, z1, z2, z3, z4⟩ := bX2.cell
      have cG2 := hG2.fix.bG.cell
      have cD2 := hG2.deep.cell
      clear y0 y1 y2 y3 y4 cI
      have hj1 : (j : Int) ≤ 1000 := by omega
      have hj0 : (0 : Int) ≤ (j : Int) := by omega
      cases hq : M1.rootB S x.1 with
      | true =>
        have HL : Hid ((pre ++ [x]).flatMap (fun k => if M1.rootB S k.1 = true then [] else M1.growF S f k.1 ((j : Int) + 1)) = pre.flatMap (fun k => if M1.rootB S k.1 = true then [] else M1.growF S f k.1 ((j : Int) + 1))) := (by rw [List.flatMap_append]; simp [hq] : _ = _)
        clear hq
        gi_wp2_with fail
        exact ⟨hKF2, hKp2, by rw [HL.out]; exact hG2, by simp; omega⟩
      | false =>
        have HL : Hid (O ++ (s, (j : Int)) :: (pre ++ [x]).flatMap (fun k => if M1.rootB S k.1 = true then [] else M1.growF S f k.1 ((j : Int) + 1)) = (O ++ (s, (j : Int)) :: pre.flatMap (fun k => if M1.rootB S k.1 = true then [] else M1.growF S f k.1 ((j : Int) + 1))) ++ M1.growF S f x.1 ((j : Int) + 1)) := (by rw [List.flatMap_append]; simp [hq] : _ = _)
        have hsubx := sub_kid hsub hpx.out hq
        have hrm : (O ++ (s, (j : Int)) :: pre.flatMap (fun k => if M1.rootB S k.1 = true then [] else M1.growF S f k.1 ((j : Int) + 1))).length + f * (1 + m * m) ≤ 1000000000 := by
          have q1 := flat_len (S := S) (s := s) (m := m) (fun k => if M1.rootB S k = true then [] else M1.growF S f k ((j : Int) + 1)) (fun k hk => by
            cases hq2 : M1.rootB S k with
            | true => simp
            | false =>
              have := growF_len hS (f := f) (D := (j : Int) + 1) hr hroot.out (M1.kids_mem.1 hk).1 hq2 (sub_kid hsub (M1.kids_par hS hs hk) hq2)
              rw [hm.out] at this
              simpa using this) pre
          have q2 : pre.length * m ≤ m * m := Nat.mul_le_mul_right m hpl
          rw [Nat.succ_mul] at hroom
          rw [List.length_append, List.length_cons]
          omega
        obtain ⟨v2, no2, t2⟩ := hG2.no
        have hcon := ih (j + 1) x.1 v2 _ Y2 (by omega) hxS hsubx hrm hG2.fix no2
        have ecast : ((j + 1 : Nat) : Int) = (j : Int) + 1 := by omega
        rw [ecast] at hcon
        clear hq hrm
        gi_wp2_with fail
        refine ⟨trivial, ?_⟩
        refine (CallsIn.inRound l (callsIn_wide.2 hcon)).mono ?_
        rintro e Y3 ⟨rfl, v3, no3, t3⟩
        obtain ⟨hG3, hKp3, hKF3⟩ := hG2.grown hDN (by omega) (by omega) no2 t2 no3 t3
        gi_wp2_with fail
        exact ⟨hKF2.trans hKF3, kpX_t hKp2 hKp3, by rw [HL.out]; exact hG3, by simp; omega⟩
    case done =>
      rintro D zs Y hD hzs ⟨hG, hpl⟩ hK
      obtain ⟨v', ⟨bNy, ownY⟩, ty⟩ := hG.no
      have HL : Hid (O ++ (s, (j : Int)) :: zs.flatMap (fun k => if M1.rootB S k.1 = true then [] else M1.growF S f k.1 ((j : Int) + 1)) = O ++ M1.growF S (f + 1) s j) := (by
        rw [M1.kTo_all s S m hLG.out] at hzs
        have e1 : zs.flatMap (fun k => if M1.rootB S k.1 = true then [] else M1.growF S f k.1 ((j : Int) + 1)) = (zs.map (·.1)).flatMap (fun k => if M1.rootB S k = true then [] else M1.growF S f k ((j : Int) + 1)) := by rw [List.flatMap_map]
        rw [e1, hzs]; rfl : _ = _)
      rw [HL.out] at ownY
      gi_wp2
      refine ⟨by simp, .inl ⟨_, _, rfl, run_takeDeferred hK, ?_⟩⟩
      refine ⟨_, results_none rfl _ _ _, rfl, v', ⟨(World.putObj_heap_other (by omega)).trans bNy, ownsRow_putObj ownY _ hK rfl⟩, ?_⟩
      exact ⟨ty.env, by simp [World.putObj]; exact ty.size, fun k hk hn ho => (World.putObj_heap_other (by omega)).trans (ty.block k hk hn ho), ty.own⟩
    case stop =>
      rintro D c pre Y _ _ h _
      exact h.elim
end Go.Proofs.Ytdpeopmbboogaaa
