/-
  Texts of one proof, joined: Tx2.
-/
import Derived.Test.YtbhidjagmonnaaaGreatDoorZSegments09
import Derived.Test.YtbhidjagmonnaaaGreatDoorZSegments12
import Derived.Test.YtbhidjagmonnaaaGreatDoorZSegments13
import Derived.Lib.AppendIntMem
import Derived.RangeFuncBox
namespace Go.Proofs.YtbhidjagmonnaaaGreatDoor
open Go.ChangeShapes Go.WideShapes Go.ChangeAt Go.RowKit Go.Shelf Go.Sort
set_option linter.unusedSimpArgs false
set_option linter.unusedVariables false

/-- The table that FormatInt reads is there, and stays. -/
abbrev Tab (B : Nat) (w : World) : Prop := Lib.TabBelow Tryz.prog B w "internal/strconv.uint64pow10" .u64 Lib.pow10Tab

/-- What turns while a row grows: that row, no other block. -/
structure Gv (v v' : Value) (W W' : World) : Prop where
  env : W'.os = W.os ∧ W'.tape = W.tape ∧ W'.output = W.output
  size : W.heap.size ≤ W'.heap.size
  block : ∀ k, k < W.heap.size → some k ≠ v.ownBlock → W'.heap[k]? = W.heap[k]?
  own : ∀ k, v'.ownBlock = some k → v.ownBlock = some k ∨ W.heap.size ≤ k
theorem Gv.refl (v : Value) (W : World) : Gv v v W W := ⟨⟨rfl, rfl, rfl⟩, Nat.le_refl _, fun _ _ _ => rfl, fun _ h => Or.inl h⟩
theorem Gv.trans {v v' v'' : Value} {A B C : World} (h : Gv v v' A B) (k : Gv v' v'' B C) : Gv v v'' A C where
  env := ⟨k.env.1.trans h.env.1, k.env.2.1.trans h.env.2.1, k.env.2.2.trans h.env.2.2⟩
  size := Nat.le_trans h.size k.size
  block b hb ho := (k.block b (Nat.lt_of_lt_of_le hb h.size) (fun e => by
    rcases h.own b e.symm with e2 | e2
    · exact ho e2.symm
    · omega)).trans (h.block b hb ho)
  own b e := by
    rcases k.own b e with e2 | e2
    · exact h.own b e2
    · exact Or.inr (Nat.le_trans h.size e2)
theorem Gv.below {v : Value} {W W' : World} (h : Below W.heap.size W W') : Gv v v W W' := ⟨⟨h.os, h.tape, h.output⟩, h.size, fun k hk _ => h.block k hk, fun _ e => Or.inl e⟩
theorem Gv.grown {v v' : Value} {W W' : World} (h : W.grownBy W' v.ownBlock) (ho : ∀ k, v'.ownBlock = some k → v.ownBlock = some k ∨ k = W.heap.size) : Gv v v' W W' := ⟨⟨h.os, h.tape, h.output⟩, h.size, fun k hk hn => h.block k hk hn, fun k e => (ho k e).imp id (fun e => by omega)⟩
theorem Gv.to_below {B : Nat} {v v' : Value} {W W' : World} (t : Gv v v' W W') (hB : B ≤ W.heap.size) (ho : ∀ k, v.ownBlock = some k → B ≤ k) : Below B W W' :=
  ⟨t.env.1, t.env.2.1, t.env.2.2, t.size, fun k hk => t.block k (by omega) (fun e => by have := ho k e.symm; omega)⟩

theorem infoStr0 : (Tryz.prog.info? 9).map (fun i => (i.zero, i.size, i.bytes)) = some (some (.string ByteArray.empty), 1, 16) := by kernel_rfl
theorem infoStr : ∃ i, Tryz.prog.info? 9 = some i ∧ i.zero = some (.string ByteArray.empty) ∧ i.size = 1 ∧ i.bytes = 16 := by
  have h := infoStr0
  cases e : Tryz.prog.info? 9 with
  | none => rw [e] at h; cases h
  | some i => rw [e] at h; simp at h; exact ⟨i, rfl, h.1, h.2.1, h.2.2⟩
def sV (xs : List ByteArray) : List Value := xs.map Value.string
theorem sV_one (xs : List ByteArray) : ∀ v ∈ sV xs, v.oneCell' = true := by
  intro v hv
  obtain ⟨x, _, rfl⟩ := List.mem_map.1 hv
  rfl
theorem ownsS_one (w : World) (e : TypeId) (x : ByteArray) : (w.alloc (.cells #[.string x] e)).ownsRow w.heap.size e 1 (.slice (some ⟨w.heap.size, 0, none⟩) 1 1) 1 (sV [x]) := by
  refine ⟨rfl, Or.inr ⟨w.heap.size, 1, #[.string x], rfl, Nat.le_refl _, ?_, Nat.le_refl _, by unfold maxLen; omega, rfl, rfl⟩⟩
  show (w.heap.push (.cells #[.string x] e))[w.heap.size]? = _
  simp

theorem wpList_appS {w : World} {ops : Array Oper} {rest : List Oper} {o : Oper} {a : Act} {Q : Exit → Act → World → Prop} (hw : Region.wanted o (yielded ops a.tmps) = true) (s x : Operand)
    (ho : o.op = .call { callee := .builtin .append, args := #[s, x], argTypes := #[78, 78] })
    (base : Nat) (xv : Option Addr) (xc n : Nat) (ns : List ByteArray) (hs : a.eval s = .slice xv n xc) (hown : w.ownsRow base 9 1 (.slice xv n xc) n (sV ns))
    (b yc : Nat) (y : ByteArray) (hx : a.eval x = .slice (some ⟨b, 0, none⟩) 1 yc) (hc : w.cell? ⟨b, 0, none⟩ = some (.string y)) (hlen : n + 1 ≤ 100000000) (hbase : base ≤ w.heap.size)
    (h : ∀ g cap w', w'.ownsRow base 9 1 (.slice (some ⟨g, 0, none⟩) (n + 1) cap) (n + 1) (sV (ns ++ [y])) → Gv (.slice xv n xc) (.slice (some ⟨g, 0, none⟩) (n + 1) cap) w w' → wpList Tryz.prog ops Q rest (a.put o.dst (.slice (some ⟨g, 0, none⟩) (n + 1) cap)) w') : wpList Tryz.prog ops Q (o :: rest) a w := by
  obtain ⟨ti, hi1, hi2, hi3, hi4⟩ := infoStr
  refine wpList_step fun K hK => ?_
  rw [if_pos hw]
  refine wp_append_lies w s x 78 ho base 9 ti _ 1 16 Tryz.underlying78 hi1 hi2 hi3 hi4 rfl (by omega) (.slice xv n xc) n (sV ns) hs hown ⟨b, 0, none⟩ 1 yc (sV [y]) hx rfl ?_ (sV_one [y]) (by omega) (by unfold maxLen; omega) (by omega) hbase _ rfl ?_
  · intro j u hu
    have hj : j < 1 := by
      have := (List.getElem?_eq_some_iff.1 hu).1
      simpa [sV] using this
    have e : j = 0 := by omega
    subst e
    have e2 : u = .string y := by simpa [sV] using hu.symm
    rw [e2]; exact hc
  · intro g cap w' hown' hgrow hat hlt
    have e : sV (ns ++ [y]) = sV ns ++ sV [y] := by simp [sV]
    refine hK _ _ (h g cap w' (by rw [e]; exact hown') (Gv.grown hgrow fun k ek => ?_))
    have e3 : g = k := by simpa [Value.ownBlock] using ek
    rw [← e3]; exact hat

/-- A block of numbers that is no row of words. -/
def NumB (w : World) (g : Nat) (ns : List Int) : Prop := w.heap[g]? = some (.cells (ns.map (Value.int .i64)).toArray 2 (0, 0))
theorem NumB.lt {w : World} {g : Nat} {ns : List Int} (h : NumB w g ns) : g < w.heap.size := (Array.getElem?_eq_some_iff.1 h).1
theorem NumB.new (w : World) (ns : List Int) : NumB (w.alloc (.cells (ns.map (Value.int .i64)).toArray 2)) w.heap.size ns := World.alloc_heap_new w _
theorem NumB.cell {w : World} {g : Nat} {ns : List Int} (h : NumB w g ns) {k : Nat} (hk : k < ns.length) : w.cell? ⟨g, k, none⟩ = some (.int .i64 (ns.getD k 0)) := by
  simp [World.cell?, show w.heap[g]? = _ from h, hk, List.getD]
theorem NumB.not_row {w : World} {g : Nat} {ns : List Int} (h : NumB w g ns) {base n : Nat} {v : Value} {xs : List Value} (hr : w.ownsRow base 9 1 v n xs) : some g ≠ v.ownBlock := by
  intro e
  rcases hr.2 with ⟨rfl, _⟩ | ⟨g2, cap, cur, rfl, _, hgb, _⟩
  · simp [Value.ownBlock] at e
  · obtain rfl : g = g2 := by simpa [Value.ownBlock] using e
    rw [show w.heap[g]? = _ from h] at hgb
    injection hgb with hgb
    injection hgb with _ h2
    revert h2; decide
theorem NumB.gv {w w' : World} {g : Nat} {ns : List Int} {base n : Nat} {v v' : Value} {xs : List Value} (h : NumB w g ns) (hr : w.ownsRow base 9 1 v n xs) (hg : Gv v v' w w') : NumB w' g ns := (hg.block g h.lt (h.not_row hr)).trans h

def dW (ns : List Int) : List ByteArray := ns.map fun n => M1.mkB (M1.dcm n)
theorem dW_take {ns : List Int} {k : Nat} (h : k < ns.length) : dW (ns.take (k + 1)) = dW (ns.take k) ++ [M1.mkB (M1.dcm (ns.getD k 0))] := by
  unfold dW
  rw [List.take_succ_eq_append_getElem h, List.map_append]
  simp [List.getD, h]

set_option maxHeartbeats 4000000 in
set_option maxRecDepth 100000 in
theorem withDecimals_any (B : Nat) (xv : Option Addr) (xc n : Nat) (xs : List ByteArray) (g m : Nat) (ns : List Int) (w : World) (own : w.ownsRow B 9 1 (.slice xv n xc) n (sV xs)) (hg : NumB w g ns) (hm : Hid (ns.length = m)) (hm1 : m ≤ 100) (hn1 : n ≤ 100) (hn : Hid (∀ n ∈ ns, M1.nine n)) (hB : B ≤ w.heap.size) (tab : Tab B w) :
    Calls Tryz.prog 50 #[.slice xv n xc, .slice (some ⟨g, 0, none⟩) m m] w fun e w' => ∃ a c, e = .returned (.slice a (n + m) c) ∧ w'.ownsRow B 9 1 (.slice a (n + m) c) (n + m) (sV (xs ++ dW ns)) ∧ Gv (.slice xv n xc) (.slice a (n + m) c) w w' := by
  go_enter Tryz.func50, Tryz.ntmps50
  go_wp2_with fail
  go_loopw [0, 9] (fun sv iv wr => ∃ (k : Nat) (a : Option Addr) (c : Nat), k ≤ m ∧ iv = .int .i64 k ∧ sv = .slice a (n + k) c ∧ wr.ownsRow B 9 1 (.slice a (n + k) c) (n + k) (sV (xs ++ dW (ns.take k))) ∧ Gv (.slice xv n xc) (.slice a (n + k) c) w wr) (fun _ iv _ => m - (intOf iv).toNat)
  case atStart => exact ⟨0, xv, xc, Nat.zero_le _, rfl, rfl, by simpa [dW] using own, Gv.refl _ _⟩
  case round =>
    obtain ⟨k, a, c, hk, rfl, rfl, ow, gv⟩ := hrel
    have hs := gv.size
    by_cases hlt : k < m
    · have nb := hg.gv own gv
      have hgl := nb.lt
      have hkl : k < ns.length := by rw [hm.out]; exact hlt
      have d0 := nb.cell hkl
      have k0 : (0 : Int) ≤ (k : Int) := by omega
      have k1 : (k : Int) < (m : Int) := by omega
      have hnn : M1.nine (ns.getD k 0) := hn.out _ (by rw [show ns.getD k 0 = ns[k] by simp [List.getD, hkl]]; exact List.getElem_mem hkl)
      have HD : Hid (dW (ns.take (k + 1)) = dW (ns.take k) ++ [M1.mkB (M1.dcm (ns.getD k 0))]) := dW_take hkl
      obtain ⟨q, hq⟩ : ∃ q, Hid (ns.getD k 0 = q) := ⟨_, rfl⟩
      rw [hq.out] at d0 hnn HD
      have hBr : Below B w wr := gv.to_below hB (owns_base own)
      have ct : Calls Tryz.prog 74 #[.int .i64 q, .int .i64 10] wr fun e w' => e = .returned (.string (M1.mkB (M1.dcm q))) ∧ ∃ k os, w' = grow (wr.drewN k) os := Any.strconv_FormatInt_10 Tryz.layFmt q (by have := hnn.1; omega) hnn.2 wr (tab wr hBr)
      clear hnn hkl
      go_wp2_with fail
      refine ct.mono ?_
      clear ct
      rintro e w2 ⟨rfl, k2, os, rfl⟩
      have hb2 := Lib.below_grow wr.heap.size wr (Nat.le_refl _) k2 os
      generalize grow (wr.drewN k2) os = w2 at hb2 ⊢
      have hs2 := hb2.size
      have ow2 := owns_below ow hb2
      have hA : Below w2.heap.size w2 (w2.alloc (.cells #[.string (M1.mkB (M1.dcm q))] 9)) := (Below.refl _ _).alloc (Nat.le_refl _) _
      have ow3 := owns_below ow2 hA
      have hc3 : (w2.alloc (.cells #[.string (M1.mkB (M1.dcm q))] 9)).cell? ⟨w2.heap.size, 0, none⟩ = some (.string (M1.mkB (M1.dcm q))) := by simp
      go_wp2_with (at_builtin; refine wpList_appS (by rfl) _ _ rfl B a c (n + k) _ rfl ow3 w2.heap.size 1 _ rfl hc3 (by omega) (by simp; omega) ?_; intro g4 c4 w4 ow4 gv4)
      have gv5 := ((gv.trans (Gv.below hb2)).trans (Gv.below hA)).trans gv4
      refine ⟨⟨k + 1, some ⟨g4, 0, none⟩, c4, by omega, by go_num, rfl, ?_, gv5⟩, by simp [intOf]; omega⟩
      rw [HD.out, ← List.append_assoc]
      exact ow4
    · have hkm : k = m := by omega
      subst hkm
      have HT : Hid (ns.take k = ns) := (by rw [← hm.out]; exact List.take_length : _ = _)
      rw [HT.out] at ow
      go_wp2_with fail
      go_ret
      exact ⟨a, c, rfl, ow, gv⟩

theorem owns_ltS {w : World} {base n : Nat} {e : TypeId} {size : Nat} {v : Value} {xs : List Value} (h : w.ownsRow base e size v n xs) : ∀ k, v.ownBlock = some k → k < w.heap.size := by
  intro k hk
  rcases h.2 with ⟨rfl, _⟩ | ⟨g, cap, cur, rfl, _, hh, _⟩
  · simp [Value.ownBlock] at hk
  · have e : g = k := by simpa [Value.ownBlock] using hk
    rw [← e]; exact (Array.getElem?_eq_some_iff.1 hh).1
theorem RowAt.gvT {w w' : World} {g m : Nat} {f : Nat → Value} {v v' : Value} (h : RowAt w g m f) (hg : Gv v v' w w') (hn : some g ≠ v.ownBlock) : RowAt w' g m f := by
  have e := hg.block g h.lt hn
  refine ⟨Nat.lt_of_lt_of_le h.1 hg.size, fun o ho => ⟨?_, ?_⟩⟩
  · have : w'.cell? ⟨g, o, none⟩ = w.cell? ⟨g, o, none⟩ := by simp [World.cell?, e]
    rw [this]; exact (h.2 o ho).1
  · have : w'.frozen? ⟨g, o, none⟩ = w.frozen? ⟨g, o, none⟩ := by simp [World.frozen?, e]
    rw [this]; exact (h.2 o ho).2

theorem ta_span (x : Value) (w : World) : (Instr.typeAssert (.iface 98 x) 74 98 true).run Tryz.prog w = .ok (.tuple #[x, .bool true]) w := by kernel_rfl
theorem ta_life (x : Value) (w : World) : (Instr.typeAssert (.iface 102 x) 74 102 true).run Tryz.prog w = .ok (.tuple #[x, .bool true]) w := by kernel_rfl
theorem ta_keep_span (x : Value) (w : World) : (Instr.typeAssert (.iface 100 x) 74 98 true).run Tryz.prog w = .ok (.tuple #[.agg #[.int .i64 0, .int .i64 0, .string ByteArray.empty, .int .i64 0, .int .i64 0], .bool false]) w := by kernel_rfl
theorem ta_life_span (x : Value) (w : World) : (Instr.typeAssert (.iface 102 x) 74 98 true).run Tryz.prog w = .ok (.tuple #[.agg #[.int .i64 0, .int .i64 0, .string ByteArray.empty, .int .i64 0, .int .i64 0], .bool false]) w := by kernel_rfl
theorem ta_keep_life (x : Value) (w : World) : (Instr.typeAssert (.iface 100 x) 74 102 true).run Tryz.prog w = .ok (.tuple #[.agg #[.int .i64 0], .bool false]) w := by kernel_rfl

set_option maxHeartbeats 4000000 in
set_option maxRecDepth 100000 in
theorem wcw_span (B : Nat) (xv : Option Addr) (xc n : Nat) (xs : List ByteArray) (id pa st en : Int) (sv : ByteArray) (w : World) (own : w.ownsRow B 9 1 (.slice xv n xc) n (sV xs)) (hn1 : n ≤ 50) (hn : Hid (∀ n ∈ [id, pa, st, en], M1.nine n)) (hB : B ≤ w.heap.size) (tab : Tab B w) :
    Calls Tryz.prog 52 #[.slice xv n xc, .iface 98 (.agg #[.int .i64 id, .int .i64 pa, .string sv, .int .i64 st, .int .i64 en])] w fun e w' => ∃ a c, e = .returned (.slice a (n + 4 + 1) c) ∧ w'.ownsRow B 9 1 (.slice a (n + 4 + 1) c) (n + 4 + 1) (sV (xs ++ dW [id, pa, st, en] ++ [sv])) ∧ Gv (.slice xv n xc) (.slice a (n + 4 + 1) c) w w' := by
  have hA : Below w.heap.size w (w.alloc (.cells #[.int .i64 id, .int .i64 pa, .string sv, .int .i64 st, .int .i64 en] 98)) := (Below.refl _ _).alloc (Nat.le_refl _) _
  have row0 : RowAt (w.alloc (.cells #[.int .i64 id, .int .i64 pa, .string sv, .int .i64 st, .int .i64 en] 98)) w.heap.size 5 (fun o => (#[.int .i64 id, .int .i64 pa, .string sv, .int .i64 st, .int .i64 en] : Array Value).getD o undef) := RowAt.new w _ _
  have hlt := owns_ltS own
  have hbs := owns_base own
  have t1 := ta_span
  have t2 := ta_life
  have t3 := ta_keep_span
  have t4 := ta_life_span
  have t5 := ta_keep_life
  go_enter Tryz.func52, Tryz.ntmps52
  go_upto_region 4 with fail
  obtain ⟨W0, hW0⟩ : ∃ W, w.alloc (.cells #[.int .i64 id, .int .i64 pa, .string sv, .int .i64 st, .int .i64 en] 98) = W := ⟨_, rfl⟩
  rw [hW0] at hA row0 ⊢
  clear hW0
  have hs0 := hA.size
  have own0 := owns_below own hA
  have hb0 := row0.lt
  have c0 := row0.cell (o := 0) (by omega)
  have c1 := row0.cell (o := 1) (by omega)
  have c2 := row0.cell (o := 2) (by omega)
  have c3 := row0.cell (o := 3) (by omega)
  have c4 := row0.cell (o := 4) (by omega)
  simp at c0 c1 c2 c3 c4
  have cl := row0.lt
  have nb : NumB (W0.alloc (.cells #[.int .i64 id, .int .i64 pa, .int .i64 st, .int .i64 en] 2)) W0.heap.size [id, pa, st, en] := NumB.new W0 [id, pa, st, en]
  have hA1 : Below W0.heap.size W0 (W0.alloc (.cells #[.int .i64 id, .int .i64 pa, .int .i64 st, .int .i64 en] 2)) := (Below.refl _ _).alloc (Nat.le_refl _) _
  have own1 := owns_below own0 hA1
  have hBB : Below B w (W0.alloc (.cells #[.int .i64 id, .int .i64 pa, .int .i64 st, .int .i64 en] 2)) := (hA.mono hB).trans (hA1.mono (by omega))
  go_wp2_with fail
  refine (withDecimals_any B xv xc n xs W0.heap.size 4 [id, pa, st, en] _ own1 nb rfl (by omega) (by omega) hn (by have := hA1.size; omega) (tab.on hBB)).mono ?_
  rintro e w2 ⟨a2, k2, rfl, own2, gv2⟩
  have hne : some w.heap.size ≠ (Value.slice xv n xc).ownBlock := fun e => by have := hlt _ e.symm; omega
  have row2 := (row0.below hA1).gvT gv2 hne
  have gvw := ((Gv.below (v := .slice xv n xc) hA).trans (Gv.below hA1)).trans gv2
  clear c0 c1 c2 c3 c4 cl
  have c0 := row2.cell (o := 0) (by omega)
  have c1 := row2.cell (o := 1) (by omega)
  have c2 := row2.cell (o := 2) (by omega)
  have c3 := row2.cell (o := 3) (by omega)
  have c4 := row2.cell (o := 4) (by omega)
  simp at c0 c1 c2 c3 c4
  have cl := row2.lt
  have hs2 := gvw.size
  have hA3 : Below w2.heap.size w2 (w2.alloc (.cells #[.string sv] 9)) := (Below.refl _ _).alloc (Nat.le_refl _) _
  have own3 := owns_below own2 hA3
  have hc3 : (w2.alloc (.cells #[.string sv] 9)).cell? ⟨w2.heap.size, 0, none⟩ = some (.string sv) := by simp
  go_wp2_with (at_builtin; refine wpList_appS (by rfl) _ _ rfl B a2 _ (n + 4) _ rfl own3 w2.heap.size 1 _ rfl hc3 (by omega) (by simp; omega) ?_; intro g4 k4 w4 ow4 gv4)
  go_ret
  exact ⟨some ⟨g4, 0, none⟩, k4, rfl, ow4, (gvw.trans (Gv.below hA3)).trans gv4⟩

set_option maxHeartbeats 4000000 in
set_option maxRecDepth 100000 in
theorem wcw_keep (xv : Option Addr) (xc n : Nat) (w : World) :
    Calls Tryz.prog 52 #[.slice xv n xc, .iface 100 (.agg #[])] w fun e w' => e = .returned (.slice xv n xc) ∧ w' = w := by
  have t1 := ta_span
  have t2 := ta_life
  have t3 := ta_keep_span
  have t4 := ta_life_span
  have t5 := ta_keep_life
  go_enter Tryz.func52, Tryz.ntmps52
  go_wp2_with fail
  go_ret
  exact ⟨rfl, rfl⟩

set_option maxHeartbeats 4000000 in
set_option maxRecDepth 100000 in
theorem wcw_life (B : Nat) (xv : Option Addr) (xc n : Nat) (xs : List ByteArray) (lv : Int) (w : World) (own : w.ownsRow B 9 1 (.slice xv n xc) n (sV xs)) (hn1 : n ≤ 50) (hn : Hid (∀ n ∈ [lv], M1.nine n)) (hB : B ≤ w.heap.size) (tab : Tab B w) :
    Calls Tryz.prog 52 #[.slice xv n xc, .iface 102 (.agg #[.int .i64 lv])] w fun e w' => ∃ a c, e = .returned (.slice a (n + 1) c) ∧ w'.ownsRow B 9 1 (.slice a (n + 1) c) (n + 1) (sV (xs ++ dW [lv])) ∧ Gv (.slice xv n xc) (.slice a (n + 1) c) w w' := by
  have hA : Below w.heap.size w (w.alloc (.cells #[.int .i64 lv] 102)) := (Below.refl _ _).alloc (Nat.le_refl _) _
  have row0 : RowAt (w.alloc (.cells #[.int .i64 lv] 102)) w.heap.size 1 (fun o => (#[.int .i64 lv] : Array Value).getD o undef) := RowAt.new w _ _
  have t1 := ta_span
  have t2 := ta_life
  have t3 := ta_keep_span
  have t4 := ta_life_span
  have t5 := ta_keep_life
  go_enter Tryz.func52, Tryz.ntmps52
  go_upto_region 8 with fail
  obtain ⟨W0, hW0⟩ : ∃ W, w.alloc (.cells #[.int .i64 lv] 102) = W := ⟨_, rfl⟩
  rw [hW0] at hA row0 ⊢
  clear hW0
  have hs0 := hA.size
  have own0 := owns_below own hA
  have hb0 := row0.lt
  have c0 := row0.cell (o := 0) (by omega)
  simp at c0
  have cl := row0.lt
  have nb : NumB (W0.alloc (.cells #[.int .i64 lv] 2)) W0.heap.size [lv] := NumB.new W0 [lv]
  have hA1 : Below W0.heap.size W0 (W0.alloc (.cells #[.int .i64 lv] 2)) := (Below.refl _ _).alloc (Nat.le_refl _) _
  have own1 := owns_below own0 hA1
  have hBB : Below B w (W0.alloc (.cells #[.int .i64 lv] 2)) := (hA.mono hB).trans (hA1.mono (by omega))
  go_wp2_with fail
  refine (withDecimals_any B xv xc n xs W0.heap.size 1 [lv] _ own1 nb rfl (by omega) (by omega) hn (by have := hA1.size; omega) (tab.on hBB)).mono ?_
  rintro e w2 ⟨a2, c2, rfl, own2, gv2⟩
  have gvw := ((Gv.below (v := .slice xv n xc) hA).trans (Gv.below hA1)).trans gv2
  go_wp2_with fail
  go_ret
  exact ⟨a2, c2, rfl, own2, gvw⟩

theorem word_span (id pa st en : Int) (s : ByteArray) (w : World) :
    Calls Tryz.prog 168 #[.agg #[.int .i64 id, .int .i64 pa, .string s, .int .i64 st, .int .i64 en]] w fun e w' => e = .returned (.string ⟨#[115, 112, 97, 110]⟩) ∧ Below w.heap.size w w' := by
  go_enter Tryz.func168, Tryz.ntmps168
  go_wp2_with fail
  go_ret
  refine ⟨rfl, ?_⟩
  repeat (first | (with_reducible exact Below.refl _ _) | ((with_reducible refine Below.setCell ?_ ?_ _); rotate_left; (focus (first | omega | (simp; done) | (simp; omega)))) | ((with_reducible refine Below.alloc ?_ ?_ _); rotate_left; (focus (first | omega | (simp; done) | (simp; omega)))) | (with_reducible refine Below.drew ?_))

theorem word_keep  (w : World) :
    Calls Tryz.prog 172 #[.agg #[]] w fun e w' => e = .returned (.string ⟨#[107, 101, 101, 112]⟩) ∧ Below w.heap.size w w' := by
  go_enter Tryz.func172, Tryz.ntmps172
  go_wp2_with fail
  go_ret
  refine ⟨rfl, ?_⟩
  repeat (first | (with_reducible exact Below.refl _ _) | ((with_reducible refine Below.setCell ?_ ?_ _); rotate_left; (focus (first | omega | (simp; done) | (simp; omega)))) | ((with_reducible refine Below.alloc ?_ ?_ _); rotate_left; (focus (first | omega | (simp; done) | (simp; omega)))) | (with_reducible refine Below.drew ?_))

theorem word_life (lv : Int) (w : World) :
    Calls Tryz.prog 174 #[.agg #[.int .i64 lv]] w fun e w' => e = .returned (.string ⟨#[108, 105, 102, 101]⟩) ∧ Below w.heap.size w w' := by
  go_enter Tryz.func174, Tryz.ntmps174
  go_wp2_with fail
  go_ret
  refine ⟨rfl, ?_⟩
  repeat (first | (with_reducible exact Below.refl _ _) | ((with_reducible refine Below.setCell ?_ ?_ _); rotate_left; (focus (first | omega | (simp; done) | (simp; omega)))) | ((with_reducible refine Below.alloc ?_ ?_ _); rotate_left; (focus (first | omega | (simp; done) | (simp; omega)))) | (with_reducible refine Below.drew ?_))

theorem laysExtra : Builder.Extra Tryz.prog Tryz.layJoin_ren where
  sizeBuilder := by kernel_rfl
  liesBuilder := by kernel_rfl
  t5 := Tryz.laySplit.t5
  a5 := Tryz.laySplit.a5
  z5 := Tryz.laySplit.z5
  v5 := Tryz.laySplit.v5
  infoByte := by kernel_rfl
  cellsByte := by kernel_rfl
  sizeByte := by kernel_rfl
  neB5 := by decide
end Go.Proofs.YtbhidjagmonnaaaGreatDoor
