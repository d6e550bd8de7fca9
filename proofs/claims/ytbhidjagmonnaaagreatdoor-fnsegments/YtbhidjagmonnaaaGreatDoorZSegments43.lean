/-
  Texts of one proof, joined: Rc4.
-/
import Derived.Test.YtbhidjagmonnaaaGreatDoorZSegments26
import Derived.Test.YtbhidjagmonnaaaGreatDoorZSegments39
import Derived.Test.YtbhidjagmonnaaaGreatDoorZSegments42
import Derived.Defers
import Derived.Recover
namespace Go.Proofs.YtbhidjagmonnaaaGreatDoor
open Go.ChangeShapes Go.WideShapes Go.ChangeAt Go.RowKit Go.Shelf
set_option linter.unusedSimpArgs false
set_option linter.unusedVariables false

theorem catch_panicking (p q : Addr) (t : TypeId) (v : Value) (x y : Value) (w : World) (hpq : p.block ≠ q.block) (hc : w.cell? p = some x) (hz : w.frozen? p = false) (hc2 : w.cell? q = some y) (hz2 : w.frozen? q = false) :
    CallsD Tryz.prog 58 #[.pointer (some p), .pointer (some q)] (.panicking [{ v := .iface t v, recovered := false }]) w fun e u' w' =>
      e = .returned (.tuple #[]) ∧ u' = .panicking [{ v := .iface t v, recovered := true }] ∧ w' = (w.setCell p (.slice none 0 0)).setCell q (.bool false) := by
  have hne : p ≠ q := fun e => hpq (by rw [e])
  refine callsD_of_wpS Tryz.func58 rfl fun c₀ cs hu => ?_
  apply wpS_seq
  apply wpS_region
  simp [wpOpsS, go_sem, recoverD, hu, Tryz.ntmps58, Exit.thenS]
  refine wpS_cond (t := true) (by simp [Act.eval, Array.replicate]) ?_
  simp only [if_true]
  apply wpS_region
  simp [wpOpsS, go_sem, hc, hz, hc2, hz2, hne, bodyPostS, results, Tryz.results58]
theorem catch_idle (p q : Addr) (w : World) :
    CallsD Tryz.prog 58 #[.pointer (some p), .pointer (some q)] .returning w fun e u' w' => e = .returned (.tuple #[]) ∧ u' = .returning ∧ w' = w := by
  refine callsD_of_wpS Tryz.func58 rfl fun c₀ cs hu => ?_
  apply wpS_seq
  apply wpS_region
  simp [wpOpsS, go_sem, recoverD, hu, Tryz.ntmps58, Exit.thenS]
  refine wpS_cond (t := false) (by simp [Act.eval, Array.replicate]) ?_
  simp only [Bool.false_eq_true, if_false]
  refine wpS_of_wp (wp_skip ?_)
  cases c₀
  simp_all [bodyPostS, results, Tryz.results58]

theorem oneU {w : World} {g : Nat} {u : M1.Upd} (h : RowAt w g 13 (uq u)) (hs : u.s.size ≤ maxLen) : IsUpds w (some ⟨g, 0, none⟩) 1 1 [u] := by
  refine isUpds_of_row rfl (Nat.le_refl _) (by unfold maxLen; omega) (fun i hi => ?_) (h.same fun o ho => ?_)
  · have : i = 0 := by omega
    subst this; exact hs
  · unfold ucell
    have e1 : o / 13 = 0 := by omega
    have e2 : o % 13 = o := by omega
    rw [e1, e2]
    rfl

/-- What 'taken' answers at us and the frame at a. -/
def Tkn (w w' : World) (e : Ending) (p : Nat) (s : ByteArray) (us : List M1.Upd) (a : Nat) : Prop :=
  (∃ u av c, Hid (M1.stR s us a = some u) ∧ e = .returned (.tuple #[.slice av (M1.insD us u).length c, .bool true]) ∧ MU w' av (M1.insD us u).length c w.heap.size w'.heap.size (ucell (M1.insD us u)) ∧ SRd w' p s (a + 5 + M1.lnAt s a)) ∨
  (Hid (M1.stR s us a = none) ∧ e = .returned (.tuple #[.slice none 0 0, .bool false]))

/-- Behind a panic that was recovered: nothing was taken. -/
theorem taken_left {w w1 : World} {p m k : Nat} {s : ByteArray} {us : List M1.Upd} {a : Nat} {x y : Value} {tmps : Array Value} (hmk : m ≠ k) (RB : RowAt w1 m 1 (fun _ => x)) (RC : RowAt w1 k 1 (fun _ => y)) (G : Gr p w w1) (HN : Hid (M1.stR s us a = none)) (hmw : w.heap.size ≤ m) (hkw : w.heap.size ≤ k) {t : TypeId} {v : Value} (h4 : tmps[4]? = some (.pointer (some ⟨m, 0, none⟩))) (h5 : tmps[5]? = some (.pointer (some ⟨k, 0, none⟩))) :
    Leaves Tryz.prog Tryz.f32 tmps (fun e w' => Tkn w w' e p s us a ∧ Gr p w w') [] (settle (.panicking [{ v := .iface t v, recovered := true }])) ((w1.setCell ⟨m, 0, none⟩ (.slice none 0 0)).setCell ⟨k, 0, none⟩ (.bool false)) := by
  have R1 : RowAt ((w1.setCell ⟨m, 0, none⟩ (.slice none 0 0)).setCell ⟨k, 0, none⟩ (.bool false)) m 1 (fun _ => .slice none 0 0) := ((RB.set (o := 0) (by omega) (.slice none 0 0)).far (p := ⟨k, 0, none⟩) (Ne.symm hmk) _).same fun o ho => by
    have : o = 0 := by omega
    subst this; rfl
  have R2 : RowAt ((w1.setCell ⟨m, 0, none⟩ (.slice none 0 0)).setCell ⟨k, 0, none⟩ (.bool false)) k 1 (fun _ => .bool false) := ((RC.far (p := ⟨m, 0, none⟩) hmk _).set (o := 0) (by omega) (.bool false)).same fun o ho => by
    have : o = 0 := by omega
    subst this; rfl
  have G2 : Gr p w ((w1.setCell ⟨m, 0, none⟩ (.slice none 0 0)).setCell ⟨k, 0, none⟩ (.bool false)) := gr_new (gr_new G ⟨m, 0, none⟩ hmw _) ⟨k, 0, none⟩ hkw _
  obtain ⟨W, hW⟩ : ∃ W, (w1.setCell ⟨m, 0, none⟩ (.slice none 0 0)).setCell ⟨k, 0, none⟩ (.bool false) = W := ⟨_, rfl⟩
  rw [hW] at R1 R2 G2 ⊢
  clear hW
  have c1 := R1.cell (o := 0) (by omega)
  have c2 := R2.cell (o := 0) (by omega)
  refine ⟨.tuple #[.slice none 0 0, .bool false], ?_, .inr ⟨HN, rfl⟩, G2⟩
  simp [results, Tryz.results32, go_sem, h4, h5, c1, c2]

set_option maxHeartbeats 8000000 in
set_option maxRecDepth 100000 in
theorem staken_any (p : Nat) (s : ByteArray) (a : Nat) (us : List M1.Upd) (av : Option Addr) (c lo : Nat) (w : World) (h : SRd w p s a) (hs : s.size ≤ maxLen) (ha : a ≤ s.size) (hm : MaxIn w) (hp : ¬ 1 = p) (mu : MU w av us.length c lo w.heap.size (ucell us)) (hlo : p < lo) (HS : Hid (M1.setOk us = true)) :
    Calls Tryz.prog 32 #[.pointer (some ⟨p, 0, none⟩), .slice av us.length c] w fun e w' => Tkn w w' e p s us a ∧ Gr p w w' := by
  have hmf : ∀ (fn : Fn) (first cap : Array Value) (w : World), (Instr.makeFunc fn first cap).run Tryz.prog w = .ok (.func fn first cap) w := fun _ _ _ _ => rfl
  have hpl := h.lt
  have hA : Below w.heap.size w ((w.alloc (.cells #[.slice none 0 0] 24)).alloc (.cells #[.bool false] 4)) := ((Below.refl _ _).alloc (Nat.le_refl _) _).alloc (by simp) _
  have rb0 : RowAt ((w.alloc (.cells #[.slice none 0 0] 24)).alloc (.cells #[.bool false] 4)) w.heap.size 1 (fun _ => .slice none 0 0) := ((RowAt.new w #[.slice none 0 0] 24).alloc _).same fun o ho => by
    have : o = 0 := by simp at ho; omega
    subst this; rfl
  have rc0 : RowAt ((w.alloc (.cells #[.slice none 0 0] 24)).alloc (.cells #[.bool false] 4)) (w.heap.size + 1) 1 (fun _ => .bool false) := by
    have := RowAt.new (w.alloc (.cells #[.slice none 0 0] 24)) #[.bool false] 4
    simp only [World.size_alloc] at this
    exact this.same fun o ho => by
      have : o = 0 := by simp at ho; omega
      subst this; rfl
  go_enter_defers Tryz.func32, Tryz.ntmps32
  go_upto_region 2 with fail
  obtain ⟨W0, hW0⟩ : ∃ W, (w.alloc (.cells #[.slice none 0 0] 24)).alloc (.cells #[.bool false] 4) = W := ⟨_, rfl⟩
  rw [hW0] at hA rb0 rc0 ⊢
  clear hW0
  have h0 : SRd W0 p s a := h.below hA
  have G0 : Gr p w W0 := gr_below hA
  have hm0 := hm.gr G0 hp
  have mu0 := mu.below hA
  have hz0 := hA.size
  obtain ⟨m, hme⟩ : ∃ m, Hid (w.heap.size = m) := ⟨_, rfl⟩
  obtain ⟨k, hke⟩ : ∃ k, Hid (w.heap.size + 1 = k) := ⟨_, rfl⟩
  have hmw : w.heap.size ≤ m := by have := hme.out; omega
  have hkw : w.heap.size ≤ k := by have := hke.out; omega
  have hmk : m ≠ k := by have := hme.out; have := hke.out; omega
  rw [hke.out] at rc0 ⊢
  rw [hme.out] at rb0 ⊢
  have hmp : m ≠ p := by omega
  have hkp : k ≠ p := by omega
  clear h mu hm hA
  go_wp2_with fail
  refine (supdate_any p s a _ h0 hs ha hm0 hp).mono ?_
  rintro e w1 ⟨G1, ⟨u, HU, rfl, r1⟩ | ⟨HU, t, v, rfl⟩⟩
  · have G1' := gr_trans G0 G1
    have mu1 := mu0.off G1 (.inl hlo)
    have rb1 := rb0.gr G1 hmp
    have rc1 := rc0.gr G1 hkp
    have hok : M1.okU u = true := M1.rdU_ok (M1.frU_some HU.out).2
    have hus : u.s.size ≤ maxLen := by have := M1.ok_txt hok; unfold maxLen; omega
    clear G0 G1 mu0 rb0 rc0 h0 hm0
    go_wp2_with fail
    obtain ⟨W2, hW2⟩ : ∃ W, w1.alloc (.cells #[.int .i64 u.dr, .int .i64 u.dn, .int .i64 u.sw, .int .i64 u.sc, .int .i64 u.sr, .int .i64 u.k, .int .i64 u.tr, .int .i64 u.id, .int .i64 u.pa, .string u.s, .int .i64 u.st, .int .i64 u.en, .int .i64 u.lv] 47) = W := ⟨_, rfl⟩
    have hA2 : Below w1.heap.size w1 W2 := by rw [← hW2]; exact (Below.refl _ _).alloc (Nat.le_refl _) _
    have rq2 : RowAt W2 w1.heap.size 13 (uq u) := by rw [← hW2]; exact uq_new w1 u 47
    rw [hW2]
    clear hW2
    have G2 := gr_trans G1' (gr_below (g := p) hA2)
    have mu2 := mu1.below hA2
    have rb2 := rb1.below hA2
    have rc2 := rc1.below hA2
    have r2 : SRd W2 p s (a + 5 + M1.lnAt s a) := r1.below hA2
    have hu1 := mu2.upds rfl (ok_short HS.out)
    have hu2 := oneU rq2 hus
    have hz2 := hA2.size
    have hz1 := G1'.size
    clear mu1 rb1 rc1 r1 G1' hA2
    refine (taken_impl _ _ _ _ _ _ us [u] _ hu1 hu2).mono ?_
    rintro e w3 ⟨⟨av3, c3, rfl, mu3⟩, hb3⟩
    have G3 := gr_trans G2 (gr_below (g := p) hb3)
    have rb3 := rb2.below hb3
    have rc3 := rc2.below hb3
    have r3 : SRd w3 p s (a + 5 + M1.lnAt s a) := r2.below hb3
    have hml := rb3.lt
    have hkl := rc3.lt
    have m0 := rb3.cell (o := 0) (by omega)
    have m1 := rb3.free (o := 0) (by omega)
    have k0 := rc3.cell (o := 0) (by omega)
    have k1 := rc3.free (o := 0) (by omega)
    have hl60 : us.length ≤ 60 := M1.setOk_len HS.out
    have hm2 := rb2.lt
    have hk2 := rc2.lt
    clear rb2 rc2 r2 G2 hu1 hu2 rq2 mu2
    by_cases hn : M1.nxt us u = true
    · obtain ⟨t1, t2⟩ := M1.t_one_yes HS.out hok hn
      have hlen := M1.nxt_len HS.out hok hn
      have HY : Hid (M1.stR s us a = some u) := M1.stR_yes HU.out hn
      rw [t2] at mu3
      rw [t1, t2]
      obtain ⟨ns, hns⟩ : ∃ ns, Hid (M1.insD us u = ns) := ⟨_, rfl⟩
      rw [hns.out] at mu3 hlen ⊢
      obtain ⟨x, hx⟩ : ∃ x, Hid (ns.length = x) := ⟨_, rfl⟩
      rw [hx.out] at mu3 hlen ⊢
      have dx : decide ((us.length : Int) < (x : Int)) = true := decide_eq_true (by omega)
      have dx2 : decide (us.length < x) = true := decide_eq_true (by omega)
      clear t1 t2 hn hlen
      go_upto_region 3 with fail
      obtain ⟨W4, hW4⟩ : ∃ W, (w3.setCell ⟨m, 0, none⟩ (.slice av3 x c3)).setCell ⟨k, 0, none⟩ (.bool true) = W := ⟨_, rfl⟩
      have rb4 : RowAt W4 m 1 (fun _ => .slice av3 x c3) := by
        rw [← hW4]
        exact ((rb3.set (o := 0) (by omega) (.slice av3 x c3)).far (p := ⟨k, 0, none⟩) (Ne.symm hmk) _).same fun o ho => by
          have : o = 0 := by omega
          subst this; rfl
      have rc4 : RowAt W4 k 1 (fun _ => .bool true) := by
        rw [← hW4]
        exact ((rc3.far (p := ⟨m, 0, none⟩) hmk _).set (o := 0) (by omega) (.bool true)).same fun o ho => by
          have : o = 0 := by omega
          subst this; rfl
      have G4 : Gr p w W4 := by rw [← hW4]; exact gr_new (gr_new G3 ⟨m, 0, none⟩ hmw _) ⟨k, 0, none⟩ hkw _
      have r4 : SRd W4 p s (a + 5 + M1.lnAt s a) := by rw [← hW4]; exact (r3.far (p := ⟨m, 0, none⟩) hmp _).far (p := ⟨k, 0, none⟩) hkp _
      have hz4 : W4.heap.size = w3.heap.size := by rw [← hW4]; simp [World.setCell]
      have mu4 : MU W4 av3 x c3 w.heap.size W4.heap.size (ucell ns) := by
        rw [hz4, ← hW4]
        exact ⟨mu3.1, mu3.2.1, mu3.2.2.imp id fun ⟨g, e, h1, h2, r⟩ => ⟨g, e, by omega, h2, (r.far (p := ⟨m, 0, none⟩) (by show m ≠ g; omega) _).far (p := ⟨k, 0, none⟩) (by show k ≠ g; omega) _⟩⟩
      rw [hW4]
      clear hW4
      have c4 := rb4.cell (o := 0) (by omega)
      have d4 := rc4.cell (o := 0) (by omega)
      have f4 := rb4.free (o := 0) (by omega)
      have g4 := rc4.free (o := 0) (by omega)
      have kl := rc4.lt
      have ml := rb4.lt
      go_wp2_with fail
      refine (want_yes _ _).mono ?_
      rintro e w5 ⟨rfl, rfl⟩
      clear m0 m1 k0 k1 rb3 rc3 hml hkl
      go_wp2_with fail
      go_region
      go_wp2_with fail
      obtain ⟨W6, hW6⟩ : ∃ W, ((w5.setCell ⟨m, 0, none⟩ (.slice av3 x c3)).setCell ⟨k, 0, none⟩ (.bool true)).drew = W := ⟨_, rfl⟩
      have rb6 : RowAt W6 m 1 (fun _ => .slice av3 x c3) := by
        rw [← hW6]
        exact ((rb4.set (o := 0) (by omega) (.slice av3 x c3)).far (p := ⟨k, 0, none⟩) (Ne.symm hmk) _).drew.same fun o ho => by
          have : o = 0 := by omega
          subst this; rfl
      have rc6 : RowAt W6 k 1 (fun _ => .bool true) := by
        rw [← hW6]
        exact ((rc4.far (p := ⟨m, 0, none⟩) hmk _).set (o := 0) (by omega) (.bool true)).drew.same fun o ho => by
          have : o = 0 := by omega
          subst this; rfl
      have G6 : Gr p w W6 := by rw [← hW6]; exact gr_drew (gr_new (gr_new G4 ⟨m, 0, none⟩ hmw _) ⟨k, 0, none⟩ hkw _)
      have r6 : SRd W6 p s (a + 5 + M1.lnAt s a) := by rw [← hW6]; exact ((r4.far (p := ⟨m, 0, none⟩) hmp _).far (p := ⟨k, 0, none⟩) hkp _).drew
      have hz6 : W6.heap.size = w5.heap.size := by rw [← hW6]; simp [World.setCell, World.drew]
      have mu6 : MU W6 av3 x c3 w.heap.size W6.heap.size (ucell ns) := by
        rw [hz6, ← hW6]
        exact ⟨mu4.1, mu4.2.1, mu4.2.2.imp id fun ⟨g, e, h1, h2, r⟩ => by
          have h3 : W2.heap.size ≤ g := by
            rcases mu3.2.2 with ⟨_, e2⟩ | ⟨g2, e2, h3, _, _⟩
            · rw [e2] at e; cases e
            · rw [e2] at e; cases e; exact h3
          exact ⟨g, e, h1, h2, ((r.far (p := ⟨m, 0, none⟩) (by show m ≠ g; omega) _).far (p := ⟨k, 0, none⟩) (by show k ≠ g; omega) _).drew⟩⟩
      rw [hW6]
      clear hW6
      refine leaves_cons (f := 58) (args := #[.pointer (some ⟨m, 0, none⟩), .pointer (some ⟨k, 0, none⟩)]) (by simp) (by simp [go_sem]) ?_
      refine (catch_idle ⟨m, 0, none⟩ ⟨k, 0, none⟩ _).mono ?_
      rintro e u' w'' ⟨rfl, rfl, rfl⟩
      have c6 := rb6.cell (o := 0) (by omega)
      have d6 := rc6.cell (o := 0) (by omega)
      refine ⟨.tuple #[.slice av3 x c3, .bool true], by simp [results, Tryz.results32, go_sem, c6, d6], .inl ⟨u, av3, c3, HY, ?_, ?_, r6⟩, G6⟩
      · rw [hns.out, hx.out]
      · rw [hns.out, hx.out]; exact mu6
    · replace hn : M1.nxt us u = false := by simpa using hn
      have HN : Hid (M1.stR s us a = none) := M1.stR_not HU.out hn
      rcases M1.t_one_no HS.out hok hn with ⟨t1, t2⟩ | ⟨t1, t2⟩
      · rw [t1, t2]
        clear t1 t2 mu3
        go_upto_region 3 with fail
        obtain ⟨W4, hW4⟩ : ∃ W, (w3.setCell ⟨m, 0, none⟩ (.slice av3 0 c3)).setCell ⟨k, 0, none⟩ (.bool false) = W := ⟨_, rfl⟩
        have rb4 : RowAt W4 m 1 (fun _ => .slice av3 0 c3) := by
          rw [← hW4]
          exact ((rb3.set (o := 0) (by omega) (.slice av3 0 c3)).far (p := ⟨k, 0, none⟩) (Ne.symm hmk) _).same fun o ho => by
            have : o = 0 := by omega
            subst this; rfl
        have rc4 : RowAt W4 k 1 (fun _ => .bool false) := by
          rw [← hW4]
          exact ((rc3.far (p := ⟨m, 0, none⟩) hmk _).set (o := 0) (by omega) (.bool false)).same fun o ho => by
            have : o = 0 := by omega
            subst this; rfl
        have G4 : Gr p w W4 := by rw [← hW4]; exact gr_new (gr_new G3 ⟨m, 0, none⟩ hmw _) ⟨k, 0, none⟩ hkw _
        have r4 : SRd W4 p s (a + 5 + M1.lnAt s a) := by rw [← hW4]; exact (r3.far (p := ⟨m, 0, none⟩) hmp _).far (p := ⟨k, 0, none⟩) hkp _
        have hz4 : W4.heap.size = w3.heap.size := by rw [← hW4]; simp [World.setCell]
        rw [hW4]
        clear hW4
        have c4 := rb4.cell (o := 0) (by omega)
        have d4 := rc4.cell (o := 0) (by omega)
        have f4 := rb4.free (o := 0) (by omega)
        have g4 := rc4.free (o := 0) (by omega)
        have kl := rc4.lt
        have ml := rb4.lt
        go_wp2_with fail
        refine (want_no _ _).mono ?_
        rintro e w5 ⟨⟨t, v, rfl⟩, rfl⟩
        go_wp2_with fail
        refine leaves_cons (f := 58) (args := #[.pointer (some ⟨m, 0, none⟩), .pointer (some ⟨k, 0, none⟩)]) (by simp) (by simp [go_sem]) ?_
        refine (catch_panicking ⟨m, 0, none⟩ ⟨k, 0, none⟩ t v _ _ _ hmk (rb4.cell (o := 0) (by omega)) (rb4.free (o := 0) (by omega)) (rc4.cell (o := 0) (by omega)) (rc4.free (o := 0) (by omega))).mono ?_
        rintro e u' w'' ⟨rfl, rfl, rfl⟩
        exact taken_left hmk rb4 rc4 (G4) HN hmw hkw rfl rfl
      · rw [t1, t2]
        clear t1 t2 mu3
        obtain ⟨x, hx⟩ : ∃ x, Hid (us.length = x) := ⟨_, rfl⟩
        rw [hx.out]
        have dx : decide ((x : Int) < (x : Int)) = false := decide_eq_false (by omega)
        have dx2 : decide (x < x) = false := decide_eq_false (by omega)
        go_upto_region 3 with fail
        obtain ⟨W4, hW4⟩ : ∃ W, (w3.setCell ⟨m, 0, none⟩ (.slice av3 x c3)).setCell ⟨k, 0, none⟩ (.bool true) = W := ⟨_, rfl⟩
        have rb4 : RowAt W4 m 1 (fun _ => .slice av3 x c3) := by
          rw [← hW4]
          exact ((rb3.set (o := 0) (by omega) (.slice av3 x c3)).far (p := ⟨k, 0, none⟩) (Ne.symm hmk) _).same fun o ho => by
            have : o = 0 := by omega
            subst this; rfl
        have rc4 : RowAt W4 k 1 (fun _ => .bool true) := by
          rw [← hW4]
          exact ((rc3.far (p := ⟨m, 0, none⟩) hmk _).set (o := 0) (by omega) (.bool true)).same fun o ho => by
            have : o = 0 := by omega
            subst this; rfl
        have G4 : Gr p w W4 := by rw [← hW4]; exact gr_new (gr_new G3 ⟨m, 0, none⟩ hmw _) ⟨k, 0, none⟩ hkw _
        have r4 : SRd W4 p s (a + 5 + M1.lnAt s a) := by rw [← hW4]; exact (r3.far (p := ⟨m, 0, none⟩) hmp _).far (p := ⟨k, 0, none⟩) hkp _
        have hz4 : W4.heap.size = w3.heap.size := by rw [← hW4]; simp [World.setCell]
        rw [hW4]
        clear hW4
        have c4 := rb4.cell (o := 0) (by omega)
        have d4 := rc4.cell (o := 0) (by omega)
        have f4 := rb4.free (o := 0) (by omega)
        have g4 := rc4.free (o := 0) (by omega)
        have kl := rc4.lt
        have ml := rb4.lt
        go_wp2_with fail
        refine (want_no _ _).mono ?_
        rintro e w5 ⟨⟨t, v, rfl⟩, rfl⟩
        go_wp2_with fail
        refine leaves_cons (f := 58) (args := #[.pointer (some ⟨m, 0, none⟩), .pointer (some ⟨k, 0, none⟩)]) (by simp) (by simp [go_sem]) ?_
        refine (catch_panicking ⟨m, 0, none⟩ ⟨k, 0, none⟩ t v _ _ _ hmk (rb4.cell (o := 0) (by omega)) (rb4.free (o := 0) (by omega)) (rc4.cell (o := 0) (by omega)) (rc4.free (o := 0) (by omega))).mono ?_
        rintro e u' w'' ⟨rfl, rfl, rfl⟩
        exact taken_left hmk rb4 rc4 (G4) HN hmw hkw rfl rfl
  · have HN : Hid (M1.stR s us a = none) := M1.stR_none HU.out
    have rb1 := rb0.gr G1 hmp
    have rc1 := rc0.gr G1 hkp
    go_wp2_with fail
    refine leaves_cons (f := 58) (args := #[.pointer (some ⟨m, 0, none⟩), .pointer (some ⟨k, 0, none⟩)]) (by simp) (by simp [go_sem]) ?_
    refine (catch_panicking ⟨m, 0, none⟩ ⟨k, 0, none⟩ t v _ _ _ hmk (rb1.cell (o := 0) (by omega)) (rb1.free (o := 0) (by omega)) (rc1.cell (o := 0) (by omega)) (rc1.free (o := 0) (by omega))).mono ?_
    rintro e u' w'' ⟨rfl, rfl, rfl⟩
    exact taken_left hmk rb1 rc1 (gr_trans G0 G1) HN hmw hkw rfl rfl
end Go.Proofs.YtbhidjagmonnaaaGreatDoor
