/-
  Texts of one proof, joined: Rs1.
-/
import Derived.Test.YtbhidjagmonnaaaGreatDoorZSegments40
import Derived.Test.YtbhidjagmonnaaaGreatDoorZSegments17
import Derived.Test.YtbhidjagmonnaaaGreatDoorZSegments06
import Derived.Test.YtbhidjagmonnaaaGreatDoorZSegments41
import Derived.Test.YtbhidjagmonnaaaGreatDoorZSegments35
import Derived.Test.YtbhidjagmonnaaaGreatDoorZSegments21
import Derived.Test.YtbhidjagmonnaaaGreatDoorZSegments18
import Derived.Test.YtbhidjagmonnaaaGreatDoorZSegments20
namespace Go.Proofs.YtbhidjagmonnaaaGreatDoor
open Go.ChangeShapes Go.WideShapes Go.ChangeAt Go.RowKit
set_option linter.unusedSimpArgs false
set_option linter.unusedVariables false

theorem MU.wider {w : World} {av : Option Addr} {n cap lo hi lo' hi' : Nat} {f : Nat → Value} (h : MU w av n cap lo hi f) (h1 : lo' ≤ lo) (h2 : hi ≤ hi') : MU w av n cap lo' hi' f :=
  ⟨h.1, h.2.1, h.2.2.imp id fun ⟨k, e, h3, h4, r⟩ => ⟨k, e, by omega, by omega, r⟩⟩
theorem ok_short {us : List M1.Upd} (h : M1.setOk us = true) : ∀ i, i < us.length → (M1.up us i).s.size ≤ maxLen := fun i hi => by
  have := M1.ok_txt (M1.okAt_ok (M1.setOk_all h i hi))
  unfold maxLen; omega
/-- What is recovered: a list of its own, and the place. -/
def Rcd (w w' : World) (e : Ending) (s : ByteArray) : Prop := ∃ av cap, e = .returned (.tuple #[.slice av (M1.rcv s [] 0).1.length cap, .int .i64 ((M1.rcv s [] 0).2 : Nat)]) ∧ MU w' av (M1.rcv s [] 0).1.length cap w.heap.size w'.heap.size (ucell (M1.rcv s [] 0).1)
theorem rcd_of {w w' : World} {s : ByteArray} {us : List M1.Upd} {a : Nat} {av : Option Addr} {cap : Nat} (h : M1.rcv s us a = M1.rcv s [] 0) (h2 : M1.stR s us a = none) (mu : MU w' av us.length cap w.heap.size w'.heap.size (ucell us)) :
    Rcd w w' (.returned (.tuple #[.slice av us.length cap, .int .i64 (a : Int)])) s := by
  have e : M1.rcv s [] 0 = (us, a) := by rw [← h, M1.rcv_none h2]
  unfold Rcd
  rw [e]
  exact ⟨av, cap, rfl, mu⟩

set_option maxHeartbeats 40000000 in
set_option maxRecDepth 100000 in
theorem recoveredFrom_spec (s : ByteArray) (w : World) (hs : s.size ≤ 2000000) :
    Calls Tryz.prog 14 #[.string s] w fun e w' => Rcd w w' e s ∧ Below w.heap.size w w' := by
  have own0 := ownsU_empty w 47
  have hA : Below w.heap.size w (w.alloc (.cells #[] 47)) := (Below.refl _ _).alloc (Nat.le_refl _) _
  obtain ⟨a0, c0, he, mu0⟩ := MU.of_owns own0
  injection he with e1 e2 e3; (try clear e2)
  subst e1
  subst e3
  go_enter Tryz.func14, Tryz.ntmps14
  go_upto_region 2 with fail
  obtain ⟨W, hWm⟩ : ∃ W, W = (w.alloc (.cells #[] 47)) := ⟨_, rfl⟩
  rw [← hWm] at mu0 hA ⊢
  clear hWm own0
  go_wp2_with fail
  go_loopw [4, 5] (fun v i wr => ∃ (us : List M1.Upd) (a : Nat) (av : Option Addr) (c : Nat), a ≤ s.size ∧ i = .int .i64 a ∧ v = .slice av us.length c ∧ MU wr av us.length c w.heap.size wr.heap.size (ucell us) ∧ Below w.heap.size w wr ∧ Hid (M1.setOk us = true) ∧ Hid (M1.rcv s us a = M1.rcv s [] 0)) (fun _ i _ => s.size - (intOf i).toNat)
  case atStart => exact ⟨[], 0, _, _, Nat.zero_le _, rfl, rfl, mu0, hA, rfl, rfl⟩
  case round =>
    clear mu0 hA
    obtain ⟨us, a, av, c, ha, rfl, rfl, mu, hB, HS, HR⟩ := hrel
    have hl60 : us.length ≤ 60 := M1.setOk_len HS.out
    have hsz := hB.size
    by_cases h1 : a + 5 ≤ s.size
    · have i0 : (0 : Int) ≤ (a : Int) := by omega
      have i1 : (a : Int) < (s.size : Int) := by omega
      have i2 : (a : Int) + 5 ≤ (s.size : Int) := by omega
      have hln := M1.ln_lt s a
      have hxl : s[a].toNat = M1.lnAt s a := M1.ln_get (by omega)
      obtain ⟨n, hn⟩ : ∃ n, Hid (M1.lnAt s a = n) := ⟨_, rfl⟩
      rw [hn.out] at hln hxl
      have j1 : IntKind.i64.wrap ((a : Int) + 5) = (a : Int) + 5 := IntWalk.i64_in _ (by omega)
      have j2 : IntKind.i64.wrap ((a : Int) + 5 + n) = (a : Int) + 5 + n := IntWalk.i64_in _ (by omega)
      have j3 : IntKind.i64.wrap ((a : Int) + 1) = (a : Int) + 1 := IntWalk.i64_in _ (by omega)
      go_wp2_with fail
      by_cases h2 : n ≤ 200
      · by_cases h3 : a + 5 + n ≤ s.size
        · have d1 : decide ((200 : Int) < (n : Int)) = false := decide_eq_false (by omega)
          have d2 : decide ((s.size : Int) < (a : Int) + 5 + n) = false := decide_eq_false (by omega)
          obtain ⟨z, hz⟩ : ∃ z, Hid (s.extract (a + 5) (a + 5 + n) = z) := ⟨_, rfl⟩
          obtain ⟨y, hy⟩ : ∃ y, Hid (s.extract (a + 1) (a + 5) = y) := ⟨_, rfl⟩
          have hs1 : ∀ w : World, Sem.run Tryz.prog (Instr.slice 9 (.string s) (some (.int .i64 ((a : Int) + 5))) (some (.int .i64 ((a : Int) + 5 + n))) none) w = .ok (.string z) w := fun w => by
            rw [run_slice_string (P := Tryz.prog) w 9 s .i64 .i64 ((a : Int) + 5) ((a : Int) + 5 + n) Tryz.underlying9 (by omega) (by omega) (by omega), ← hz.out]
            rfl
          have hs2 : ∀ w : World, Sem.run Tryz.prog (Instr.slice 9 (.string s) (some (.int .i64 ((a : Int) + 1))) (some (.int .i64 ((a : Int) + 5))) none) w = .ok (.string y) w := fun w => by
            rw [run_slice_string (P := Tryz.prog) w 9 s .i64 .i64 ((a : Int) + 1) ((a : Int) + 5) Tryz.underlying9 (by omega) (by omega) (by omega), ← hy.out]
            rfl
          have hzs : z.size ≤ maxLen := by rw [← hz.out, ByteArray.size_extract]; unfold maxLen; omega
          have hzd : Hid (M1.dataAt s a = z) := (by unfold M1.dataAt; rw [hn.out, ← hz.out] : _ = _)
          obtain ⟨b, hb⟩ : ∃ b, Hid (((M1.sumT z).toList == y.toList) = b) := ⟨_, rfl⟩
          refine wp_region_held_drew (S := fun w' => Kp wr w') (by kernel_rfl) ?_ (fun hHeld => ?_)
          · exact kp_zero _
          refine wpAnyH_take (i := 0) (v := ?_) rfl (by kernel_rfl) (by kernel_rfl) (by kernel_rfl) (fun _ _ _ h => h) (Or.inl ⟨by rfl, ?_⟩) hHeld ?_
          rotate_left
          · (intro w hSw; (try dsimp only at hSw); go_simp; try (with_reducible rfl))
          (try simp only [Act.put, aZ, bZ, cZ, dZ, eZ, fZ])
          refine wpAnyH_take (i := 1) (v := .bool false) rfl (by kernel_rfl) (by kernel_rfl) (by kernel_rfl) (fun _ _ _ h => h) (Or.inl ⟨by rfl, ?_⟩) hHeld ?_
          · (intro w hSw; (try dsimp only at hSw); go_simp; skip)
          (try simp only [Act.put, aZ, bZ, cZ, dZ, eZ, fZ])
          refine wpAnyH_take (i := 2) (v := ?_) rfl (by kernel_rfl) (by kernel_rfl) (by kernel_rfl) (fun _ _ _ h => h) (Or.inl ⟨by rfl, ?_⟩) hHeld ?_
          rotate_left
          · (intro w hSw; (try dsimp only at hSw); go_simp; try (with_reducible rfl))
          (try simp only [Act.put, aZ, bZ, cZ, dZ, eZ, fZ])
          refine wpAnyH_take (i := 3) (v := ?_) rfl (by kernel_rfl) (by kernel_rfl) (by kernel_rfl) (fun _ _ _ h => h) (Or.inl ⟨by rfl, ?_⟩) hHeld ?_
          rotate_left
          · (intro w hSw; (try dsimp only at hSw); go_simp; try (with_reducible rfl))
          (try simp only [Act.put, aZ, bZ, cZ, dZ, eZ, fZ])
          refine wpAnyH_take (i := 4) (v := .int .i64 ((a : Int) + 5)) rfl (by kernel_rfl) (by kernel_rfl) (by kernel_rfl) (fun _ _ _ h => h) (Or.inl ⟨by rfl, ?_⟩) hHeld ?_
          · (intro w hSw; (try dsimp only at hSw); go_simp; skip)
          (try simp only [Act.put, aZ, bZ, cZ, dZ, eZ, fZ])
          refine wpAnyH_take (i := 5) (v := ?_) rfl (by kernel_rfl) (by kernel_rfl) (by kernel_rfl) (fun _ _ _ h => h) (Or.inl ⟨by rfl, ?_⟩) hHeld ?_
          rotate_left
          · (intro w hSw; (try dsimp only at hSw); go_simp; try (with_reducible rfl))
          (try simp only [Act.put, aZ, bZ, cZ, dZ, eZ, fZ])
          refine wpAnyH_take (i := 6) (v := .int .i64 ((a : Int) + 5 + n)) rfl (by kernel_rfl) (by kernel_rfl) (by kernel_rfl) (fun _ _ _ h => h) (Or.inl ⟨by rfl, ?_⟩) hHeld ?_
          · (intro w hSw; (try dsimp only at hSw); go_simp; skip)
          (try simp only [Act.put, aZ, bZ, cZ, dZ, eZ, fZ])
          refine wpAnyH_take (i := 7) (v := ?_) rfl (by kernel_rfl) (by kernel_rfl) (by kernel_rfl) (fun _ _ _ h => h) (Or.inl ⟨by rfl, ?_⟩) hHeld ?_
          rotate_left
          · (intro w hSw; (try dsimp only at hSw); go_simp; try (with_reducible rfl))
          (try simp only [Act.put, aZ, bZ, cZ, dZ, eZ, fZ])
          refine wpAnyH_take (i := 8) (v := ?_) rfl (by kernel_rfl) (by kernel_rfl) (by kernel_rfl) (fun _ _ _ h => h) (Or.inl ⟨by rfl, ?_⟩) hHeld ?_
          rotate_left
          · (intro w hSw; (try dsimp only at hSw); go_simp; try (with_reducible rfl))
          (try simp only [Act.put, aZ, bZ, cZ, dZ, eZ, fZ])
          refine wpAnyH_take (i := 9) (v := .bool false) rfl (by kernel_rfl) (by kernel_rfl) (by kernel_rfl) (fun _ _ _ h => h) (Or.inl ⟨by rfl, ?_⟩) hHeld ?_
          · (intro w hSw; (try dsimp only at hSw); go_simp; skip)
          (try simp only [Act.put, aZ, bZ, cZ, dZ, eZ, fZ])
          refine wpAnyH_take (i := 10) (v := ?_) rfl (by kernel_rfl) (by kernel_rfl) (by kernel_rfl) (fun _ _ _ h => h) (Or.inl ⟨by rfl, ?_⟩) hHeld ?_
          rotate_left
          · (intro w hSw; (try dsimp only at hSw); go_simp; try (with_reducible rfl))
          (try simp only [Act.put, aZ, bZ, cZ, dZ, eZ, fZ])
          refine wpAnyH_take (i := 11) (v := ?_) rfl (by kernel_rfl) (by kernel_rfl) (by kernel_rfl) (fun _ _ _ h => h) (Or.inl ⟨by rfl, ?_⟩) hHeld ?_
          rotate_left
          · (intro w hSw; (try dsimp only at hSw); go_simp; try (with_reducible rfl))
          (try simp only [Act.put, aZ, bZ, cZ, dZ, eZ, fZ])
          refine wpAnyH_take (i := 12) (v := ?_) rfl (by kernel_rfl) (by kernel_rfl) (by kernel_rfl) (fun _ _ _ h => h) (Or.inl ⟨by rfl, ?_⟩) hHeld ?_
          rotate_left
          · (intro w hSw; (try dsimp only at hSw); go_simp; try (with_reducible rfl))
          (try simp only [Act.put, aZ, bZ, cZ, dZ, eZ, fZ])
          refine wpAnyH_take (i := 13) (v := ?_) rfl (by kernel_rfl) (by kernel_rfl) (by kernel_rfl) (fun _ _ _ h => h) (Or.inl ⟨by rfl, ?_⟩) hHeld ?_
          rotate_left
          · (intro w hSw; (try dsimp only at hSw); go_simp; try (with_reducible rfl))
          (try simp only [Act.put, aZ, bZ, cZ, dZ, eZ, fZ])
          refine wpAnyH_take (i := 14) (v := .int .i64 ((a : Int) + 5)) rfl (by kernel_rfl) (by kernel_rfl) (by kernel_rfl) (fun _ _ _ h => h) (Or.inl ⟨by rfl, ?_⟩) hHeld ?_
          · (intro w hSw; (try dsimp only at hSw); go_simp; skip)
          (try simp only [Act.put, aZ, bZ, cZ, dZ, eZ, fZ])
          refine wpAnyH_take (i := 15) (v := ?_) rfl (by kernel_rfl) (by kernel_rfl) (by kernel_rfl) (fun _ _ _ h => h) (Or.inl ⟨by rfl, ?_⟩) hHeld ?_
          rotate_left
          · (intro w hSw; (try dsimp only at hSw); go_simp; try (with_reducible rfl))
          (try simp only [Act.put, aZ, bZ, cZ, dZ, eZ, fZ])
          refine wpAnyH_take (i := 16) (v := .int .i64 ((a : Int) + 5)) rfl (by kernel_rfl) (by kernel_rfl) (by kernel_rfl) (fun _ _ _ h => h) (Or.inl ⟨by rfl, ?_⟩) hHeld ?_
          · (intro w hSw; (try dsimp only at hSw); go_simp; skip)
          (try simp only [Act.put, aZ, bZ, cZ, dZ, eZ, fZ])
          refine wpAnyH_take (i := 17) (v := ?_) rfl (by kernel_rfl) (by kernel_rfl) (by kernel_rfl) (fun _ _ _ h => h) (Or.inl ⟨by rfl, ?_⟩) hHeld ?_
          rotate_left
          · (intro w hSw; (try dsimp only at hSw); go_simp; try (with_reducible rfl))
          (try simp only [Act.put, aZ, bZ, cZ, dZ, eZ, fZ])
          refine wpAnyH_take (i := 18) (v := .int .i64 ((a : Int) + 5 + n)) rfl (by kernel_rfl) (by kernel_rfl) (by kernel_rfl) (fun _ _ _ h => h) (Or.inl ⟨by rfl, ?_⟩) hHeld ?_
          · (intro w hSw; (try dsimp only at hSw); go_simp; skip)
          (try simp only [Act.put, aZ, bZ, cZ, dZ, eZ, fZ])
          refine wpAnyH_take (i := 19) (v := .string z) rfl (by kernel_rfl) (by kernel_rfl) (by kernel_rfl) (fun _ _ _ h => h) (Or.inl ⟨by rfl, ?_⟩) hHeld ?_
          · (intro w hSw; (try dsimp only at hSw); go_simp; (try (rw [hs1]; rfl)))
          (try simp only [Act.put, aZ, bZ, cZ, dZ, eZ, fZ])
          refine wpAnyH_take (i := 21) (v := ?_) rfl (by kernel_rfl) (by kernel_rfl) (by kernel_rfl) (fun _ _ _ h => h) (Or.inl ⟨by rfl, ?_⟩) hHeld ?_
          rotate_left
          · (intro w hSw; (try dsimp only at hSw); go_simp; try (with_reducible rfl))
          (try simp only [Act.put, aZ, bZ, cZ, dZ, eZ, fZ])
          refine wpAnyH_take (i := 22) (v := ?_) rfl (by kernel_rfl) (by kernel_rfl) (by kernel_rfl) (fun _ _ _ h => h) (Or.inl ⟨by rfl, ?_⟩) hHeld ?_
          rotate_left
          · (intro w hSw; (try dsimp only at hSw); go_simp; try (with_reducible rfl))
          (try simp only [Act.put, aZ, bZ, cZ, dZ, eZ, fZ])
          refine wpAnyH_take (i := 23) (v := .int .i64 ((a : Int) + 1)) rfl (by kernel_rfl) (by kernel_rfl) (by kernel_rfl) (fun _ _ _ h => h) (Or.inl ⟨by rfl, ?_⟩) hHeld ?_
          · (intro w hSw; (try dsimp only at hSw); go_simp; skip)
          (try simp only [Act.put, aZ, bZ, cZ, dZ, eZ, fZ])
          refine wpAnyH_take (i := 24) (v := ?_) rfl (by kernel_rfl) (by kernel_rfl) (by kernel_rfl) (fun _ _ _ h => h) (Or.inl ⟨by rfl, ?_⟩) hHeld ?_
          rotate_left
          · (intro w hSw; (try dsimp only at hSw); go_simp; try (with_reducible rfl))
          (try simp only [Act.put, aZ, bZ, cZ, dZ, eZ, fZ])
          refine wpAnyH_take (i := 25) (v := .int .i64 ((a : Int) + 5)) rfl (by kernel_rfl) (by kernel_rfl) (by kernel_rfl) (fun _ _ _ h => h) (Or.inl ⟨by rfl, ?_⟩) hHeld ?_
          · (intro w hSw; (try dsimp only at hSw); go_simp; skip)
          (try simp only [Act.put, aZ, bZ, cZ, dZ, eZ, fZ])
          refine wpAnyH_take (i := 26) (v := .string y) rfl (by kernel_rfl) (by kernel_rfl) (by kernel_rfl) (fun _ _ _ h => h) (Or.inl ⟨by rfl, ?_⟩) hHeld ?_
          · (intro w hSw; (try dsimp only at hSw); go_simp; (try (rw [hs2]; rfl)))
          (try simp only [Act.put, aZ, bZ, cZ, dZ, eZ, fZ])
          refine wpAnyH_ready (rs := [20]) (by kernel_rfl) (by simp) ?_
          refine AllReadyH.cons (o := _) rfl (fun K hK => ?_) AllReadyH.nil
          go_simp
          (refine (l7Sum_any z _ hzs).mono ?_; rintro e w5 ⟨rfl, hb5⟩; go_wp2_with fail)
          refine hK.out _ _ ?_ (fun hHeld2 => ?_)
          · exact kp_step hHeld hb5
          clear hK K hHeld
          have hHeld := hHeld2
          clear hHeld2
          (try simp only [Act.put, aZ, bZ, cZ, dZ, eZ, fZ])
          refine wpAnyH_take (i := 27) (v := .bool (!b)) rfl (by kernel_rfl) (by kernel_rfl) (by kernel_rfl) (fun _ _ _ h => h) (Or.inl ⟨by rfl, ?_⟩) hHeld ?_
          · (intro w hSw; (try dsimp only at hSw); go_simp; (try simp [hb.out]))
          (try simp only [Act.put, aZ, bZ, cZ, dZ, eZ, fZ])
          refine wpAnyH_take (i := 28) (v := ?_) rfl (by kernel_rfl) (by kernel_rfl) (by kernel_rfl) (fun _ _ _ h => h) (Or.inl ⟨by rfl, ?_⟩) hHeld ?_
          rotate_left
          · (intro w hSw; (try dsimp only at hSw); go_simp; try (with_reducible rfl))
          (try simp only [Act.put, aZ, bZ, cZ, dZ, eZ, fZ])
          refine wpAnyH_done (by kernel_rfl) ?_ _
          have hK1 := hHeld.1
          clear hHeld hb5
          have hB1 := hB.trans (hK1.mono hB.size)
          have mu1 := mu.below hK1
          have hs5 := hK1.size
          clear hK1 mu
          cases b with
          | false =>
            have HN : Hid (M1.stR s us a = none) := M1.stR_none (M1.frU_no fun q => by
              have := q.2.2.2
              rw [hzd.out, hy.out] at this
              have h9 := hb.out
              rw [this] at h9
              simp at h9)
            go_wp2_with fail
            refine bodyPost_ret (v := .tuple #[.slice av us.length c, .int .i64 (a : Int)]) (by simp [results, Tryz.results14, go_sem]) rfl ?_
            exact ⟨rcd_of HR.out HN.out (mu1.wider (Nat.le_refl _) hs5), hB1⟩
          | true =>
            have HF : Hid (M1.frU s a = M1.rdU z.data.toList) := (by
              rw [M1.frU_yes ⟨h1, by rw [hn.out]; exact h2, by rw [hn.out]; exact h3, by rw [hzd.out, hy.out]; exact bytes_inj (by have := hb.out; simpa using this)⟩, hzd.out] : _ = _)
            go_wp2_with fail
            refine (readUpdate_spec z _ hzs).mono ?_
            rintro e w6 ⟨rfl, hb6⟩
            have hB6 := hB1.trans (hb6.mono hB1.size)
            have mu6 := mu1.below hb6
            have hs6 := hb6.size
            clear mu1 hb6
            cases hu : M1.rdU z.data.toList with
            | none =>
              have HN : Hid (M1.stR s us a = none) := M1.stR_none (by rw [HF.out, hu])
              have E := rdW_none hu
              rw [E]
              clear E hu
              go_upto_region 7 with fail
              obtain ⟨W7, hW7⟩ : ∃ W, w6.alloc (.cells #[.int .i64 0, .int .i64 0, .int .i64 0, .int .i64 0, .int .i64 0, .int .i64 0, .int .i64 0, .int .i64 0, .int .i64 0, .string ByteArray.empty, .int .i64 0, .int .i64 0, .int .i64 0] 47) = W := ⟨_, rfl⟩
              have hA7 : Below w6.heap.size w6 W7 := by rw [← hW7]; exact (Below.refl _ _).alloc (Nat.le_refl _) _
              have rq7 : RowAt W7 w6.heap.size 13 (uq M1.zeroU) := by rw [← hW7]; exact uq_new w6 M1.zeroU 47
              rw [hW7]
              clear hW7
              have mu7 := mu6.below hA7
              have hB7 := hB6.trans (hA7.mono hB6.size)
              have hs7 := hA7.size
              clear mu6 hA7
              obtain ⟨p, hp⟩ : ∃ p, Hid (w6.heap.size = p) := ⟨_, rfl⟩
              have hpw : wr.heap.size ≤ p := by have := hp.out; omega
              rw [hp.out] at rq7 ⊢
              have rl7 := rq7.lt
              refine wp_region_held_drew (S := fun w' => Kp W7 w') (by kernel_rfl) ?_ (fun hHeld => ?_)
              · exact kp_zero _
              refine wpAnyH_take (i := 0) (v := ?_) rfl (by kernel_rfl) (by kernel_rfl) (by kernel_rfl) (fun _ _ _ h => h) (Or.inl ⟨by rfl, ?_⟩) hHeld ?_
              rotate_left
              · (intro w hSw; (try dsimp only at hSw); go_simp; try (with_reducible rfl))
              (try simp only [Act.put, aZ, bZ, cZ, dZ, eZ, fZ])
              refine wpAnyH_take (i := 1) (v := .bool true) rfl (by kernel_rfl) (by kernel_rfl) (by kernel_rfl) (fun _ _ _ h => h) (Or.inl ⟨by rfl, ?_⟩) hHeld ?_
              · (intro w hSw; (try dsimp only at hSw); go_simp; skip)
              (try simp only [Act.put, aZ, bZ, cZ, dZ, eZ, fZ])
              refine wpAnyH_take (i := 2) (v := ?_) rfl (by kernel_rfl) (by kernel_rfl) (by kernel_rfl) (fun _ _ _ h => h) (Or.inl ⟨by rfl, ?_⟩) hHeld ?_
              rotate_left
              · (intro w hSw; (try dsimp only at hSw); go_simp; try (with_reducible rfl))
              (try simp only [Act.put, aZ, bZ, cZ, dZ, eZ, fZ])
              refine wpAnyH_take (i := 3) (v := undef) rfl (by kernel_rfl) (by kernel_rfl) (by kernel_rfl) (fun _ _ _ h => h) (Or.inr ⟨by rfl, rfl⟩) hHeld ?_
              (try simp only [Act.put, aZ, bZ, cZ, dZ, eZ, fZ])
              refine wpAnyH_take (i := 4) (v := undef) rfl (by kernel_rfl) (by kernel_rfl) (by kernel_rfl) (fun _ _ _ h => h) (Or.inr ⟨by rfl, rfl⟩) hHeld ?_
              (try simp only [Act.put, aZ, bZ, cZ, dZ, eZ, fZ])
              refine wpAnyH_take (i := 5) (v := undef) rfl (by kernel_rfl) (by kernel_rfl) (by kernel_rfl) (fun _ _ _ h => h) (Or.inr ⟨by rfl, rfl⟩) hHeld ?_
              (try simp only [Act.put, aZ, bZ, cZ, dZ, eZ, fZ])
              refine wpAnyH_take (i := 6) (v := undef) rfl (by kernel_rfl) (by kernel_rfl) (by kernel_rfl) (fun _ _ _ h => h) (Or.inr ⟨by rfl, rfl⟩) hHeld ?_
              (try simp only [Act.put, aZ, bZ, cZ, dZ, eZ, fZ])
              refine wpAnyH_take (i := 7) (v := undef) rfl (by kernel_rfl) (by kernel_rfl) (by kernel_rfl) (fun _ _ _ h => h) (Or.inr ⟨by rfl, rfl⟩) hHeld ?_
              (try simp only [Act.put, aZ, bZ, cZ, dZ, eZ, fZ])
              refine wpAnyH_take (i := 8) (v := undef) rfl (by kernel_rfl) (by kernel_rfl) (by kernel_rfl) (fun _ _ _ h => h) (Or.inr ⟨by rfl, rfl⟩) hHeld ?_
              (try simp only [Act.put, aZ, bZ, cZ, dZ, eZ, fZ])
              refine wpAnyH_take (i := 9) (v := undef) rfl (by kernel_rfl) (by kernel_rfl) (by kernel_rfl) (fun _ _ _ h => h) (Or.inr ⟨by rfl, rfl⟩) hHeld ?_
              (try simp only [Act.put, aZ, bZ, cZ, dZ, eZ, fZ])
              refine wpAnyH_take (i := 10) (v := undef) rfl (by kernel_rfl) (by kernel_rfl) (by kernel_rfl) (fun _ _ _ h => h) (Or.inr ⟨by rfl, rfl⟩) hHeld ?_
              (try simp only [Act.put, aZ, bZ, cZ, dZ, eZ, fZ])
              refine wpAnyH_take (i := 11) (v := undef) rfl (by kernel_rfl) (by kernel_rfl) (by kernel_rfl) (fun _ _ _ h => h) (Or.inr ⟨by rfl, rfl⟩) hHeld ?_
              (try simp only [Act.put, aZ, bZ, cZ, dZ, eZ, fZ])
              refine wpAnyH_take (i := 12) (v := undef) rfl (by kernel_rfl) (by kernel_rfl) (by kernel_rfl) (fun _ _ _ h => h) (Or.inr ⟨by rfl, rfl⟩) hHeld ?_
              (try simp only [Act.put, aZ, bZ, cZ, dZ, eZ, fZ])
              refine wpAnyH_take (i := 13) (v := undef) rfl (by kernel_rfl) (by kernel_rfl) (by kernel_rfl) (fun _ _ _ h => h) (Or.inr ⟨by rfl, rfl⟩) hHeld ?_
              (try simp only [Act.put, aZ, bZ, cZ, dZ, eZ, fZ])
              refine wpAnyH_take (i := 14) (v := ?_) rfl (by kernel_rfl) (by kernel_rfl) (by kernel_rfl) (fun _ _ _ h => h) (Or.inl ⟨by rfl, ?_⟩) hHeld ?_
              rotate_left
              · (intro w hSw; (try dsimp only at hSw); go_simp; try (with_reducible rfl))
              (try simp only [Act.put, aZ, bZ, cZ, dZ, eZ, fZ])
              refine wpAnyH_done (by kernel_rfl) ?_ _
              have hK1 := hHeld.1
              clear hHeld
              have hB8 := hB7.trans (hK1.mono hB7.size)
              have mu8 := mu7.below hK1
              have hs8 := hK1.size
              clear hK1
              go_wp2_with fail
              refine bodyPost_ret (v := .tuple #[.slice av us.length c, .int .i64 (a : Int)]) (by simp [results, Tryz.results14, go_sem]) rfl ?_
              exact ⟨rcd_of HR.out HN.out (mu8.wider (Nat.le_refl _) (by omega)), hB8⟩
            | some u =>
              have HU : Hid (M1.frU s a = some u) := (by rw [HF.out, hu] : _ = _)
              have hok : M1.okU u = true := M1.rdU_ok hu
              obtain ⟨d1, d5, _, _⟩ := M1.okU_dot hok
              have E := rdW_some hu
              rw [E]
              clear E hu
              go_upto_region 7 with fail
              obtain ⟨W7, hW7⟩ : ∃ W, w6.alloc (.cells #[.int .i64 u.dr, .int .i64 u.dn, .int .i64 u.sw, .int .i64 u.sc, .int .i64 u.sr, .int .i64 u.k, .int .i64 u.tr, .int .i64 u.id, .int .i64 u.pa, .string u.s, .int .i64 u.st, .int .i64 u.en, .int .i64 u.lv] 47) = W := ⟨_, rfl⟩
              have hA7 : Below w6.heap.size w6 W7 := by rw [← hW7]; exact (Below.refl _ _).alloc (Nat.le_refl _) _
              have rq7 : RowAt W7 w6.heap.size 13 (uq u) := by rw [← hW7]; exact uq_new w6 u 47
              rw [hW7]
              clear hW7
              have mu7 := mu6.below hA7
              have hB7 := hB6.trans (hA7.mono hB6.size)
              have hs7 := hA7.size
              clear mu6 hA7
              obtain ⟨p, hp⟩ : ∃ p, Hid (w6.heap.size = p) := ⟨_, rfl⟩
              have hpw : wr.heap.size ≤ p := by have := hp.out; omega
              rw [hp.out] at rq7 ⊢
              have rl7 := rq7.lt
              obtain ⟨q0, q1, _, _, _, _, _, _, _, _, _, _, _⟩ := uq_cells rq7
              have uq7 := mu7.upds rfl (ok_short HS.out)
              obtain ⟨y2, hy2⟩ : ∃ y2, Hid (M1.fm (M1.l3v us) u.dr = y2) := ⟨_, rfl⟩
              have LB := M1.lastN_bd (M1.setOk_all HS.out) u.dr us.length (Nat.le_refl _)
              rw [← (M1.LInv.start (M1.setOk_all HS.out)).fm (M1.ok_sorted (M1.setOk_all HS.out)) d1 d5, hy2.out] at LB
              have j5 : IntKind.i64.wrap (y2 + 1) = y2 + 1 := IntWalk.i64_in _ (by omega)
              obtain ⟨t, ht⟩ : ∃ t, Hid (decide (u.dn = y2 + 1) = t) := ⟨_, rfl⟩
              refine wp_region_held_drew (S := fun w' => Kp W7 w') (by kernel_rfl) ?_ (fun hHeld => ?_)
              · exact kp_zero _
              refine wpAnyH_take (i := 0) (v := ?_) rfl (by kernel_rfl) (by kernel_rfl) (by kernel_rfl) (fun _ _ _ h => h) (Or.inl ⟨by rfl, ?_⟩) hHeld ?_
              rotate_left
              · (intro w hSw; (try dsimp only at hSw); go_simp; try (with_reducible rfl))
              (try simp only [Act.put, aZ, bZ, cZ, dZ, eZ, fZ])
              refine wpAnyH_take (i := 1) (v := .bool false) rfl (by kernel_rfl) (by kernel_rfl) (by kernel_rfl) (fun _ _ _ h => h) (Or.inl ⟨by rfl, ?_⟩) hHeld ?_
              · (intro w hSw; (try dsimp only at hSw); go_simp; skip)
              (try simp only [Act.put, aZ, bZ, cZ, dZ, eZ, fZ])
              refine wpAnyH_take (i := 2) (v := ?_) rfl (by kernel_rfl) (by kernel_rfl) (by kernel_rfl) (fun _ _ _ h => h) (Or.inl ⟨by rfl, ?_⟩) hHeld ?_
              rotate_left
              · (intro w hSw; (try dsimp only at hSw); go_simp; try (with_reducible rfl))
              (try simp only [Act.put, aZ, bZ, cZ, dZ, eZ, fZ])
              refine wpAnyH_take (i := 3) (v := ?_) rfl (by kernel_rfl) (by kernel_rfl) (by kernel_rfl) (fun _ _ _ h => h) (Or.inl ⟨by rfl, ?_⟩) hHeld ?_
              rotate_left
              · (intro w hSw; (try dsimp only at hSw); go_simp; try (with_reducible rfl))
              (try simp only [Act.put, aZ, bZ, cZ, dZ, eZ, fZ])
              refine wpAnyH_take (i := 4) (v := ?_) rfl (by kernel_rfl) (by kernel_rfl) (by kernel_rfl) (fun _ _ _ h => h) (Or.inl ⟨by rfl, ?_⟩) hHeld ?_
              rotate_left
              · (intro w hSw; (try dsimp only at hSw); go_simp; try (with_reducible rfl))
              (try simp only [Act.put, aZ, bZ, cZ, dZ, eZ, fZ])
              refine wpAnyH_take (i := 5) (v := ?_) rfl (by kernel_rfl) (by kernel_rfl) (by kernel_rfl) (fun _ _ _ h => h) (Or.inl ⟨by rfl, ?_⟩) hHeld ?_
              rotate_left
              · (intro w hSw; (try dsimp only at hSw); go_simp; try (with_reducible rfl))
              (try simp only [Act.put, aZ, bZ, cZ, dZ, eZ, fZ])
              refine wpAnyH_take (i := 6) (v := ?_) rfl (by kernel_rfl) (by kernel_rfl) (by kernel_rfl) (fun _ _ _ h => h) (Or.inl ⟨by rfl, ?_⟩) hHeld ?_
              rotate_left
              · (intro w hSw; (try dsimp only at hSw); go_simp; try (with_reducible rfl))
              (try simp only [Act.put, aZ, bZ, cZ, dZ, eZ, fZ])
              refine wpAnyH_take (i := 8) (v := ?_) rfl (by kernel_rfl) (by kernel_rfl) (by kernel_rfl) (fun _ _ _ h => h) (Or.inl ⟨by rfl, ?_⟩) hHeld ?_
              rotate_left
              · (intro w hSw; (try dsimp only at hSw); go_simp; try (with_reducible rfl))
              (try simp only [Act.put, aZ, bZ, cZ, dZ, eZ, fZ])
              refine wpAnyH_take (i := 9) (v := ?_) rfl (by kernel_rfl) (by kernel_rfl) (by kernel_rfl) (fun _ _ _ h => h) (Or.inl ⟨by rfl, ?_⟩) hHeld ?_
              rotate_left
              · (intro w hSw; (try dsimp only at hSw); go_simp; try (with_reducible rfl))
              (try simp only [Act.put, aZ, bZ, cZ, dZ, eZ, fZ])
              refine wpAnyH_take (i := 10) (v := ?_) rfl (by kernel_rfl) (by kernel_rfl) (by kernel_rfl) (fun _ _ _ h => h) (Or.inl ⟨by rfl, ?_⟩) hHeld ?_
              rotate_left
              · (intro w hSw; (try dsimp only at hSw); go_simp; try (with_reducible rfl))
              (try simp only [Act.put, aZ, bZ, cZ, dZ, eZ, fZ])
              refine wpAnyH_ready (rs := [7]) (by kernel_rfl) (by simp) ?_
              refine AllReadyH.cons (o := _) rfl (fun K hK => ?_) AllReadyH.nil
              go_simp
              (refine (l3Vector_gen _ _ _ _ _ (uq7.below hHeld.1) (by omega)).mono ?_; rintro e w8 ⟨⟨v8, rfl, own8⟩, hb8⟩; obtain ⟨dv, dc, rfl, mv8⟩ := MV.of_owns own8; go_wp2_with fail)
              refine hK.out _ _ ?_ (fun hHeld2 => ?_)
              · exact kp_step hHeld hb8
              clear hK K hHeld
              have hHeld := hHeld2
              clear hHeld2
              (try simp only [Act.put, aZ, bZ, cZ, dZ, eZ, fZ])
              refine wpAnyH_ready (rs := [11]) (by kernel_rfl) (by simp) ?_
              refine AllReadyH.cons (o := _) rfl (fun K hK => ?_) AllReadyH.nil
              go_simp
              (refine (l1Of_gen _ _ _ _ _ _ (mv8.vec rfl)).mono ?_; rw [hy2.out]; rintro e w9 ⟨rfl, rfl⟩; go_wp2_with fail)
              refine hK.out _ _ ?_ (fun hHeld2 => ?_)
              · exact hHeld
              clear hK K hHeld
              have hHeld := hHeld2
              clear hHeld2
              (try simp only [Act.put, aZ, bZ, cZ, dZ, eZ, fZ])
              refine wpAnyH_take (i := 12) (v := .int .i64 (y2 + 1)) rfl (by kernel_rfl) (by kernel_rfl) (by kernel_rfl) (fun _ _ _ h => h) (Or.inl ⟨by rfl, ?_⟩) hHeld ?_
              · (intro w hSw; (try dsimp only at hSw); go_simp; skip)
              (try simp only [Act.put, aZ, bZ, cZ, dZ, eZ, fZ])
              refine wpAnyH_take (i := 13) (v := .bool (!t)) rfl (by kernel_rfl) (by kernel_rfl) (by kernel_rfl) (fun _ _ _ h => h) (Or.inl ⟨by rfl, ?_⟩) hHeld ?_
              · (intro w hSw; (try dsimp only at hSw); go_simp; (try (rw [← ht.out]; rfl)))
              (try simp only [Act.put, aZ, bZ, cZ, dZ, eZ, fZ])
              refine wpAnyH_take (i := 14) (v := ?_) rfl (by kernel_rfl) (by kernel_rfl) (by kernel_rfl) (fun _ _ _ h => h) (Or.inl ⟨by rfl, ?_⟩) hHeld ?_
              rotate_left
              · (intro w hSw; (try dsimp only at hSw); go_simp; try (with_reducible rfl))
              (try simp only [Act.put, aZ, bZ, cZ, dZ, eZ, fZ])
              refine wpAnyH_done (by kernel_rfl) ?_ _
              have hK1 := hHeld.1
              clear hHeld
              have hB8 := hB7.trans (hK1.mono hB7.size)
              have mu8 := mu7.below hK1
              have rq8 := rq7.below hK1
              have hs8 := hK1.size
              clear hK1 rq7 mu7 uq7 own8 mv8 hb8 q0 q1
              cases t with
              | false =>
                have HN : Hid (M1.stR s us a = none) := M1.stR_not HU.out (by
                  have h9 := ht.out
                  unfold M1.nxt
                  rw [hy2.out, h9]; rfl)
                go_wp2_with fail
                refine bodyPost_ret (v := .tuple #[.slice av us.length c, .int .i64 (a : Int)]) (by simp [results, Tryz.results14, go_sem]) rfl ?_
                exact ⟨rcd_of HR.out HN.out (mu8.wider (Nat.le_refl _) (by omega)), hB8⟩
              | true =>
                obtain ⟨q0, q1, q2, q3, q4, q5, q6, q7, q8, q9, q10, q11, q12⟩ := uq_cells rq8
                have uq8 := mu8.upds rfl (ok_short HS.out)
                go_wp2_with fail
                refine (l3Put_any _ _ _ _ u _ uq8 (by omega)).mono ?_
                rintro e w10 ⟨⟨v10, ns, rfl, hput, own10⟩, hb10⟩
                have hns : ns = M1.insD us u := M1.putR_ins hput
                subst hns
                obtain ⟨a10, c10, rfl, mu10⟩ := MU.of_owns own10
                have hB10 := hB8.trans (hb10.mono hB8.size)
                have mu9 := mu8.below hb10
                have hs10 := hb10.size
                have hsh : ∀ i, i < (M1.insD us u).length → (M1.up (M1.insD us u) i).s.size ≤ maxLen := fun i hi => by
                  rcases M1.insD_mem (M1.up_mem hi) with hm | hm
                  · obtain ⟨j, hj, e⟩ := M1.mem_up hm
                    rw [← e]; exact ok_short HS.out j hj
                  · rw [hm]
                    have := M1.ok_txt hok
                    unfold maxLen; omega
                have uq10 := mu10.upds rfl hsh
                clear hput own10 uq8 mu8 q0 q1 q2 q3 q4 q5 q6 q7 q8 q9 q10 q11 q12 rq8
                obtain ⟨ns, hns⟩ : ∃ ns, Hid (M1.insD us u = ns) := ⟨_, rfl⟩
                rw [hns.out] at mu10 uq10 hsh ⊢
                obtain ⟨k, hk⟩ : ∃ k, Hid (M1.setOk ns = k) := ⟨_, rfl⟩
                go_wp2_with fail
                refine (setOk_spec _ _ _ _ _ uq10).mono ?_
                rw [hk.out]
                rintro e w11 ⟨rfl, hb11⟩
                have hB11 := hB10.trans (hb11.mono hB10.size)
                have mu11 := mu10.below hb11
                have mu12 := mu9.below hb11
                have hs11 := hb11.size
                clear mu10 mu9 uq10
                cases k with
                | false =>
                  have HN : Hid (M1.stR s us a = none) := M1.stR_not HU.out (by unfold M1.nxt; rw [hns.out, hk.out]; simp)
                  go_wp2_with fail
                  refine bodyPost_ret (v := .tuple #[.slice av us.length c, .int .i64 (a : Int)]) (by simp [results, Tryz.results14, go_sem]) rfl ?_
                  exact ⟨rcd_of HR.out HN.out (mu12.wider (Nat.le_refl _) (by omega)), hB11⟩
                | true =>
                  have HY : Hid (M1.stR s us a = some u) := M1.stR_yes HU.out (by unfold M1.nxt; rw [hns.out, hk.out, hy2.out, ht.out]; rfl)
                  have HR2 : Hid (M1.rcv s ns (a + 5 + n) = M1.rcv s [] 0) := (by rw [← HR.out, M1.rcv_some HY.out, hns.out, hn.out] : _ = _)
                  go_wp2_with fail
                  refine ⟨⟨ns, a + 5 + n, a10, c10, h3, by go_num, rfl, mu11.wider (by omega) (by omega), hB11, hk, HR2⟩, by simp [intOf]; omega⟩
        · have HN : Hid (M1.stR s us a = none) := M1.stR_none (M1.frU_no fun q => h3 (by have := q.2.2.1; rw [hn.out] at this; exact this))
          have d1 : decide ((200 : Int) < (n : Int)) = false := decide_eq_false (by omega)
          have d2 : decide ((s.size : Int) < (a : Int) + 5 + n) = true := decide_eq_true (by omega)
          refine wp_region_held_drew (S := fun w' => Kp wr w') (by kernel_rfl) ?_ (fun hHeld => ?_)
          · exact kp_zero _
          refine wpAnyH_take (i := 0) (v := ?_) rfl (by kernel_rfl) (by kernel_rfl) (by kernel_rfl) (fun _ _ _ h => h) (Or.inl ⟨by rfl, ?_⟩) hHeld ?_
          rotate_left
          · (intro w hSw; (try dsimp only at hSw); go_simp; try (with_reducible rfl))
          (try simp only [Act.put, aZ, bZ, cZ, dZ, eZ, fZ])
          refine wpAnyH_take (i := 1) (v := .bool false) rfl (by kernel_rfl) (by kernel_rfl) (by kernel_rfl) (fun _ _ _ h => h) (Or.inl ⟨by rfl, ?_⟩) hHeld ?_
          · (intro w hSw; (try dsimp only at hSw); go_simp; skip)
          (try simp only [Act.put, aZ, bZ, cZ, dZ, eZ, fZ])
          refine wpAnyH_take (i := 2) (v := ?_) rfl (by kernel_rfl) (by kernel_rfl) (by kernel_rfl) (fun _ _ _ h => h) (Or.inl ⟨by rfl, ?_⟩) hHeld ?_
          rotate_left
          · (intro w hSw; (try dsimp only at hSw); go_simp; try (with_reducible rfl))
          (try simp only [Act.put, aZ, bZ, cZ, dZ, eZ, fZ])
          refine wpAnyH_take (i := 3) (v := ?_) rfl (by kernel_rfl) (by kernel_rfl) (by kernel_rfl) (fun _ _ _ h => h) (Or.inl ⟨by rfl, ?_⟩) hHeld ?_
          rotate_left
          · (intro w hSw; (try dsimp only at hSw); go_simp; try (with_reducible rfl))
          (try simp only [Act.put, aZ, bZ, cZ, dZ, eZ, fZ])
          refine wpAnyH_take (i := 4) (v := .int .i64 ((a : Int) + 5)) rfl (by kernel_rfl) (by kernel_rfl) (by kernel_rfl) (fun _ _ _ h => h) (Or.inl ⟨by rfl, ?_⟩) hHeld ?_
          · (intro w hSw; (try dsimp only at hSw); go_simp; skip)
          (try simp only [Act.put, aZ, bZ, cZ, dZ, eZ, fZ])
          refine wpAnyH_take (i := 5) (v := ?_) rfl (by kernel_rfl) (by kernel_rfl) (by kernel_rfl) (fun _ _ _ h => h) (Or.inl ⟨by rfl, ?_⟩) hHeld ?_
          rotate_left
          · (intro w hSw; (try dsimp only at hSw); go_simp; try (with_reducible rfl))
          (try simp only [Act.put, aZ, bZ, cZ, dZ, eZ, fZ])
          refine wpAnyH_take (i := 6) (v := .int .i64 ((a : Int) + 5 + n)) rfl (by kernel_rfl) (by kernel_rfl) (by kernel_rfl) (fun _ _ _ h => h) (Or.inl ⟨by rfl, ?_⟩) hHeld ?_
          · (intro w hSw; (try dsimp only at hSw); go_simp; skip)
          (try simp only [Act.put, aZ, bZ, cZ, dZ, eZ, fZ])
          refine wpAnyH_take (i := 7) (v := ?_) rfl (by kernel_rfl) (by kernel_rfl) (by kernel_rfl) (fun _ _ _ h => h) (Or.inl ⟨by rfl, ?_⟩) hHeld ?_
          rotate_left
          · (intro w hSw; (try dsimp only at hSw); go_simp; try (with_reducible rfl))
          (try simp only [Act.put, aZ, bZ, cZ, dZ, eZ, fZ])
          refine wpAnyH_take (i := 8) (v := ?_) rfl (by kernel_rfl) (by kernel_rfl) (by kernel_rfl) (fun _ _ _ h => h) (Or.inl ⟨by rfl, ?_⟩) hHeld ?_
          rotate_left
          · (intro w hSw; (try dsimp only at hSw); go_simp; try (with_reducible rfl))
          (try simp only [Act.put, aZ, bZ, cZ, dZ, eZ, fZ])
          refine wpAnyH_take (i := 9) (v := .bool true) rfl (by kernel_rfl) (by kernel_rfl) (by kernel_rfl) (fun _ _ _ h => h) (Or.inl ⟨by rfl, ?_⟩) hHeld ?_
          · (intro w hSw; (try dsimp only at hSw); go_simp; skip)
          (try simp only [Act.put, aZ, bZ, cZ, dZ, eZ, fZ])
          refine wpAnyH_take (i := 10) (v := ?_) rfl (by kernel_rfl) (by kernel_rfl) (by kernel_rfl) (fun _ _ _ h => h) (Or.inl ⟨by rfl, ?_⟩) hHeld ?_
          rotate_left
          · (intro w hSw; (try dsimp only at hSw); go_simp; try (with_reducible rfl))
          (try simp only [Act.put, aZ, bZ, cZ, dZ, eZ, fZ])
          refine wpAnyH_take (i := 11) (v := ?_) rfl (by kernel_rfl) (by kernel_rfl) (by kernel_rfl) (fun _ _ _ h => h) (Or.inl ⟨by rfl, ?_⟩) hHeld ?_
          rotate_left
          · (intro w hSw; (try dsimp only at hSw); go_simp; try (with_reducible rfl))
          (try simp only [Act.put, aZ, bZ, cZ, dZ, eZ, fZ])
          refine wpAnyH_take (i := 12) (v := undef) rfl (by kernel_rfl) (by kernel_rfl) (by kernel_rfl) (fun _ _ _ h => h) (Or.inr ⟨by rfl, rfl⟩) hHeld ?_
          (try simp only [Act.put, aZ, bZ, cZ, dZ, eZ, fZ])
          refine wpAnyH_take (i := 13) (v := undef) rfl (by kernel_rfl) (by kernel_rfl) (by kernel_rfl) (fun _ _ _ h => h) (Or.inr ⟨by rfl, rfl⟩) hHeld ?_
          (try simp only [Act.put, aZ, bZ, cZ, dZ, eZ, fZ])
          refine wpAnyH_take (i := 14) (v := undef) rfl (by kernel_rfl) (by kernel_rfl) (by kernel_rfl) (fun _ _ _ h => h) (Or.inr ⟨by rfl, rfl⟩) hHeld ?_
          (try simp only [Act.put, aZ, bZ, cZ, dZ, eZ, fZ])
          refine wpAnyH_take (i := 15) (v := undef) rfl (by kernel_rfl) (by kernel_rfl) (by kernel_rfl) (fun _ _ _ h => h) (Or.inr ⟨by rfl, rfl⟩) hHeld ?_
          (try simp only [Act.put, aZ, bZ, cZ, dZ, eZ, fZ])
          refine wpAnyH_take (i := 16) (v := undef) rfl (by kernel_rfl) (by kernel_rfl) (by kernel_rfl) (fun _ _ _ h => h) (Or.inr ⟨by rfl, rfl⟩) hHeld ?_
          (try simp only [Act.put, aZ, bZ, cZ, dZ, eZ, fZ])
          refine wpAnyH_take (i := 17) (v := undef) rfl (by kernel_rfl) (by kernel_rfl) (by kernel_rfl) (fun _ _ _ h => h) (Or.inr ⟨by rfl, rfl⟩) hHeld ?_
          (try simp only [Act.put, aZ, bZ, cZ, dZ, eZ, fZ])
          refine wpAnyH_take (i := 18) (v := undef) rfl (by kernel_rfl) (by kernel_rfl) (by kernel_rfl) (fun _ _ _ h => h) (Or.inr ⟨by rfl, rfl⟩) hHeld ?_
          (try simp only [Act.put, aZ, bZ, cZ, dZ, eZ, fZ])
          refine wpAnyH_take (i := 19) (v := undef) rfl (by kernel_rfl) (by kernel_rfl) (by kernel_rfl) (fun _ _ _ h => h) (Or.inr ⟨by rfl, rfl⟩) hHeld ?_
          (try simp only [Act.put, aZ, bZ, cZ, dZ, eZ, fZ])
          refine wpAnyH_take (i := 20) (v := undef) rfl (by kernel_rfl) (by kernel_rfl) (by kernel_rfl) (fun _ _ _ h => h) (Or.inr ⟨by rfl, rfl⟩) hHeld ?_
          (try simp only [Act.put, aZ, bZ, cZ, dZ, eZ, fZ])
          refine wpAnyH_take (i := 21) (v := undef) rfl (by kernel_rfl) (by kernel_rfl) (by kernel_rfl) (fun _ _ _ h => h) (Or.inr ⟨by rfl, rfl⟩) hHeld ?_
          (try simp only [Act.put, aZ, bZ, cZ, dZ, eZ, fZ])
          refine wpAnyH_take (i := 22) (v := undef) rfl (by kernel_rfl) (by kernel_rfl) (by kernel_rfl) (fun _ _ _ h => h) (Or.inr ⟨by rfl, rfl⟩) hHeld ?_
          (try simp only [Act.put, aZ, bZ, cZ, dZ, eZ, fZ])
          refine wpAnyH_take (i := 23) (v := undef) rfl (by kernel_rfl) (by kernel_rfl) (by kernel_rfl) (fun _ _ _ h => h) (Or.inr ⟨by rfl, rfl⟩) hHeld ?_
          (try simp only [Act.put, aZ, bZ, cZ, dZ, eZ, fZ])
          refine wpAnyH_take (i := 24) (v := undef) rfl (by kernel_rfl) (by kernel_rfl) (by kernel_rfl) (fun _ _ _ h => h) (Or.inr ⟨by rfl, rfl⟩) hHeld ?_
          (try simp only [Act.put, aZ, bZ, cZ, dZ, eZ, fZ])
          refine wpAnyH_take (i := 25) (v := undef) rfl (by kernel_rfl) (by kernel_rfl) (by kernel_rfl) (fun _ _ _ h => h) (Or.inr ⟨by rfl, rfl⟩) hHeld ?_
          (try simp only [Act.put, aZ, bZ, cZ, dZ, eZ, fZ])
          refine wpAnyH_take (i := 26) (v := undef) rfl (by kernel_rfl) (by kernel_rfl) (by kernel_rfl) (fun _ _ _ h => h) (Or.inr ⟨by rfl, rfl⟩) hHeld ?_
          (try simp only [Act.put, aZ, bZ, cZ, dZ, eZ, fZ])
          refine wpAnyH_take (i := 27) (v := undef) rfl (by kernel_rfl) (by kernel_rfl) (by kernel_rfl) (fun _ _ _ h => h) (Or.inr ⟨by rfl, rfl⟩) hHeld ?_
          (try simp only [Act.put, aZ, bZ, cZ, dZ, eZ, fZ])
          refine wpAnyH_take (i := 28) (v := ?_) rfl (by kernel_rfl) (by kernel_rfl) (by kernel_rfl) (fun _ _ _ h => h) (Or.inl ⟨by rfl, ?_⟩) hHeld ?_
          rotate_left
          · (intro w hSw; (try dsimp only at hSw); go_simp; try (with_reducible rfl))
          (try simp only [Act.put, aZ, bZ, cZ, dZ, eZ, fZ])
          refine wpAnyH_done (by kernel_rfl) ?_ _
          have hK1 := hHeld.1
          clear hHeld
          have hB1 := hB.trans (hK1.mono hB.size)
          have mu1 := mu.below hK1
          have hs5 := hK1.size
          clear hK1 mu
          go_wp2_with fail
          refine bodyPost_ret (v := .tuple #[.slice av us.length c, .int .i64 (a : Int)]) (by simp [results, Tryz.results14, go_sem]) rfl ?_
          exact ⟨rcd_of HR.out HN.out (mu1.wider (Nat.le_refl _) hs5), hB1⟩
      · have HN : Hid (M1.stR s us a = none) := M1.stR_none (M1.frU_no fun q => h2 (by have := q.2.1; rw [hn.out] at this; exact this))
        have d1 : decide ((200 : Int) < (n : Int)) = true := decide_eq_true (by omega)
        refine wp_region_held_drew (S := fun w' => Kp wr w') (by kernel_rfl) ?_ (fun hHeld => ?_)
        · exact kp_zero _
        refine wpAnyH_take (i := 0) (v := ?_) rfl (by kernel_rfl) (by kernel_rfl) (by kernel_rfl) (fun _ _ _ h => h) (Or.inl ⟨by rfl, ?_⟩) hHeld ?_
        rotate_left
        · (intro w hSw; (try dsimp only at hSw); go_simp; try (with_reducible rfl))
        (try simp only [Act.put, aZ, bZ, cZ, dZ, eZ, fZ])
        refine wpAnyH_take (i := 1) (v := .bool true) rfl (by kernel_rfl) (by kernel_rfl) (by kernel_rfl) (fun _ _ _ h => h) (Or.inl ⟨by rfl, ?_⟩) hHeld ?_
        · (intro w hSw; (try dsimp only at hSw); go_simp; skip)
        (try simp only [Act.put, aZ, bZ, cZ, dZ, eZ, fZ])
        refine wpAnyH_take (i := 2) (v := ?_) rfl (by kernel_rfl) (by kernel_rfl) (by kernel_rfl) (fun _ _ _ h => h) (Or.inl ⟨by rfl, ?_⟩) hHeld ?_
        rotate_left
        · (intro w hSw; (try dsimp only at hSw); go_simp; try (with_reducible rfl))
        (try simp only [Act.put, aZ, bZ, cZ, dZ, eZ, fZ])
        refine wpAnyH_take (i := 3) (v := undef) rfl (by kernel_rfl) (by kernel_rfl) (by kernel_rfl) (fun _ _ _ h => h) (Or.inr ⟨by rfl, rfl⟩) hHeld ?_
        (try simp only [Act.put, aZ, bZ, cZ, dZ, eZ, fZ])
        refine wpAnyH_take (i := 4) (v := undef) rfl (by kernel_rfl) (by kernel_rfl) (by kernel_rfl) (fun _ _ _ h => h) (Or.inr ⟨by rfl, rfl⟩) hHeld ?_
        (try simp only [Act.put, aZ, bZ, cZ, dZ, eZ, fZ])
        refine wpAnyH_take (i := 5) (v := undef) rfl (by kernel_rfl) (by kernel_rfl) (by kernel_rfl) (fun _ _ _ h => h) (Or.inr ⟨by rfl, rfl⟩) hHeld ?_
        (try simp only [Act.put, aZ, bZ, cZ, dZ, eZ, fZ])
        refine wpAnyH_take (i := 6) (v := undef) rfl (by kernel_rfl) (by kernel_rfl) (by kernel_rfl) (fun _ _ _ h => h) (Or.inr ⟨by rfl, rfl⟩) hHeld ?_
        (try simp only [Act.put, aZ, bZ, cZ, dZ, eZ, fZ])
        refine wpAnyH_take (i := 7) (v := undef) rfl (by kernel_rfl) (by kernel_rfl) (by kernel_rfl) (fun _ _ _ h => h) (Or.inr ⟨by rfl, rfl⟩) hHeld ?_
        (try simp only [Act.put, aZ, bZ, cZ, dZ, eZ, fZ])
        refine wpAnyH_take (i := 8) (v := undef) rfl (by kernel_rfl) (by kernel_rfl) (by kernel_rfl) (fun _ _ _ h => h) (Or.inr ⟨by rfl, rfl⟩) hHeld ?_
        (try simp only [Act.put, aZ, bZ, cZ, dZ, eZ, fZ])
        refine wpAnyH_take (i := 9) (v := undef) rfl (by kernel_rfl) (by kernel_rfl) (by kernel_rfl) (fun _ _ _ h => h) (Or.inr ⟨by rfl, rfl⟩) hHeld ?_
        (try simp only [Act.put, aZ, bZ, cZ, dZ, eZ, fZ])
        refine wpAnyH_take (i := 10) (v := ?_) rfl (by kernel_rfl) (by kernel_rfl) (by kernel_rfl) (fun _ _ _ h => h) (Or.inl ⟨by rfl, ?_⟩) hHeld ?_
        rotate_left
        · (intro w hSw; (try dsimp only at hSw); go_simp; try (with_reducible rfl))
        (try simp only [Act.put, aZ, bZ, cZ, dZ, eZ, fZ])
        refine wpAnyH_take (i := 11) (v := ?_) rfl (by kernel_rfl) (by kernel_rfl) (by kernel_rfl) (fun _ _ _ h => h) (Or.inl ⟨by rfl, ?_⟩) hHeld ?_
        rotate_left
        · (intro w hSw; (try dsimp only at hSw); go_simp; try (with_reducible rfl))
        (try simp only [Act.put, aZ, bZ, cZ, dZ, eZ, fZ])
        refine wpAnyH_take (i := 12) (v := undef) rfl (by kernel_rfl) (by kernel_rfl) (by kernel_rfl) (fun _ _ _ h => h) (Or.inr ⟨by rfl, rfl⟩) hHeld ?_
        (try simp only [Act.put, aZ, bZ, cZ, dZ, eZ, fZ])
        refine wpAnyH_take (i := 13) (v := undef) rfl (by kernel_rfl) (by kernel_rfl) (by kernel_rfl) (fun _ _ _ h => h) (Or.inr ⟨by rfl, rfl⟩) hHeld ?_
        (try simp only [Act.put, aZ, bZ, cZ, dZ, eZ, fZ])
        refine wpAnyH_take (i := 14) (v := undef) rfl (by kernel_rfl) (by kernel_rfl) (by kernel_rfl) (fun _ _ _ h => h) (Or.inr ⟨by rfl, rfl⟩) hHeld ?_
        (try simp only [Act.put, aZ, bZ, cZ, dZ, eZ, fZ])
        refine wpAnyH_take (i := 15) (v := undef) rfl (by kernel_rfl) (by kernel_rfl) (by kernel_rfl) (fun _ _ _ h => h) (Or.inr ⟨by rfl, rfl⟩) hHeld ?_
        (try simp only [Act.put, aZ, bZ, cZ, dZ, eZ, fZ])
        refine wpAnyH_take (i := 16) (v := undef) rfl (by kernel_rfl) (by kernel_rfl) (by kernel_rfl) (fun _ _ _ h => h) (Or.inr ⟨by rfl, rfl⟩) hHeld ?_
        (try simp only [Act.put, aZ, bZ, cZ, dZ, eZ, fZ])
        refine wpAnyH_take (i := 17) (v := undef) rfl (by kernel_rfl) (by kernel_rfl) (by kernel_rfl) (fun _ _ _ h => h) (Or.inr ⟨by rfl, rfl⟩) hHeld ?_
        (try simp only [Act.put, aZ, bZ, cZ, dZ, eZ, fZ])
        refine wpAnyH_take (i := 18) (v := undef) rfl (by kernel_rfl) (by kernel_rfl) (by kernel_rfl) (fun _ _ _ h => h) (Or.inr ⟨by rfl, rfl⟩) hHeld ?_
        (try simp only [Act.put, aZ, bZ, cZ, dZ, eZ, fZ])
        refine wpAnyH_take (i := 19) (v := undef) rfl (by kernel_rfl) (by kernel_rfl) (by kernel_rfl) (fun _ _ _ h => h) (Or.inr ⟨by rfl, rfl⟩) hHeld ?_
        (try simp only [Act.put, aZ, bZ, cZ, dZ, eZ, fZ])
        refine wpAnyH_take (i := 20) (v := undef) rfl (by kernel_rfl) (by kernel_rfl) (by kernel_rfl) (fun _ _ _ h => h) (Or.inr ⟨by rfl, rfl⟩) hHeld ?_
        (try simp only [Act.put, aZ, bZ, cZ, dZ, eZ, fZ])
        refine wpAnyH_take (i := 21) (v := undef) rfl (by kernel_rfl) (by kernel_rfl) (by kernel_rfl) (fun _ _ _ h => h) (Or.inr ⟨by rfl, rfl⟩) hHeld ?_
        (try simp only [Act.put, aZ, bZ, cZ, dZ, eZ, fZ])
        refine wpAnyH_take (i := 22) (v := undef) rfl (by kernel_rfl) (by kernel_rfl) (by kernel_rfl) (fun _ _ _ h => h) (Or.inr ⟨by rfl, rfl⟩) hHeld ?_
        (try simp only [Act.put, aZ, bZ, cZ, dZ, eZ, fZ])
        refine wpAnyH_take (i := 23) (v := undef) rfl (by kernel_rfl) (by kernel_rfl) (by kernel_rfl) (fun _ _ _ h => h) (Or.inr ⟨by rfl, rfl⟩) hHeld ?_
        (try simp only [Act.put, aZ, bZ, cZ, dZ, eZ, fZ])
        refine wpAnyH_take (i := 24) (v := undef) rfl (by kernel_rfl) (by kernel_rfl) (by kernel_rfl) (fun _ _ _ h => h) (Or.inr ⟨by rfl, rfl⟩) hHeld ?_
        (try simp only [Act.put, aZ, bZ, cZ, dZ, eZ, fZ])
        refine wpAnyH_take (i := 25) (v := undef) rfl (by kernel_rfl) (by kernel_rfl) (by kernel_rfl) (fun _ _ _ h => h) (Or.inr ⟨by rfl, rfl⟩) hHeld ?_
        (try simp only [Act.put, aZ, bZ, cZ, dZ, eZ, fZ])
        refine wpAnyH_take (i := 26) (v := undef) rfl (by kernel_rfl) (by kernel_rfl) (by kernel_rfl) (fun _ _ _ h => h) (Or.inr ⟨by rfl, rfl⟩) hHeld ?_
        (try simp only [Act.put, aZ, bZ, cZ, dZ, eZ, fZ])
        refine wpAnyH_take (i := 27) (v := undef) rfl (by kernel_rfl) (by kernel_rfl) (by kernel_rfl) (fun _ _ _ h => h) (Or.inr ⟨by rfl, rfl⟩) hHeld ?_
        (try simp only [Act.put, aZ, bZ, cZ, dZ, eZ, fZ])
        refine wpAnyH_take (i := 28) (v := ?_) rfl (by kernel_rfl) (by kernel_rfl) (by kernel_rfl) (fun _ _ _ h => h) (Or.inl ⟨by rfl, ?_⟩) hHeld ?_
        rotate_left
        · (intro w hSw; (try dsimp only at hSw); go_simp; try (with_reducible rfl))
        (try simp only [Act.put, aZ, bZ, cZ, dZ, eZ, fZ])
        refine wpAnyH_done (by kernel_rfl) ?_ _
        have hK1 := hHeld.1
        clear hHeld
        have hB1 := hB.trans (hK1.mono hB.size)
        have mu1 := mu.below hK1
        have hs5 := hK1.size
        clear hK1 mu
        go_wp2_with fail
        refine bodyPost_ret (v := .tuple #[.slice av us.length c, .int .i64 (a : Int)]) (by simp [results, Tryz.results14, go_sem]) rfl ?_
        exact ⟨rcd_of HR.out HN.out (mu1.wider (Nat.le_refl _) hs5), hB1⟩
    · have HN : Hid (M1.stR s us a = none) := M1.stR_none (M1.frU_no fun q => h1 q.1)
      have i2 : ¬ (a : Int) + 5 ≤ (s.size : Int) := by omega
      have i3 : IntKind.i64.wrap ((a : Int) + 5) = (a : Int) + 5 := IntWalk.i64_in _ (by omega)
      go_wp2_with fail
      refine bodyPost_ret (v := .tuple #[.slice av us.length c, .int .i64 (a : Int)]) (by simp [results, Tryz.results14, go_sem]) rfl ?_
      exact ⟨rcd_of HR.out HN.out mu, hB⟩
end Go.Proofs.YtbhidjagmonnaaaGreatDoor
