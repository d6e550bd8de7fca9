/-
  Texts of one proof, joined: RdrAll, SinceI, RdrSome, DrawK.
-/
import Derived.Test.YtccendmoeelniaaGreatDoorZFIssued26
import Derived.Test.YtccendmoeelniaaGreatDoorZFIssued02
import Derived.Test.YtccendmoeelniaaGreatDoorZFIssued37
import Derived.Test.YtccendmoeelniaaGreatDoorZFIssued10
import Derived.Test.YtccendmoeelniaaGreatDoorZFIssued45
import Derived.Test.YtccendmoeelniaaGreatDoorZFIssued11
import Derived.Test.YtccendmoeelniaaGreatDoorZFIssued04
import Derived.Test.YtccendmoeelniaaGreatDoorZFIssued22
import Derived.Test.YtccendmoeelniaaGreatDoorZFIssued15
import Derived.Test.YtccendmoeelniaaGreatDoorZFIssued08
import Derived.Test.YtccendmoeelniaaGreatDoorZFIssued20
import Derived.Test.YtccendmoeelniaaGreatDoorZFIssued21
namespace Go.Proofs.YtccendmoeelniaaGreatDoor
open Go.ChangeShapes Go.WideShapes Go.ChangeAt Go.RowKit
set_option linter.unusedSimpArgs false
set_option linter.unusedVariables false
def Short (us : List M1.Upd) : Prop := ∀ x ∈ us, x.s.size ≤ 1000

theorem Short.at {us : List M1.Upd} (h : Short us) {i : Nat} (hi : i < us.length) : (M1.up us i).s.size ≤ 1000 := by
 have : M1.up us i = us[i] := by simp [M1.up, List.getD, hi]
 rw [this]; exact h _ (List.getElem_mem hi)

theorem Short.max {us : List M1.Upd} (h : Short us) : ∀ i, i < us.length → (M1.up us i).s.size ≤ maxLen := fun i hi => by
 have := h.at hi
 unfold maxLen; omega

def R3 (us : List M1.Upd) : Prop := ∀ x ∈ us, 1 ≤ x.dr ∧ x.dr ≤ 3

theorem R3.at {us : List M1.Upd} (h : R3 us) {i : Nat} (hi : i < us.length) : 1 ≤ (M1.up us i).dr ∧ (M1.up us i).dr ≤ 3 := by
 have : M1.up us i = us[i] := by simp [M1.up, List.getD, hi]
 rw [this]; exact h _ (List.getElem_mem hi)

theorem R3.put {us ns : List M1.Upd} {u : M1.Upd} (h : R3 us) (hu : 1 ≤ u.dr ∧ u.dr ≤ 3) (hp : M1.PutR us u ns) : R3 ns := fun x hx => by
 rcases hp.mem x hx with h1 | rfl
 ·exact h x h1
 ·exact hu

theorem Short.put {us ns : List M1.Upd} {u : M1.Upd} (h : Short us) (hu : u.s.size ≤ 1000) (hp : M1.PutR us u ns) : Short ns := fun x hx => by
 rcases hp.mem x hx with h1 | rfl
 ·exact h x h1
 ·exact hu

theorem MU.gr {w w' : World} {av : Option Addr} {n cap lo hi g : Nat} {f : Nat → Value} (h : MU w av n cap lo hi f) (hg : Gr g w w') (hb : g < lo) : MU w' av n cap lo hi f :=
 ⟨h.1, h.2.1, h.2.2.imp id fun ⟨k, e, h1, h2, r⟩ => ⟨k, e, h1, h2, r.gr hg (by omega)⟩⟩

theorem MU.wide {w : World} {av : Option Addr} {n cap lo hi lo' hi' : Nat} {f : Nat → Value} (h : MU w av n cap lo hi f) (h1 : lo' ≤ lo) (h2 : hi ≤ hi') : MU w av n cap lo' hi' f :=
 ⟨h.1, h.2.1, h.2.2.imp id fun ⟨k, e, h3, h4, r⟩ => ⟨k, e, by omega, by omega, r⟩⟩

theorem MU.far {w : World} {av : Option Addr} {n cap lo hi : Nat} {f : Nat → Value} (h : MU w av n cap lo hi f) {p : Addr} (hp : ∀ q, av = some q → ¬ q.block = p.block) (v : Value) : MU (w.setCell p v) av n cap lo hi f :=
 ⟨h.1, h.2.1, h.2.2.imp id fun ⟨k, e, h3, h4, r⟩ => ⟨k, e, h3, h4, r.far (fun e2 => hp _ e (by rw [e2])) v⟩⟩

theorem owns_grA {w w' : World} {base g : Nat} {e : TypeId} {size n : Nat} {v : Value} {xs : List Value} (h : w.ownsRow base e size v n xs) (hG : Gr g w w') (hg : g < base) : w'.ownsRow base e size v n xs :=
 ⟨h.1, h.2.imp id fun ⟨k, cap, cur, hv, hk, hh, r⟩ => ⟨k, cap, cur, hv, hk, by
  have hlt : k < w.heap.size := by
   rcases Nat.lt_or_ge k w.heap.size with h | h
   ·exact h
   ·rw [Array.getElem?_eq_none h] at hh; cases hh
  rw [hG.block k hlt (fun e => by injection e with e; omega)]; exact hh, r⟩⟩

theorem owns_far {w : World} {base : Nat} {e : TypeId} {size n cap : Nat} {av : Option Addr} {xs : List Value} (h : w.ownsRow base e size (.slice av n cap) n xs) {p : Addr} (hp : ∀ q, av = some q → ¬ q.block = p.block) (u : Value) : (w.setCell p u).ownsRow base e size (.slice av n cap) n xs :=
 ⟨h.1, h.2.imp id fun ⟨k, cp, cur, hv, hk, hh, r⟩ => ⟨k, cp, cur, hv, hk, by
  have : ¬ k = p.block := by
   injection hv with h1 _ _
   exact hp _ h1
  rw [Below.heap_setCell _ _ _ _ this]; exact hh, r⟩⟩

structure AllR (w wr : World) (g : Nat) (av : Option Addr) (len cap : Nat) (bv : Option Addr) (c : Nat) (us : List M1.Upd) : Prop where
 mu : MU wr bv us.length c w.heap.size wr.heap.size (ucell us)
 own : wr.ownsRow w.heap.size 38 13 (.slice bv us.length c) us.length (ucL us)
 off : ∀ q, bv = some q → ¬ q.block = w.heap.size + 1
 sh : Short us
 r3 : R3 us
 row : ∃ l : Nat → Int, RowAt wr (w.heap.size + 1) 4 (fun o => .int .i64 (l o))
 rd : Rdr wr g av len cap
 gr : Gr g w wr
 sz : w.heap.size + 2 ≤ wr.heap.size

theorem AllR.grow {w wr w' : World} {g : Nat} {av : Option Addr} {len cap : Nat} {bv : Option Addr} {c : Nat} {us : List M1.Upd} (h : AllR w wr g av len cap bv c us) (hg : g < w.heap.size) (hR : Rdr w' g av len cap) (hG : Gr g wr w') : AllR w w' g av len cap bv c us :=
 ⟨(h.mu.gr hG hg).wide (Nat.le_refl _) hG.size, owns_grA h.own hG hg, h.off, h.sh, h.r3, let ⟨l, r⟩ := h.row; ⟨l, r.gr hG (by omega)⟩, hR, gr_trans h.gr hG, Nat.le_trans h.sz hG.size⟩

theorem AllR.below {w wr w' : World} {g : Nat} {av : Option Addr} {len cap : Nat} {bv : Option Addr} {c : Nat} {us : List M1.Upd} (h : AllR w wr g av len cap bv c us) (hg : g < w.heap.size) (hb : Below wr.heap.size wr w') : AllR w w' g av len cap bv c us :=
 h.grow hg (h.rd.below hb) (gr_below hb)

theorem AllR.upds {w wr : World} {g : Nat} {av : Option Addr} {len cap : Nat} {bv : Option Addr} {c : Nat} {us : List M1.Upd} (h : AllR w wr g av len cap bv c us) : IsUpds wr bv us.length c us := h.mu.upds rfl h.sh.max

theorem AllR.set {w wr : World} {g : Nat} {av : Option Addr} {len cap : Nat} {bv : Option Addr} {c : Nat} {us : List M1.Upd} (h : AllR w wr g av len cap bv c us) (h0 : Rdr w g av len cap) {p : Nat} (hp : w.heap.size + 2 ≤ p) (hbv : ∀ q, bv = some q → ¬ q.block = p) (o : Nat) (v : Value) : AllR w (wr.setCell ⟨p, o, none⟩ v) g av len cap bv c us :=
 ⟨by have := h.mu.far (p := ⟨p, o, none⟩) hbv v; simpa [World.setCell] using this, owns_far h.own (p := ⟨p, o, none⟩) hbv v, h.off, h.sh, h.r3, let ⟨l, r⟩ := h.row; ⟨l, r.far (by show p ≠ _; omega) v⟩, h.rd.far (by have := h0.lt; show p ≠ g; omega) (h0.old (by show _ ≤ p; omega)) _, gr_new h.gr _ (by show _ ≤ p; omega) _, by have := h.sz; simpa [World.setCell] using this⟩

theorem AllR.setRow {w wr : World} {g : Nat} {av : Option Addr} {len cap : Nat} {bv : Option Addr} {c : Nat} {us : List M1.Upd} (h : AllR w wr g av len cap bv c us) (h0 : Rdr w g av len cap) {o : Nat} (ho : o < 4) (v : Int) : AllR w (wr.setCell ⟨w.heap.size + 1, o, none⟩ (.int .i64 v)) g av len cap bv c us :=
 ⟨by have := h.mu.far (p := ⟨w.heap.size + 1, o, none⟩) h.off (.int .i64 v); simpa [World.setCell] using this, owns_far h.own (p := ⟨w.heap.size + 1, o, none⟩) h.off _, h.off, h.sh, h.r3, let ⟨l, r⟩ := h.row; ⟨fun x => if x = o then v else l x, (r.set ho (.int .i64 v)).same fun x hx => by by_cases e : x = o <;> simp [e]⟩, h.rd.far (by have := h0.lt; show w.heap.size + 1 ≠ g; omega) (h0.old (by show _ ≤ w.heap.size + 1; omega)) _, gr_new h.gr _ (by show _ ≤ w.heap.size + 1; omega) _, by have := h.sz; simpa [World.setCell] using this⟩

theorem AllR.lt {w wr : World} {g : Nat} {av : Option Addr} {len cap : Nat} {bv : Option Addr} {c : Nat} {us : List M1.Upd} (h : AllR w wr g av len cap bv c us) : ∀ q, bv = some q → q.block < wr.heap.size := fun q e => by
 rcases h.mu.2.2 with ⟨_, e2⟩ | ⟨k, e2, _, h2, _⟩
 ·rw [e] at e2; cases e2
 ·rw [e] at e2; injection e2 with e2; rw [e2]; exact h2

end Go.Proofs.YtccendmoeelniaaGreatDoor

namespace Go.Proofs.YtccendmoeelniaaGreatDoor
open Go.ChangeShapes Go.WideShapes Go.ChangeAt Go.RowKit
set_option linter.unusedSimpArgs false
set_option linter.unusedVariables false
theorem RowAt.grown {a b : World} {g m : Nat} {f : Nat → Value} {row : Option Nat} (h : RowAt a g m f) (hg : a.grownBy b row) (hn : ∀ k, row = some k → ¬ k = g) : RowAt b g m f := by
 have e := hg.block g h.lt (fun e => hn g e.symm rfl)
 exact ⟨Nat.lt_of_lt_of_le h.lt hg.size, fun o ho => ⟨(World.cell?_of_block (w := a) e).trans (h.2 o ho).1, (World.frozen?_of_block (w := a) e).trans (h.2 o ho).2⟩⟩

theorem row5 (w : World) (a b c d e : Int) (t : TypeId) (f : Nat → Value) (h0 : f 0 = .int .i64 a) (h1 : f 1 = .int .i64 b) (h2 : f 2 = .int .i64 c) (h3 : f 3 = .int .i64 d) (h4 : f 4 = .int .i64 e) : RowAt (w.alloc (.cells #[.int .i64 a, .int .i64 b, .int .i64 c, .int .i64 d, .int .i64 e] t)) w.heap.size 5 f :=
 (RowAt.new w #[.int .i64 a, .int .i64 b, .int .i64 c, .int .i64 d, .int .i64 e] t).same fun o ho => by
  match o, ho with
  | 0, _ => exact h0.symm
  | 1, _ => exact h1.symm
  | 2, _ => exact h2.symm
  | 3, _ => exact h3.symm
  | 4, _ => exact h4.symm

end Go.Proofs.YtccendmoeelniaaGreatDoor

namespace Go.Proofs.YtccendmoeelniaaGreatDoor
open Go.ChangeShapes Go.WideShapes Go.ChangeAt Go.RowKit
set_option linter.unusedSimpArgs false
set_option linter.unusedVariables false
def cutf (a b c : Int) (o : Nat) : Int := if o = 1 then a else if o = 2 then b else if o = 3 then c else 0

theorem Short.snoc {us : List M1.Upd} {u : M1.Upd} (h : Short us) (hu : u.s.size ≤ 1000) : Short (us ++ [u]) := fun x hx => by
 rcases List.mem_append.1 hx with h1 | h1
 ·exact h x h1
 ·simp at h1; subst h1; exact hu

theorem R3.snoc {us : List M1.Upd} {u : M1.Upd} (h : R3 us) (hu : 1 ≤ u.dr ∧ u.dr ≤ 3) : R3 (us ++ [u]) := fun x hx => by
 rcases List.mem_append.1 hx with h1 | h1
 ·exact h x h1
 ·simp at h1; subst h1; exact hu

structure SomeR (w wr : World) (g : Nat) (av : Option Addr) (len cap pc : Nat) (a b c : Int) (gb cc : Nat) (ns : List M1.Upd) : Prop where
 own : wr.ownsRow w.heap.size 38 13 (.slice (some ⟨gb, 0, none⟩) ns.length cc) ns.length (ucL ns)
 off : ¬ gb = pc
 sh : Short ns
 r3 : R3 ns
 row : RowAt wr pc 4 (fun o => .int .i64 (cutf a b c o))
 rd : Rdr wr g av len cap
 gr : Gr g w wr

theorem SomeR.below {w wr w' : World} {g : Nat} {av : Option Addr} {len cap pc : Nat} {a b c : Int} {gb cc : Nat} {ns : List M1.Upd} (h : SomeR w wr g av len cap pc a b c gb cc ns) (hb : Below wr.heap.size wr w') : SomeR w w' g av len cap pc a b c gb cc ns :=
 ⟨owns_below h.own hb, h.off, h.sh, h.r3, h.row.below hb, h.rd.below hb, gr_trans h.gr (gr_below hb)⟩

end Go.Proofs.YtccendmoeelniaaGreatDoor

namespace Go.Proofs.YtccendmoeelniaaGreatDoor
open Go.ChangeShapes Go.WideShapes Go.ChangeAt Go.RowKit
set_option linter.unusedSimpArgs false
set_option linter.unusedVariables false
def SomeL (w w' : World) (e : Ending) (n : Nat) : Prop := ∃ (v : Value) (ns : List M1.Upd), e = .returned v ∧ w'.ownsRow w.heap.size 38 13 v ns.length (ucL ns) ∧ ns.length ≤ n ∧ Short ns

set_option maxHeartbeats 8000000 in
set_option maxRecDepth 100000 in
theorem l3Since_gen (av bv : Option Addr) (n cn m cm : Nat) (us : List M1.Upd) (ds : List (Int × Int)) (most : Int) (w : World) (h1 : IsUpds w av n cn us) (h2 : IsVec w bv m cm ds) (hsh : Short us) (hn : n ≤ 1048576) (hm0 : 1 ≤ most) (hm60 : most ≤ 60) :
  Calls Tryz.prog 58 #[.slice av n cn, .slice bv m cm, .int .i64 most] w fun e w' => SomeL w w' e n ∧ Below w.heap.size w w' := by
 have hl1 : Hid (us.length = n) := h1.hlen
 have hm1 := h1.hcap
 have hm2 := h1.hmost
 unfold maxLen at hm2
 obtain ⟨ti, hi1, hi2, hi3, hi4⟩ := infoUpd
 have hi4' : Hid (ti.bytes = 112) := hi4
 have hi2' : Hid (ti.zero = some (.agg #[.int .i64 0, .int .i64 0, .int .i64 0, .int .i64 0, .int .i64 0, .int .i64 0, .int .i64 0, .int .i64 0, .int .i64 0, .string ByteArray.empty, .int .i64 0, .int .i64 0, .int .i64 0])) := hi2
 have hi3' : Hid (ti.size = 13) := hi3
 have hi1' : Hid (Tryz.prog.info? 38 = some ti) := hi1
 clear hi1 hi2 hi3 hi4
 go_enter Tryz.func58, Tryz.ntmps58
 go_wp2_with fail
 have hA : Below w.heap.size w (w.alloc (.cells #[] 38)) := (Below.refl _ _).alloc (Nat.le_refl _) _
 have own0 := ownsU_empty w 38
 go_loopw [7, 8] (fun v i wr => ∃ (k : Nat) (ns : List M1.Upd) (x : Option Addr) (c : Nat), k ≤ n ∧ i = .int .i64 k ∧ Short ns ∧ ns.length ≤ k ∧ v = .slice x ns.length c ∧ wr.ownsRow w.heap.size 38 13 (.slice x ns.length c) ns.length (ucL ns) ∧ Below w.heap.size w wr) (fun _ i _ => n - (intOf i).toNat)
 case atStart => exact ⟨0, [], _, _, Nat.zero_le _, rfl, (fun x hx => by cases hx), Nat.le_refl _, rfl, own0, hA⟩
 case round =>
  clear own0 hA
  obtain ⟨k, ns, xv, xc, hk, rfl, hns, hnl, rfl, hown, hB⟩ := hrel
  by_cases hlt : k < n
  ·by_cases hfull : (ns.length : Int) < most
   ·have g1 := h1.below hB
    have g2 := h2.below hB
    rcases g1.hlies with h0 | ⟨b, off, rfl, hb, hc⟩
    ·omega
    obtain ⟨c0, c1, c2, c3, c4, c5, c6, c7, c8, c9, c10, c11, c12⟩ := hc k hlt
    have i0 : (0 : Int) ≤ (k : Int) := by omega
    have i1 : (k : Int) < (n : Int) := by omega
    have hsz := hB.size
    clear hc g1
    by_cases hq : M1.fm ds (M1.up us k).dr < (M1.up us k).dn
    ·have HE : Short (ns ++ [M1.up us k]) := hns.snoc (hsh.at (i := k) (by rw [hl1.out]; exact hlt))
     go_wp2_with fail
     refine wp_region_held_drew (S := fun w' => Kp wr w') (by kernel_rfl) ?_ (fun hHeld => ?_)
     ·exact kp_zero _
     refine tZ (i:=0) (v:=?_) rfl (.inl ⟨by rfl, ?_⟩) hHeld ?_
     rotate_left
     ·(intro w hSw; (try dsimp only at hSw); go_simp; try (with_reducible rfl))
     (try simp only [Act.put, zZ])
     refine tZ (i:=1) (v:=?_) rfl (.inl ⟨by rfl, ?_⟩) hHeld ?_
     rotate_left
     ·(intro w hSw; (try dsimp only at hSw); go_simp; try (with_reducible rfl))
     (try simp only [Act.put, zZ])
     refine tZ (i:=2) (v:=?_) rfl (.inl ⟨by rfl, ?_⟩) hHeld ?_
     rotate_left
     ·(intro w hSw; (try dsimp only at hSw); go_simp; try (with_reducible rfl))
     (try simp only [Act.put, zZ])
     refine tZ (i:=3) (v:=?_) rfl (.inl ⟨by rfl, ?_⟩) hHeld ?_
     rotate_left
     ·(intro w hSw; (try dsimp only at hSw); go_simp; try (with_reducible rfl))
     (try simp only [Act.put, zZ])
     refine tZ (i:=4) (v:=?_) rfl (.inl ⟨by rfl, ?_⟩) hHeld ?_
     rotate_left
     ·(intro w hSw; (try dsimp only at hSw); go_simp; try (with_reducible rfl))
     (try simp only [Act.put, zZ])
     refine tZ (i:=5) (v:=?_) rfl (.inl ⟨by rfl, ?_⟩) hHeld ?_
     rotate_left
     ·(intro w hSw; (try dsimp only at hSw); go_simp; try (with_reducible rfl))
     (try simp only [Act.put, zZ])
     refine tZ (i:=6) (v:=?_) rfl (.inl ⟨by rfl, ?_⟩) hHeld ?_
     rotate_left
     ·(intro w hSw; (try dsimp only at hSw); go_simp; try (with_reducible rfl))
     (try simp only [Act.put, zZ])
     refine tZ (i:=7) (v:=?_) rfl (.inl ⟨by rfl, ?_⟩) hHeld ?_
     rotate_left
     ·(intro w hSw; (try dsimp only at hSw); go_simp; try (with_reducible rfl))
     (try simp only [Act.put, zZ])
     refine tZ (i:=8) (v:=?_) rfl (.inl ⟨by rfl, ?_⟩) hHeld ?_
     rotate_left
     ·(intro w hSw; (try dsimp only at hSw); go_simp; try (with_reducible rfl))
     (try simp only [Act.put, zZ])
     refine tZ (i:=9) (v:=?_) rfl (.inl ⟨by rfl, ?_⟩) hHeld ?_
     rotate_left
     ·(intro w hSw; (try dsimp only at hSw); go_simp; try (with_reducible rfl))
     (try simp only [Act.put, zZ])
     refine tZ (i:=10) (v:=?_) rfl (.inl ⟨by rfl, ?_⟩) hHeld ?_
     rotate_left
     ·(intro w hSw; (try dsimp only at hSw); go_simp; try (with_reducible rfl))
     (try simp only [Act.put, zZ])
     refine tZ (i:=11) (v:=?_) rfl (.inl ⟨by rfl, ?_⟩) hHeld ?_
     rotate_left
     ·(intro w hSw; (try dsimp only at hSw); go_simp; try (with_reducible rfl))
     (try simp only [Act.put, zZ])
     refine tZ (i:=12) (v:=?_) rfl (.inl ⟨by rfl, ?_⟩) hHeld ?_
     rotate_left
     ·(intro w hSw; (try dsimp only at hSw); go_simp; try (with_reducible rfl))
     (try simp only [Act.put, zZ])
     refine wpAnyH_ready (rs := [13]) (by kernel_rfl) (by simp) ?_
     refine AllReadyH.cons (o := _) rfl (fun K hK => ?_) AllReadyH.nil
     go_simp
     (refine (l1Of_gen _ _ _ _ _ _ (g2.below hHeld.1)).mono ?_; rintro e w' ⟨rfl, hbw⟩; subst hbw; go_wp2_with fail)
     refine hK.out _ _ ?_ (fun hHeld2 => ?_)
     ·exact hHeld
     clear hK K hHeld
     have hHeld := hHeld2
     clear hHeld2
     (try simp only [Act.put, zZ])
     refine tZ (i:=14) (v:=?_) rfl (.inl ⟨by rfl, ?_⟩) hHeld ?_
     rotate_left
     ·(intro w hSw; (try dsimp only at hSw); go_simp; try (with_reducible rfl))
     (try simp only [Act.put, zZ])
     refine wpAnyH_done (by kernel_rfl) ?_ _
     have hK1 := hHeld
     clear hHeld
     generalize wr.drew = W1 at hK1 ⊢
     have hB1 := hB.trans (hK1.1.mono hB.size)
     have hown1 := owns_below hown hK1.1
     have hK2 := hK1.2
     have hsz1 := hB1.size
     clear hK1
     go_wp2_with (at_builtin; refine wpList_append_lies _ rfl _ _ _ rfl w.heap.size 38 ti _ 13 112 Tryz.underlying26 hi1'.out hi2'.out hi3'.out hi4'.out rfl (by omega) (.slice xv ns.length xc) ns.length (ucL ns) rfl (owns_below hown1 ((Below.refl _ _).alloc (Nat.le_refl _) _)) ⟨W1.heap.size, 0, none⟩ 1 1 [.int .i64 (M1.up us k).dr, .int .i64 (M1.up us k).dn, .int .i64 (M1.up us k).sw, .int .i64 (M1.up us k).sc, .int .i64 (M1.up us k).sr, .int .i64 (M1.up us k).k, .int .i64 (M1.up us k).tr, .int .i64 (M1.up us k).id, .int .i64 (M1.up us k).pa, .string (M1.up us k).s, .int .i64 (M1.up us k).st, .int .i64 (M1.up us k).en, .int .i64 (M1.up us k).lv] rfl rfl (news13 _ _ _ _ _ _ _ _ _ _ _ _ _ _ _) (one13 _) (by omega) (by unfold maxLen; omega) (by omega) (by simp; omega) _ rfl ?_; intro g4 cap4 w4 hown4 hgrow4 hat4 hlt4)
     have hB4 : Below w.heap.size w w4 := (hB1.alloc hB1.size _).grown hgrow4 (by simp; omega) (owns_base hown1)
     have el : (ns ++ [M1.up us k]).length = ns.length + 1 := by simp
     exact ⟨⟨k + 1, ns ++ [M1.up us k], some ⟨g4, 0, none⟩, cap4, by omega, by go_num, HE, by omega, by rw [el], (by have q := ownsU_snoc (u := M1.up us k) hown4; rw [el] at q ⊢; exact q), hB4⟩, by simp [intOf]; omega⟩
    ·have HE := hns
     go_wp2_with fail
     refine wp_region_held_drew (S := fun w' => Kp wr w') (by kernel_rfl) ?_ (fun hHeld => ?_)
     ·exact kp_zero _
     refine tZ (i:=0) (v:=?_) rfl (.inl ⟨by rfl, ?_⟩) hHeld ?_
     rotate_left
     ·(intro w hSw; (try dsimp only at hSw); go_simp; try (with_reducible rfl))
     (try simp only [Act.put, zZ])
     refine tZ (i:=1) (v:=?_) rfl (.inl ⟨by rfl, ?_⟩) hHeld ?_
     rotate_left
     ·(intro w hSw; (try dsimp only at hSw); go_simp; try (with_reducible rfl))
     (try simp only [Act.put, zZ])
     refine tZ (i:=2) (v:=?_) rfl (.inl ⟨by rfl, ?_⟩) hHeld ?_
     rotate_left
     ·(intro w hSw; (try dsimp only at hSw); go_simp; try (with_reducible rfl))
     (try simp only [Act.put, zZ])
     refine tZ (i:=3) (v:=?_) rfl (.inl ⟨by rfl, ?_⟩) hHeld ?_
     rotate_left
     ·(intro w hSw; (try dsimp only at hSw); go_simp; try (with_reducible rfl))
     (try simp only [Act.put, zZ])
     refine tZ (i:=4) (v:=?_) rfl (.inl ⟨by rfl, ?_⟩) hHeld ?_
     rotate_left
     ·(intro w hSw; (try dsimp only at hSw); go_simp; try (with_reducible rfl))
     (try simp only [Act.put, zZ])
     refine tZ (i:=5) (v:=?_) rfl (.inl ⟨by rfl, ?_⟩) hHeld ?_
     rotate_left
     ·(intro w hSw; (try dsimp only at hSw); go_simp; try (with_reducible rfl))
     (try simp only [Act.put, zZ])
     refine tZ (i:=6) (v:=?_) rfl (.inl ⟨by rfl, ?_⟩) hHeld ?_
     rotate_left
     ·(intro w hSw; (try dsimp only at hSw); go_simp; try (with_reducible rfl))
     (try simp only [Act.put, zZ])
     refine tZ (i:=7) (v:=?_) rfl (.inl ⟨by rfl, ?_⟩) hHeld ?_
     rotate_left
     ·(intro w hSw; (try dsimp only at hSw); go_simp; try (with_reducible rfl))
     (try simp only [Act.put, zZ])
     refine tZ (i:=8) (v:=?_) rfl (.inl ⟨by rfl, ?_⟩) hHeld ?_
     rotate_left
     ·(intro w hSw; (try dsimp only at hSw); go_simp; try (with_reducible rfl))
     (try simp only [Act.put, zZ])
     refine tZ (i:=9) (v:=?_) rfl (.inl ⟨by rfl, ?_⟩) hHeld ?_
     rotate_left
     ·(intro w hSw; (try dsimp only at hSw); go_simp; try (with_reducible rfl))
     (try simp only [Act.put, zZ])
     refine tZ (i:=10) (v:=?_) rfl (.inl ⟨by rfl, ?_⟩) hHeld ?_
     rotate_left
     ·(intro w hSw; (try dsimp only at hSw); go_simp; try (with_reducible rfl))
     (try simp only [Act.put, zZ])
     refine tZ (i:=11) (v:=?_) rfl (.inl ⟨by rfl, ?_⟩) hHeld ?_
     rotate_left
     ·(intro w hSw; (try dsimp only at hSw); go_simp; try (with_reducible rfl))
     (try simp only [Act.put, zZ])
     refine tZ (i:=12) (v:=?_) rfl (.inl ⟨by rfl, ?_⟩) hHeld ?_
     rotate_left
     ·(intro w hSw; (try dsimp only at hSw); go_simp; try (with_reducible rfl))
     (try simp only [Act.put, zZ])
     refine wpAnyH_ready (rs := [13]) (by kernel_rfl) (by simp) ?_
     refine AllReadyH.cons (o := _) rfl (fun K hK => ?_) AllReadyH.nil
     go_simp
     (refine (l1Of_gen _ _ _ _ _ _ (g2.below hHeld.1)).mono ?_; rintro e w' ⟨rfl, hbw⟩; subst hbw; go_wp2_with fail)
     refine hK.out _ _ ?_ (fun hHeld2 => ?_)
     ·exact hHeld
     clear hK K hHeld
     have hHeld := hHeld2
     clear hHeld2
     (try simp only [Act.put, zZ])
     refine tZ (i:=14) (v:=?_) rfl (.inl ⟨by rfl, ?_⟩) hHeld ?_
     rotate_left
     ·(intro w hSw; (try dsimp only at hSw); go_simp; try (with_reducible rfl))
     (try simp only [Act.put, zZ])
     refine wpAnyH_done (by kernel_rfl) ?_ _
     have hK1 := hHeld
     clear hHeld
     generalize wr.drew = W1 at hK1 ⊢
     have hB1 := hB.trans (hK1.1.mono hB.size)
     have hown1 := owns_below hown hK1.1
     clear hK1
     go_wp2_with fail
     exact ⟨⟨k + 1, ns, xv, xc, by omega, by go_num, HE, by omega, rfl, hown1, hB1⟩, by simp [intOf]; omega⟩
   ·go_wp2_with fail
    go_ret
    exact ⟨⟨_, ns, rfl, hown, by omega, hns⟩, hB⟩
  ·go_wp2_with fail
   go_ret
   exact ⟨⟨_, ns, rfl, hown, by omega, hns⟩, hB⟩

end Go.Proofs.YtccendmoeelniaaGreatDoor
