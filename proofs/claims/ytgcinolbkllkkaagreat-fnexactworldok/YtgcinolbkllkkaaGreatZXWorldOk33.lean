/-
  Texts of one proof, joined: JdI.
-/
import Derived.Test.YtgcinolbkllkkaaGreatZXWorldOk20
import Derived.Test.YtgcinolbkllkkaaGreatZXWorldOk32
namespace Go.Proofs.YtgcinolbkllkkaaGreat
open Go.ChangeShapes Go.WideShapes Go.ChangeAt Go.RowKit
set_option linter.unusedSimpArgs false
set_option linter.unusedVariables false
def Jd (w w' : World) (e : Ending) (ns : List M1.Upd) (ok : Bool) : Prop := ∃ av cap, e = .returned (.tuple #[.slice av ns.length cap, .bool ok]) ∧ MU w' av ns.length cap w.heap.size w'.heap.size (ucell ns)

theorem jd_nil (w w' : World) : Jd w w' (.returned (.tuple #[.slice none 0 0, .bool false])) [] false := ⟨none, 0, rfl, Nat.le_refl _, Nat.zero_le _, Or.inl ⟨rfl, rfl⟩⟩

set_option maxHeartbeats 40000000 in
set_option maxRecDepth 100000 in
theorem joined_impl (av bv : Option Addr) (n cn m cm : Nat) (xs ys : List M1.Upd) (w : World) (h1 : IsUpds w av n cn xs) (h2 : IsUpds w bv m cm ys) :
  Calls Tryz.prog 55 #[.slice av n cn, .slice bv m cm] w fun e w' => Jd w w' e (M1.jL xs ys) (M1.jOk xs ys) ∧ Below w.heap.size w w' := by
 have hl2 : Hid (ys.length = m) := h2.hlen
 have hl1 : Hid (xs.length = n) := h1.hlen
 have hm3 := h2.hcap
 have hm4 := h2.hmost
 unfold maxLen at hm4
 by_cases hag : M1.agreeB xs ys = true
 ·have HAG : Hid (M1.agreeB xs ys = true) := hag
  obtain ⟨hs1, hs2, hs3⟩ := M1.agreeB_true hag
  have ha : Hid (M1.apart xs) := M1.ok_apart (M1.setOk_all hs1)
  have hx60 := M1.setOk_len hs1
  have hy60 := M1.setOk_len hs2
  have hsrt := M1.jl_all (ys := ys) (M1.ok_sorted (M1.setOk_all hs1)) ys.length
  have HSRT : Hid ((M1.jl xs ys).Pairwise M1.dd ∧ (M1.putsTo xs ys ys.length).Perm (M1.jl xs ys)) := hsrt
  have HLEN : Hid ((M1.putsTo xs ys ys.length).length ≤ 1000) := (by have := M1.puts_len (xs := xs) (ys := ys) ys.length; omega : (M1.putsTo xs ys ys.length).length ≤ 1000)
  clear hs1 hs2 hs3 hsrt hx60 hy60
  go_enter Tryz.func55, Tryz.ntmps55
  go_wp2_with fail
  refine (agree_impl _ _ _ _ _ _ _ _ _ h1 h2).mono ?_
  rw [hag]
  clear hag
  rintro e w1 ⟨rfl, hb1⟩
  go_wp2_with fail
  refine (setFromN_any _ _ _ _ _ (h1.below hb1) ha).mono ?_
  rintro e w2 ⟨⟨b, rfl, hbb, hM2⟩, hb2⟩
  have hB2 := hb1.trans (hb2.mono hb1.size)
  have hs1 := hb1.size
  go_wp2_with fail
  go_loopw [17] (fun i wr => ∃ k : Nat, k ≤ m ∧ i = .int .i64 k ∧ Below w.heap.size w wr ∧ MapN wr b (M1.putsTo xs ys k)) (fun i _ => m - (intOf i).toNat)
  case atStart => exact ⟨0, Nat.zero_le _, rfl, hB2, hM2⟩
  case round =>
   clear hM2 hB2
   obtain ⟨k, hk, rfl, hB, hmap⟩ := hrel
   have hs0 := hmap.lt
   have hsz := hB.size
   by_cases hlt : k < m
   ·have g1 := h2.below hB
    rcases g1.hlies with h0 | ⟨c, off, rfl, hb, hc⟩
    ·omega
    obtain ⟨c0, c1, c2, c3, c4, c5, c6, c7, c8, c9, c10, c11, c12⟩ := hc k hlt
    have i0 : (0 : Int) ≤ (k : Int) := by omega
    have i1 : (k : Int) < (m : Int) := by omega
    clear hc g1
    have hsame : Hid (∀ x, M1.fd (M1.putsTo xs ys k) (M1.up ys k).dr (M1.up ys k).dn = some x → x = M1.up ys k) := M1.puts_same HAG.out (by rw [hl2.out]; exact hlt)
    go_wp2_with (at_mapUpdate; refine wpList_putN rfl _ _ _ rfl b (M1.putsTo xs ys k) (M1.up ys k) rfl (hmap.alloc _) hsame.out rfl rfl ?_; intro w3 hm3 hg3)
    exact ⟨⟨k + 1, by omega, by go_num, (hB.alloc hB.size _).grown hg3 (by simp; omega) (fun j e => by cases e; omega), hm3⟩, by simp [intOf]; omega⟩
   ·have hkm : Hid (k = ys.length) := (by have := hl2.out; omega : k = ys.length)
    rw [hkm.out] at hmap
    go_wp2_with fail
    refine (told_any b _ _ hmap (M1.puts_txt HAG.out) HLEN.out).mono ?_
    rintro e w4 ⟨ns, hp, hso, hres, hb4⟩
    have hns : ns = M1.jl xs ys := M1.told_is HSRT.out.1 HSRT.out.2 hp hso
    subst hns
    have hB4 := hB.trans (hb4.mono hB.size)
    clear hp hso hmap
    rcases hres with ⟨hok, av4, cap4, rfl, mu4⟩ | ⟨hok, rfl⟩
    ·have q := M1.j_yes HAG.out hok
     have Q1 : Hid (M1.jOk xs ys = true) := q.1
     have Q2 : Hid (M1.jL xs ys = M1.jl xs ys) := q.2
     clear q hok
     go_wp2_with fail
     refine bodyPost_ret (v := .tuple #[.slice av4 (M1.jl xs ys).length cap4, .bool true]) (by simp [results, Tryz.results55, go_sem]) rfl ⟨?_, hB4⟩
     rw [Q1.out, Q2.out]
     exact ⟨av4, cap4, rfl, mu4.1, mu4.2.1, mu4.2.2.imp id fun ⟨g, e, h3, h4, r⟩ => ⟨g, e, by omega, h4, r⟩⟩
    ·have q := M1.j_not hok
     have Q1 : Hid (M1.jOk xs ys = false) := q.1
     have Q2 : Hid (M1.jL xs ys = []) := q.2
     clear q hok
     go_wp2_with fail
     refine bodyPost_ret (v := .tuple #[.slice none 0 0, .bool false]) (by simp [results, Tryz.results55, go_sem]) rfl ⟨?_, hB4⟩
     rw [Q1.out, Q2.out]
     exact jd_nil _ _
 ·replace hag : M1.agreeB xs ys = false := by simpa using hag
  have q := M1.j_no hag
  rw [q.1, q.2]
  clear q
  go_enter Tryz.func55, Tryz.ntmps55
  go_wp2_with fail
  refine (agree_impl _ _ _ _ _ _ _ _ _ h1 h2).mono ?_
  rw [hag]
  rintro e w1 ⟨rfl, hb1⟩
  go_wp2_with fail
  refine bodyPost_ret (v := .tuple #[.slice none 0 0, .bool false]) (by simp [results, Tryz.results55, go_sem]) rfl ⟨jd_nil _ _, hb1⟩

end Go.Proofs.YtgcinolbkllkkaaGreat
