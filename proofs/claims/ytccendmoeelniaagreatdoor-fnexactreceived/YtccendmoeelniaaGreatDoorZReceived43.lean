/-
  Texts of one proof, joined: AgreeS, JdS, Mark.
-/
import Derived.Test.YtccendmoeelniaaGreatDoorZReceived12
import Derived.Test.YtccendmoeelniaaGreatDoorZReceived27
import Derived.BigQuiet
import Derived.Test.YtccendmoeelniaaGreatDoorZReceived38
import Derived.Test.YtccendmoeelniaaGreatDoorZReceived10
import Derived.Test.YtccendmoeelniaaGreatDoorZReceived08
namespace M1
def deq (a b c d : Int) : Bool := decide (a = c ∧ b = d)
end M1
namespace Go.Proofs.YtccendmoeelniaaGreatDoor
open Go.ChangeShapes Go.WideShapes Go.ChangeAt Go.RowKit
set_option linter.unusedSimpArgs false
set_option linter.unusedVariables false
theorem eqDotW (a b c d : Int) (w : World) : (Op.equalIn 10000 36 (.agg #[.int .i64 a, .int .i64 b]) (.agg #[.int .i64 c, .int .i64 d])).run Tryz.prog w = .ok (M1.deq a b c d) w := eqDotV a b c d w
attribute [local go_sem high] eqU eqDotW

end Go.Proofs.YtccendmoeelniaaGreatDoor

namespace M1
theorem jl_mem {xs ys : List Upd} (h : agreeB xs ys = true) {k : Nat} (hk : k ≤ ys.length) {x : Upd} (hx : x ∈ jlTo xs ys k) : x.s.size ≤ 12 := by
  obtain ⟨h1, h2, _⟩ := agreeB_true h
  have hp := (jl_all (ys := ys) (ok_sorted (setOk_all h1)) k).2
  rcases puts_mem (hp.mem_iff.2 hx) with hm | ⟨j, hj, e⟩
  · obtain ⟨q, hq, e⟩ := mem_up hm
    have := ok_txt (okAt_ok (setOk_all h1 q hq))
    rwa [e] at this
  · have := ok_txt (okAt_ok (setOk_all h2 j (by omega)))
    rw [e]; exact this
theorem jl_len {xs ys : List Upd} (h : agreeB xs ys = true) (k : Nat) : (jlTo xs ys k).length ≤ 60 + k := by
  obtain ⟨h1, h2, _⟩ := agreeB_true h
  have hp := (jl_all (ys := ys) (ok_sorted (setOk_all h1)) k).2.length_eq
  have := puts_len (xs := xs) (ys := ys) k
  have := setOk_len h1
  omega
end M1
namespace Go.Proofs.YtccendmoeelniaaGreatDoor
open Go.ChangeShapes Go.WideShapes Go.ChangeAt Go.RowKit
set_option linter.unusedSimpArgs false
set_option linter.unusedVariables false

theorem MU.widen {w : World} {av : Option Addr} {n cap lo hi lo' hi' : Nat} {f : Nat → Value} (h : MU w av n cap lo hi f) (h1 : lo' ≤ lo) (h2 : hi ≤ hi') : MU w av n cap lo' hi' f :=
  ⟨h.1, h.2.1, h.2.2.imp id fun ⟨k, e, h3, h4, r⟩ => ⟨k, e, by omega, by omega, r⟩⟩
theorem jl_txt {xs ys : List M1.Upd} (h : M1.agreeB xs ys = true) {k : Nat} (hk : k ≤ ys.length) : ∀ i, i < (M1.jlTo xs ys k).length → (M1.up (M1.jlTo xs ys k) i).s.size ≤ maxLen := fun i hi => by
  have hm : M1.up (M1.jlTo xs ys k) i ∈ M1.jlTo xs ys k := by rw [up_get hi]; exact List.getElem_mem hi
  have := M1.jl_mem h hk hm
  unfold maxLen; omega

end Go.Proofs.YtccendmoeelniaaGreatDoor

namespace Go.Proofs.YtccendmoeelniaaGreatDoor
open Go.ChangeShapes Go.WideShapes Go.ChangeAt Go.RowKit

/-- A vector whose row, if it has one, is a block of lo .. hi - 1; f: its cells. -/
def MV (w : World) (av : Option Addr) (n cap lo hi : Nat) (f : Nat → Value) : Prop :=
  n ≤ cap ∧ cap ≤ maxLen ∧ ((n = 0 ∧ av = none) ∨ ∃ g, av = some ⟨g, 0, none⟩ ∧ lo ≤ g ∧ g < hi ∧ RowAt w g (n * 2) f)
/-- Nothing but that vector's own row has turned. -/
def Mk (av : Option Addr) (w w' : World) : Prop := (av = none → Below w.heap.size w w') ∧ ∀ g, av = some ⟨g, 0, none⟩ → Gr g w w'

theorem mk_none {w w' : World} (h : Below w.heap.size w w') : Mk none w w' := ⟨fun _ => h, fun _ e => by cases e⟩
theorem mk_some {w w' : World} {g : Nat} (h : Gr g w w') : Mk (some ⟨g, 0, none⟩) w w' := ⟨(fun e => by cases e), (fun g2 e => by injection e with e; injection e with e _ _; subst e; exact h)⟩
theorem MV.below {w w' : World} {av : Option Addr} {n cap lo hi : Nat} {f : Nat → Value} (h : MV w av n cap lo hi f) (hb : Below w.heap.size w w') : MV w' av n cap lo hi f :=
  ⟨h.1, h.2.1, h.2.2.imp id fun ⟨g, e, h1, h2, r⟩ => ⟨g, e, h1, h2, r.below hb⟩⟩
theorem MV.mk {w w' : World} {av bv : Option Addr} {n cap lo hi m cm lo2 hi2 : Nat} {f f2 : Nat → Value} (h : MV w av n cap lo hi f) (h2 : MV w bv m cm lo2 hi2 f2) (hm : Mk bv w w') (hd : hi ≤ lo2 ∨ hi2 ≤ lo) : MV w' av n cap lo hi f := by
  refine ⟨h.1, h.2.1, ?_⟩
  rcases h.2.2 with h0 | ⟨g, e, h3, h4, r⟩
  · exact Or.inl h0
  · refine Or.inr ⟨g, e, h3, h4, ?_⟩
    rcases h2.2.2 with ⟨_, h0⟩ | ⟨g2, e2, h5, h6, _⟩
    · exact r.below (hm.1 h0)
    · exact r.gr (hm.2 g2 e2) (by omega)
theorem Mk.below {w w' : World} {bv : Option Addr} {m cm lo2 hi2 B : Nat} {f2 : Nat → Value} (h2 : MV w bv m cm lo2 hi2 f2) (hm : Mk bv w w') (hB : B ≤ w.heap.size) (hlo : B ≤ lo2) : Below B w w' := by
  rcases h2.2.2 with ⟨_, h0⟩ | ⟨g2, e2, h5, h6, _⟩
  · exact (hm.1 h0).mono hB
  · exact gr_to (hm.2 g2 e2) hB (by omega)
theorem MV.vec {w : World} {av : Option Addr} {n cap lo hi : Nat} {ds : List (Int × Int)} (h : MV w av n cap lo hi (dcell ds)) (hl : ds.length = n) : IsVec w av n cap ds := by
  rcases h.2.2 with ⟨h0, _⟩ | ⟨g, rfl, _, _, r⟩
  · exact ⟨hl, h.1, h.2.1, Or.inl h0⟩
  · exact isVec_of_row hl h.1 h.2.1 r
theorem MV.of_owns {w : World} {base : Nat} {e : TypeId} {v : Value} {ds : List (Int × Int)} (h : w.ownsRow base e 2 v ds.length (dcs ds)) : ∃ av cap, v = .slice av ds.length cap ∧ MV w av ds.length cap base w.heap.size (dcell ds) := by
  obtain ⟨av, cap, hv, hi, hr⟩ := owns_vec h
  exact ⟨av, cap, hv, hi.hcap, hi.hmost, hr.imp (fun h => ⟨h.2, h.1⟩) fun ⟨g, e, hb, r⟩ => ⟨g, e, hb, r.lt, r⟩⟩

end Go.Proofs.YtccendmoeelniaaGreatDoor
