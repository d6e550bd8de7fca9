/-
  Texts of one proof, joined: Er1, Kept.
-/
import Derived.Test.YtccendmoeelniaaGreatDoorProg
import Derived.WalkKit
import Derived.LaidEql
import Derived.Stop.Asserts
import Derived.RowKitTokens
import Derived.Below
namespace Go.Proofs.YtccendmoeelniaaGreatDoor
open Go.RowKit Go.Extern.Stop Go.Stop Go.Extern
theorem isTypeOf (v : Value) (w : World) : (Extern.ReflectliteType.typeOf #[.iface 223 v]).run Tryz.prog w = .ok (.iface 187 (.agg #[.pointer (some ⟨6, 223, none⟩)])) w := by kernel_rfl

theorem isComparable (w : World) : ((Extern.ReflectliteType.method fun t => do Rtype.noPackHeld "Comparable" t; (fun a => Value.bool a.comparable) <$> typeInfo t) #[.agg #[.pointer (some ⟨6, 223, none⟩)]]).run Tryz.prog w = .ok (.bool true) w := by kernel_rfl

theorem isComp : (Tryz.prog.info? 223).map (·.comparable) = some true := by kernel_rfl

theorem isSize : (Tryz.prog.info? 243).map (·.size) = some 1 := by kernel_rfl

theorem noIsE (v : Value) (xT : TypeId) (w : World) : (Instr.typeAssert (.iface 223 v) xT 199 true).run Tryz.prog w = .ok (.tuple #[.nilIface, .bool false]) w := run_typeAssert_lacksB Tryz.underlying199 (by kernel_rfl) (by kernel_rfl) v xT w

theorem noUnwrapE (v : Value) (xT : TypeId) (w : World) : (Instr.typeAssert (.iface 223 v) xT 194 true).run Tryz.prog w = .ok (.tuple #[.nilIface, .bool false]) w := run_typeAssert_lacksB Tryz.underlying194 (by kernel_rfl) (by kernel_rfl) v xT w

theorem noUnwrapsE (v : Value) (xT : TypeId) (w : World) : (Instr.typeAssert (.iface 223 v) xT 196 true).run Tryz.prog w = .ok (.tuple #[.nilIface, .bool false]) w := run_typeAssert_lacksB Tryz.underlying196 (by kernel_rfl) (by kernel_rfl) v xT w

theorem noIsW (v : Value) (xT : TypeId) (w : World) : (Instr.typeAssert (.iface 126 v) xT 199 true).run Tryz.prog w = .ok (.tuple #[.nilIface, .bool false]) w := run_typeAssert_lacksB Tryz.underlying199 (by kernel_rfl) (by kernel_rfl) v xT w

theorem hasUnwrapW (v : Value) (xT : TypeId) (w : World) : (Instr.typeAssert (.iface 126 v) xT 194 true).run Tryz.prog w = .ok (.tuple #[.iface 126 v, .bool true]) w := run_typeAssert_hasB Tryz.underlying194 (by kernel_rfl) v xT w

set_option maxHeartbeats 4000000 in
set_option maxRecDepth 100000 in
theorem is_wrap_same (pb po : Nat) (b : Addr) (w : World) (h1 : w.cell? ⟨pb, po, none⟩ = some (.iface 223 (.pointer (some b)))) :
    Calls Tryz.prog 90 #[.iface 126 (.pointer (some ⟨pb, po, none⟩)), .iface 223 (.pointer (some b))] w fun e w' => e = .returned (.bool true) ∧ w' = w := by
  obtain ⟨i, hi, hcmp⟩ := Option.map_eq_some_iff.1 isComp
  obtain ⟨j, hj, hjs⟩ := Option.map_eq_some_iff.1 isSize
  have h8 := @run_callFunc_extern Tryz.prog 119 _ Extern.ReflectliteType.typeOf Tryz.func119 (by kernel_rfl) (by kernel_rfl) (by kernel_rfl) (by kernel_rfl)
  have h32 := @run_callFunc_extern Tryz.prog 182 _ (Extern.ReflectliteType.method fun t => do Rtype.noPackHeld "Comparable" t; pure (.bool (← typeInfo t).comparable)) Tryz.func182 (by kernel_rfl) (by kernel_rfl) (by kernel_rfl) (by kernel_rfl)
  have tT := isTypeOf
  have cT := isComparable
  have mR : ∀ (v : Value) (w : World), (Go.method 358 187 v "Comparable").run Tryz.prog w = .ok (182, v) w := fun _ _ => by kernel_rfl
  have nE := noIsE
  have uE := noUnwrapE
  have vE := noUnwrapsE
  have nW := noIsW
  have uW := hasUnwrapW
  have mU : ∀ (v : Value) (w : World), (Go.method 358 126 v "Unwrap").run Tryz.prog w = .ok (173, v) w := fun _ _ => by kernel_rfl
  have heq := run_eql_iface_ptr_same (P := Tryz.prog) w b Tryz.underlying82 Tryz.underlying223 hi hcmp hj
  have hty := run_eql_iface_types (P := Tryz.prog) 126 223 (.pointer (some ⟨pb, po, none⟩)) (.pointer (some b)) Tryz.underlying82 (by decide) w
  go_enter Tryz.func90, Tryz.ntmps90
  go_wp2
  refine wp_loop_rounds 2 ?_
  rw [rounds_succ]
  go_wp2
  rw [rounds_succ]
  go_wp2
  go_ret
  exact ⟨rfl, rfl⟩

set_option maxHeartbeats 4000000 in
set_option maxRecDepth 100000 in
theorem is_wrap_other (pb po : Nat) (b a : Addr) (ca cb : Array Value) (ta tb : TypeId) (w : World) (h1 : w.cell? ⟨pb, po, none⟩ = some (.iface 223 (.pointer (some a)))) (hne : a ≠ b) (ha : w.heap[a.block]? = some (.cells ca ta (0, 0))) (hb : w.heap[b.block]? = some (.cells cb tb (0, 0))) :
    Calls Tryz.prog 90 #[.iface 126 (.pointer (some ⟨pb, po, none⟩)), .iface 223 (.pointer (some b))] w fun e w' => e = .returned (.bool false) ∧ w' = w := by
  obtain ⟨i, hi, hcmp⟩ := Option.map_eq_some_iff.1 isComp
  obtain ⟨j, hj, hjs⟩ := Option.map_eq_some_iff.1 isSize
  have h8 := @run_callFunc_extern Tryz.prog 119 _ Extern.ReflectliteType.typeOf Tryz.func119 (by kernel_rfl) (by kernel_rfl) (by kernel_rfl) (by kernel_rfl)
  have h32 := @run_callFunc_extern Tryz.prog 182 _ (Extern.ReflectliteType.method fun t => do Rtype.noPackHeld "Comparable" t; pure (.bool (← typeInfo t).comparable)) Tryz.func182 (by kernel_rfl) (by kernel_rfl) (by kernel_rfl) (by kernel_rfl)
  have tT := isTypeOf
  have cT := isComparable
  have mR : ∀ (v : Value) (w : World), (Go.method 358 187 v "Comparable").run Tryz.prog w = .ok (182, v) w := fun _ _ => by kernel_rfl
  have nE := noIsE
  have uE := noUnwrapE
  have vE := noUnwrapsE
  have nW := noIsW
  have uW := hasUnwrapW
  have mU : ∀ (v : Value) (w : World), (Go.method 358 126 v "Unwrap").run Tryz.prog w = .ok (173, v) w := fun _ _ => by kernel_rfl
  have heq := run_eql_iface_ptr_other (P := Tryz.prog) w Tryz.underlying82 Tryz.underlying223 hi hcmp hj (by rw [hjs]; decide) hne ha hb
  have hty := run_eql_iface_types (P := Tryz.prog) 126 223 (.pointer (some ⟨pb, po, none⟩)) (.pointer (some b)) Tryz.underlying82 (by decide) w
  go_enter Tryz.func90, Tryz.ntmps90
  go_wp2
  refine wp_loop_rounds 2 ?_
  rw [rounds_succ]
  go_wp2
  rw [rounds_succ]
  go_wp2
  go_ret
  exact ⟨rfl, rfl⟩

end Go.Proofs.YtccendmoeelniaaGreatDoor

namespace Go.Proofs.YtccendmoeelniaaGreatDoor
open Go.RowKit
theorem aZ {A : Type} {l : List A} {i : Nat} (h : i < l.toArray.size) : l.toArray[i] = l[i]'(by simpa using h) := List.getElem_toArray h

theorem bZ {A : Type} (a : A) (l : List A) (h : 0 < (a :: l).length) : (a :: l)[0] = a := List.getElem_cons_zero _ _ h

theorem cZ {A : Type} (a : A) (l : List A) (i : Nat) (h : i + 1 < (a :: l).length) : (a :: l)[i + 1] = l[i]'(by simpa using h) := List.getElem_cons_succ _ _ _ h

theorem dZ {A : Type} (l : List A) (i : Nat) (a : A) : l.toArray.setIfInBounds i a = (l.set i a).toArray := List.setIfInBounds_toArray _ _ _

theorem eZ {A : Type} (a b : A) (l : List A) : (a :: l).set 0 b = b :: l := List.set_cons_zero

theorem fZ {A : Type} (a b : A) (l : List A) (n : Nat) : (a :: l).set (n + 1) b = a :: l.set n b := List.set_cons_succ

abbrev Kp (W0 w' : World) : Prop := Below W0.heap.size W0 w' ∧ (∀ b o, b < W0.heap.size → w'.cell? ⟨b, o, none⟩ = W0.cell? ⟨b, o, none⟩)

theorem kp_of {W0 w' : World} (h : Below W0.heap.size W0 w') : Kp W0 w' := ⟨h, fun b o hb => h.cell (p := ⟨b, o, none⟩) hb⟩

theorem kp_zero (W0 : World) : Kp W0 W0.drew := kp_of (Below.refl _ _).drew

theorem kp_drew {W0 w1 : World} (h : Kp W0 w1) : Kp W0 w1.drew := kp_of h.1.drew

theorem kp_step {W0 w1 w2 : World} (h : Kp W0 w1) (hb : Below w1.heap.size w1 w2) : Kp W0 w2 := kp_of (h.1.trans (hb.mono h.1.size))

theorem bcell {W w1 : World} (hb : Below W.heap.size W w1) : (∀ b o, b < W.heap.size → w1.cell? ⟨b, o, none⟩ = W.cell? ⟨b, o, none⟩) ∧ (∀ b o, b < W.heap.size → w1.frozen? ⟨b, o, none⟩ = W.frozen? ⟨b, o, none⟩) :=
  ⟨fun b o h => hb.cell (p := ⟨b, o, none⟩) h, fun b o h => hb.frozen (p := ⟨b, o, none⟩) h⟩

theorem kp_alloc {W0 w1 : World} (h : Kp W0 w1) (o : Obj) : Kp W0 (w1.alloc o) := kp_of (h.1.alloc h.1.size o)

end Go.Proofs.YtccendmoeelniaaGreatDoor
