/-
  Texts of one proof, joined: Er1, Er2.
-/
import Derived.Test.YtccendmoeelniaaGreatDoorProg
import Derived.WalkKit
import Derived.LaidEql
import Derived.Stop.Asserts
import Derived.RowKitTokens
import Derived.Test.YtccendmoeelniaaGreatDoorZFSameOps00
namespace Go.Proofs.YtccendmoeelniaaGreatDoor
open Go.RowKit Go.Extern.Stop Go.Stop Go.Extern
theorem isTypeOf (v : Value) (w : World) : (Extern.ReflectliteType.typeOf #[.iface 223 v]).run Tryz.prog w = .ok (.iface 187 (.agg #[.pointer (some ⟨6, 223, none⟩)])) w := by kernel_rfl

theorem isComparable (w : World) : ((Extern.ReflectliteType.method fun t => do Rtype.noPackHeld "Comparable" t; (fun a => Value.bool a.comparable) <$> typeInfo t) #[.agg #[.pointer (some ⟨6, 223, none⟩)]]).run Tryz.prog w = .ok (.bool true) w := by kernel_rfl

theorem isComp : (Tryz.prog.info? 223).map (·.comparable) = some true := by kernel_rfl

theorem isSize : (Tryz.prog.info? 243).map (·.size) = some 1 := by kernel_rfl

theorem noIsE (v : Value) (xT : TypeId) (w : World) : (Instr.typeAssert (.iface 223 v) xT 199 true).run Tryz.prog w = .ok (.tuple #[.nilIface, .bool false]) w := run_typeAssert_lacksB Tryz.underlying199 (by kernel_rfl) (by kernel_rfl) v xT w

theorem noUnwrapE (v : Value) (xT : TypeId) (w : World) : (Instr.typeAssert (.iface 223 v) xT 194 true).run Tryz.prog w = .ok (.tuple #[.nilIface, .bool false]) w := run_typeAssert_lacksB Tryz.underlying194 (by kernel_rfl) (by kernel_rfl) v xT w

theorem noUnwrapsE (v : Value) (xT : TypeId) (w : World) : (Instr.typeAssert (.iface 223 v) xT 196 true).run Tryz.prog w = .ok (.tuple #[.nilIface, .bool false]) w := run_typeAssert_lacksB Tryz.underlying196 (by kernel_rfl) (by kernel_rfl) v xT w

theorem noIsW (v : Value) (xT : TypeId) (w : World) : (Instr.typeAssert (.iface 126 v) xT 199 true).run Tryz.prog w = .ok (.tuple #[.nilIface, .bool false]) w := run_typeAssert_lacksB Tryz.underlying199 (by kernel_rfl) (by kernel_rfl) v xT w

theorem hasUnwrapW (v : Value) (xT : TypeId) (w : World) : (Instr.typeAssert (.iface 126 v) xT 194 true).run Tryz.prog w = .ok (.tuple #[.iface 126 v, .bool true]) w := run_typeAssert_hasB Tryz.underlying194 (by kernel_rfl) v xT w

set_option maxHeartbeats 4000000 in
set_option maxRecDepth 100000 in
theorem is_wrap_same (pb po : Nat) (b : Addr) (w : World) (h1 : w.cell? ⟨pb, po, none⟩ = some (.iface 223 (.pointer (some b)))) :
  Calls Tryz.prog 90 #[.iface 126 (.pointer (some ⟨pb, po, none⟩)), .iface 223 (.pointer (some b))] w fun e w' => e = .returned (.bool true) ∧ w' = w := by
 obtain ⟨i, hi, hcmp⟩ := Option.map_eq_some_iff.1 isComp
 obtain ⟨j, hj, hjs⟩ := Option.map_eq_some_iff.1 isSize
 have h8 := @run_callFunc_extern Tryz.prog 119 _ Extern.ReflectliteType.typeOf Tryz.func119 (by kernel_rfl) (by kernel_rfl) (by kernel_rfl) (by kernel_rfl)
 have h32 := @run_callFunc_extern Tryz.prog 182 _ (Extern.ReflectliteType.method fun t => do Rtype.noPackHeld "Comparable" t; pure (.bool (← typeInfo t).comparable)) Tryz.func182 (by kernel_rfl) (by kernel_rfl) (by kernel_rfl) (by kernel_rfl)
 have tT := isTypeOf
 have cT := isComparable
 have mR : ∀ (v : Value) (w : World), (Go.method 358 187 v "Comparable").run Tryz.prog w = .ok (182, v) w := fun _ _ => by kernel_rfl
 have nE := noIsE
 have uE := noUnwrapE
 have vE := noUnwrapsE
 have nW := noIsW
 have uW := hasUnwrapW
 have mU : ∀ (v : Value) (w : World), (Go.method 358 126 v "Unwrap").run Tryz.prog w = .ok (173, v) w := fun _ _ => by kernel_rfl
 have heq := run_eql_iface_ptr_same (P := Tryz.prog) w b Tryz.underlying82 Tryz.underlying223 hi hcmp hj
 have hty := run_eql_iface_types (P := Tryz.prog) 126 223 (.pointer (some ⟨pb, po, none⟩)) (.pointer (some b)) Tryz.underlying82 (by decide) w
 go_enter Tryz.func90, Tryz.ntmps90
 go_wp2
 refine wp_loop_rounds 2 ?_
 rw [rounds_succ]
 go_wp2
 rw [rounds_succ]
 go_wp2
 go_ret
 exact ⟨rfl, rfl⟩

set_option maxHeartbeats 4000000 in
set_option maxRecDepth 100000 in
theorem is_wrap_other (pb po : Nat) (b a : Addr) (ca cb : Array Value) (ta tb : TypeId) (w : World) (h1 : w.cell? ⟨pb, po, none⟩ = some (.iface 223 (.pointer (some a)))) (hne : a ≠ b) (ha : w.heap[a.block]? = some (.cells ca ta (0, 0))) (hb : w.heap[b.block]? = some (.cells cb tb (0, 0))) :
  Calls Tryz.prog 90 #[.iface 126 (.pointer (some ⟨pb, po, none⟩)), .iface 223 (.pointer (some b))] w fun e w' => e = .returned (.bool false) ∧ w' = w := by
 obtain ⟨i, hi, hcmp⟩ := Option.map_eq_some_iff.1 isComp
 obtain ⟨j, hj, hjs⟩ := Option.map_eq_some_iff.1 isSize
 have h8 := @run_callFunc_extern Tryz.prog 119 _ Extern.ReflectliteType.typeOf Tryz.func119 (by kernel_rfl) (by kernel_rfl) (by kernel_rfl) (by kernel_rfl)
 have h32 := @run_callFunc_extern Tryz.prog 182 _ (Extern.ReflectliteType.method fun t => do Rtype.noPackHeld "Comparable" t; pure (.bool (← typeInfo t).comparable)) Tryz.func182 (by kernel_rfl) (by kernel_rfl) (by kernel_rfl) (by kernel_rfl)
 have tT := isTypeOf
 have cT := isComparable
 have mR : ∀ (v : Value) (w : World), (Go.method 358 187 v "Comparable").run Tryz.prog w = .ok (182, v) w := fun _ _ => by kernel_rfl
 have nE := noIsE
 have uE := noUnwrapE
 have vE := noUnwrapsE
 have nW := noIsW
 have uW := hasUnwrapW
 have mU : ∀ (v : Value) (w : World), (Go.method 358 126 v "Unwrap").run Tryz.prog w = .ok (173, v) w := fun _ _ => by kernel_rfl
 have heq := run_eql_iface_ptr_other (P := Tryz.prog) w Tryz.underlying82 Tryz.underlying223 hi hcmp hj (by rw [hjs]; decide) hne ha hb
 have hty := run_eql_iface_types (P := Tryz.prog) 126 223 (.pointer (some ⟨pb, po, none⟩)) (.pointer (some b)) Tryz.underlying82 (by decide) w
 go_enter Tryz.func90, Tryz.ntmps90
 go_wp2
 refine wp_loop_rounds 2 ?_
 rw [rounds_succ]
 go_wp2
 rw [rounds_succ]
 go_wp2
 go_ret
 exact ⟨rfl, rfl⟩

end Go.Proofs.YtccendmoeelniaaGreatDoor

namespace Go.Proofs.YtccendmoeelniaaGreatDoor
open Go.RowKit Go.Extern.Stop Go.Stop Go.Extern
set_option linter.unusedVariables false
abbrev rv (T : Nat) (a : Addr) (fl : Int) : Value := .agg #[.pointer (some ⟨6, T, none⟩), .pointer (some a), .int .u64 fl]

abbrev rt (T : Nat) : Value := .agg #[.pointer (some ⟨6, T, none⟩)]

theorem open_method (z : Sem Value) (f : TypeId → Addr → Nat → Nat → Sem Value) (v : Value) :
  ReflectliteValue.method z f #[v] = (do match ← ReflectliteValue.parts v with | none => z | some (t, a, fl) => f t a fl (fl % 32)) := rfl

theorem parts_pp (a : Addr) (w : World) : (ReflectliteValue.parts (rv 136 a 150)).run Tryz.prog w = .ok (some (136, a, 150)) w := by kernel_rfl

theorem parts_at (a : Addr) (w : World) : (ReflectliteValue.parts (rv 126 a 406)).run Tryz.prog w = .ok (some (126, a, 406)) w := by kernel_rfl

theorem parts_p (a : Addr) (w : World) : (ReflectliteValue.parts (rv 126 a 150)).run Tryz.prog w = .ok (some (126, a, 150)) w := by kernel_rfl

theorem elem_pp (w : World) : (Rtype.elem? 136).run Tryz.prog w = .ok (some 126) w := by kernel_rfl

theorem mk_p (p : Addr) (w : World) : (ReflectliteValue.mk 126 p ReflectliteValue.flagAddr).run Tryz.prog w = .ok (rv 126 p 406) w := by kernel_rfl

theorem direct_p (w : World) : (Rtype.directlyAssignable 126 126).run Tryz.prog w = .ok true w := by kernel_rfl

theorem isNil_pp (a p : Addr) (W : World) (ha : W.cell? a = some (.pointer (some p))) :
  (ReflectliteValue.method (ReflectliteValue.valueError "reflectlite.Value.IsNil" 0) ReflectliteValue.isNil #[rv 136 a 150]).run Tryz.prog W = .ok (.bool false) W := by
 rw [open_method]
 simp only [Sem.run_bind, parts_pp, Result.andThen]
 simp [ReflectliteValue.isNil, loadVar, isAgg, underlying, Tryz.underlying136, ha, Result.andThen]

theorem elem_val (a p : Addr) (W : World) (ha : W.cell? a = some (.pointer (some p))) :
  (ReflectliteValue.method (ReflectliteValue.valueError "reflectlite.Value.Elem" 0) ReflectliteValue.elem #[rv 136 a 150]).run Tryz.prog W = .ok (rv 126 p 406) W := by
 rw [open_method]
 simp only [Sem.run_bind, parts_pp, Result.andThen]
 simp [ReflectliteValue.elem, loadVar, isAgg, underlying, Tryz.underlying136, ha, Result.andThen, elem_pp, mk_p]

theorem open_set (v x : Value) : ReflectliteValue.set #[v, x] = (do
  let (some (dst, a, fl), some (src, b, _)) := (← ReflectliteValue.parts v, ← ReflectliteValue.parts x)
   | unsupported (.noEntry "extern/(internal/reflectlite.Value).Set.zeroValue")
  if fl / ReflectliteValue.flagAddr % 2 == 0 then unsupported (.noEntry "extern/(internal/reflectlite.Value).Set.unaddressable")
  let val ← loadVar src b
  if ← Rtype.directlyAssignable dst src then storeVar dst a val
  else if ← Rtype.implements dst src then
   if (← Rtype.kind src) == 20 then
    match val with
    | .nilIface => unsupported (.noEntry "extern/reflectlite: a nil value of one interface type handed on as a value of another")
    | _ => storeVar dst a val
   else storeVar dst a (.iface src val)
  else panicString ("reflectlite.Set: value of type " ++ (← Rtype.spelt src) ++ " is not assignable to type " ++ (← Rtype.spelt dst))
  pure (.tuple #[])) := rfl

theorem set_p (ta b e : Addr) (old : Value) (W : World) (hb : W.cell? b = some (.pointer (some e))) (ht : W.cell? ta = some old) (hf : W.frozen? ta = false) :
  (ReflectliteValue.set #[rv 126 ta 406, rv 126 b 150]).run Tryz.prog W = .ok (.tuple #[]) (W.setCell ta (.pointer (some e))) := by
 rw [open_set]
 simp only [Sem.run_bind, parts_at, parts_p, Result.andThen]
 simp [ReflectliteValue.flagAddr, loadVar, isAgg, underlying, Tryz.underlying126, hb, Result.andThen, direct_p, storeVar, Value.cells, storeCells, Addr.add]
 rw [run_store Tryz.prog W ta _ _ (by rfl)]
 simp [ht, hf]

set_option maxHeartbeats 4000000 in
set_option maxRecDepth 100000 in
theorem as_hit (e t : Addr) (old : Value) (w : World) (hg : w.cell? ⟨5, 0, none⟩ = some (.iface 187 (rt 82))) (ht0 : w.cell? t = some old) (hf0 : w.frozen? t = false) :
  Calls Tryz.prog 89 #[.iface 126 (.pointer (some e)), .iface 136 (.pointer (some t))] w fun ev w' => ev = .returned (.bool true) ∧ w' = ((((w.alloc (.cells #[.pointer (some t)] 136)).alloc (.cells #[.pointer (some ⟨6, 136, none⟩), .pointer (some ⟨w.heap.size, 0, none⟩), .int .u64 150] 165)).alloc (.cells #[.pointer (some ⟨6, 136, none⟩), .pointer (some ⟨w.heap.size, 0, none⟩), .int .u64 150] 165)).alloc (.cells #[.pointer (some e)] 126)).setCell t (.pointer (some e)) := by
 have x1 := @run_callFunc_extern Tryz.prog 115 _ (fun args => ReflectliteValue.unpack (args.getD 0 (.tuple #[]))) Tryz.func115 (by kernel_rfl) (by kernel_rfl) (by kernel_rfl) (by kernel_rfl)
 have x2 := @run_callFunc_extern Tryz.prog 116 _ (ReflectliteValue.methodAny (ReflectliteValue.valueError "reflectlite.Value.Type" 0) (fun t _ _ _ => ReflectliteType.toType t)) Tryz.func116 (by kernel_rfl) (by kernel_rfl) (by kernel_rfl) (by kernel_rfl)
 have x3 := @run_callFunc_extern Tryz.prog 117 _ (ReflectliteValue.method (ReflectliteValue.valueError "reflectlite.Value.IsNil" 0) ReflectliteValue.isNil) Tryz.func117 (by kernel_rfl) (by kernel_rfl) (by kernel_rfl) (by kernel_rfl)
 have x4 := @run_callFunc_extern Tryz.prog 168 _ (ReflectliteType.abiMethod fun t => do pure (.int .u8 (← Rtype.kind t))) Tryz.func168 (by kernel_rfl) (by kernel_rfl) (by kernel_rfl) (by kernel_rfl)
 have x5 := @run_callFunc_extern Tryz.prog 183 _ (ReflectliteType.method ReflectliteType.elem) Tryz.func183 (by kernel_rfl) (by kernel_rfl) (by kernel_rfl) (by kernel_rfl)
 have x6 := @run_callFunc_extern Tryz.prog 184 _ (ReflectliteType.relation "Implements" ReflectliteType.implements_) Tryz.func184 (by kernel_rfl) (by kernel_rfl) (by kernel_rfl) (by kernel_rfl)
 have x7 := @run_callFunc_extern Tryz.prog 119 _ ReflectliteType.typeOf Tryz.func119 (by kernel_rfl) (by kernel_rfl) (by kernel_rfl) (by kernel_rfl)
 have x8 := @run_callFunc_extern Tryz.prog 181 _ (ReflectliteType.relation "AssignableTo" ReflectliteType.assignableTo) Tryz.func181 (by kernel_rfl) (by kernel_rfl) (by kernel_rfl) (by kernel_rfl)
 have x9 := @run_callFunc_extern Tryz.prog 134 _ (ReflectliteValue.method (ReflectliteValue.valueError "reflectlite.Value.Elem" 0) ReflectliteValue.elem) Tryz.func134 (by kernel_rfl) (by kernel_rfl) (by kernel_rfl) (by kernel_rfl)
 have x10 := @run_callFunc_extern Tryz.prog 135 _ ReflectliteValue.set Tryz.func135 (by kernel_rfl) (by kernel_rfl) (by kernel_rfl) (by kernel_rfl)
 have y1 : ∀ (t : Addr) (w : World), (ReflectliteValue.unpack (.iface 136 (.pointer (some t)))).run Tryz.prog w = .ok (rv 136 ⟨w.heap.size, 0, none⟩ 150) (w.alloc (.cells #[.pointer (some t)] 136)) := fun _ _ => by kernel_rfl
 have y2 : ∀ (a : Addr) (w : World), (ReflectliteValue.methodAny (ReflectliteValue.valueError "reflectlite.Value.Type" 0) (fun t _ _ _ => ReflectliteType.toType t) #[rv 136 a 150]).run Tryz.prog w = .ok (.iface 187 (rt 136)) w := fun _ _ => by kernel_rfl
 have y3 : ∀ (h : Value) (w : World), (Go.method 358 187 (.agg #[h]) "Kind").run Tryz.prog w = .ok (168, h) w := fun _ _ => by kernel_rfl
 have y4 : ∀ w : World, ((ReflectliteType.abiMethod fun t => (fun a : Nat => Value.int IntKind.u8 (a : Int)) <$> Rtype.kind t) #[.pointer (some ⟨6, 136, none⟩)]).run Tryz.prog w = .ok (.int .u8 22) w := fun _ => by kernel_rfl
 have y5 : ∀ w : World, ((ReflectliteType.abiMethod fun t => (fun a : Nat => Value.int IntKind.u8 (a : Int)) <$> Rtype.kind t) #[.pointer (some ⟨6, 126, none⟩)]).run Tryz.prog w = .ok (.int .u8 22) w := fun _ => by kernel_rfl
 have y6 : ∀ (h : Value) (w : World), (Go.method 358 187 (.agg #[h]) "Elem").run Tryz.prog w = .ok (183, .agg #[h]) w := fun _ _ => by kernel_rfl
 have y7 : ∀ (h : Value) (w : World), (Go.method 358 187 (.agg #[h]) "Implements").run Tryz.prog w = .ok (184, .agg #[h]) w := fun _ _ => by kernel_rfl
 have y8 : ∀ (h : Value) (w : World), (Go.method 358 187 (.agg #[h]) "AssignableTo").run Tryz.prog w = .ok (181, .agg #[h]) w := fun _ _ => by kernel_rfl
 have y9 : ∀ w : World, (ReflectliteType.method ReflectliteType.elem #[rt 136]).run Tryz.prog w = .ok (.iface 187 (rt 126)) w := fun _ => by kernel_rfl
 have y10 : ∀ w : World, (ReflectliteType.relation "Implements" ReflectliteType.implements_ #[rt 126, .iface 187 (rt 82)]).run Tryz.prog w = .ok (.bool true) w := fun _ => by kernel_rfl
 have y11 : ∀ (v : Value) (w : World), (ReflectliteType.typeOf #[.iface 126 v]).run Tryz.prog w = .ok (.iface 187 (rt 126)) w := fun _ _ => by kernel_rfl
 have y12 : ∀ w : World, (ReflectliteType.relation "AssignableTo" ReflectliteType.assignableTo #[rt 126, .iface 187 (rt 126)]).run Tryz.prog w = .ok (.bool true) w := fun _ => by kernel_rfl
 have y13 : ∀ (e : Addr) (w : World), (ReflectliteValue.unpack (.iface 126 (.pointer (some e)))).run Tryz.prog w = .ok (rv 126 ⟨w.heap.size, 0, none⟩ 150) (w.alloc (.cells #[.pointer (some e)] 126)) := fun _ _ => by kernel_rfl
 have hlt : 5 < w.heap.size := by
  rcases Nat.lt_or_ge 5 w.heap.size with h | h
  ·exact h
  ·simp [World.cell?, Array.getElem?_eq_none h] at hg
 have htl : t.block < w.heap.size := by
  rcases Nat.lt_or_ge t.block w.heap.size with h | h
  ·exact h
  ·simp [World.cell?, Array.getElem?_eq_none h] at ht0
 obtain ⟨wA, hA⟩ : ∃ W, w.alloc (.cells #[.pointer (some t)] 136) = W := ⟨_, rfl⟩
 have zA : wA.heap.size = w.heap.size + 1 := by rw [← hA]; simp
 obtain ⟨wB, hB⟩ : ∃ W, wA.alloc (.cells #[.pointer (some ⟨6, 136, none⟩), .pointer (some ⟨w.heap.size, 0, none⟩), .int .u64 150] 165) = W := ⟨_, rfl⟩
 have zB : wB.heap.size = w.heap.size + 1 + 1 := by rw [← hB]; simp [zA]
 obtain ⟨wC, hC⟩ : ∃ W, wB.alloc (.cells #[.pointer (some ⟨6, 136, none⟩), .pointer (some ⟨w.heap.size, 0, none⟩), .int .u64 150] 165) = W := ⟨_, rfl⟩
 have zC : wC.heap.size = w.heap.size + 1 + 1 + 1 := by rw [← hC]; simp [zB]
 obtain ⟨wD, hD⟩ : ∃ W, wC.alloc (.cells #[.pointer (some e)] 126) = W := ⟨_, rfl⟩
 have bA : Below w.heap.size w wA := by rw [← hA]; exact (Below.refl _ _).alloc (Nat.le_refl _) _
 have bB : Below w.heap.size w wB := by rw [← hB]; exact bA.alloc bA.size _
 have bC : Below w.heap.size w wC := by rw [← hC]; exact bB.alloc bB.size _
 have bD : Below w.heap.size w wD := by rw [← hD]; exact bC.alloc bC.size _
 have cA : wA.cell? ⟨w.heap.size, 0, none⟩ = some (.pointer (some t)) := by rw [← hA]; simp
 have cB : wB.cell? ⟨w.heap.size, 0, none⟩ = some (.pointer (some t)) := by
  rw [← hB, World.cell?_alloc_lt _ _ ⟨w.heap.size, 0, none⟩ (by simp; omega)]; exact cA
 have cC : wC.cell? ⟨w.heap.size, 0, none⟩ = some (.pointer (some t)) := by
  rw [← hC, World.cell?_alloc_lt _ _ ⟨w.heap.size, 0, none⟩ (by simp; omega)]; exact cB
 have n1 := isNil_pp ⟨w.heap.size, 0, none⟩ t wB cB
 have g1 : wB.cell? ⟨5, 0, none⟩ = some (.iface 187 (rt 82)) := (bB.cell (p := ⟨5, 0, none⟩) hlt).trans hg
 have l1 := elem_val ⟨w.heap.size, 0, none⟩ t wC cC
 have s1 := set_p t ⟨w.heap.size + 1 + 1 + 1, 0, none⟩ e old wD (by rw [← hD, ← zC]; simp) ((bD.cell htl).trans ht0) ((bD.frozen htl).trans hf0)
 subst hA
 subst hB
 subst hC
 subst hD
 go_enter Tryz.func89, Tryz.ntmps89
 go_wp2
 refine wp_loop_rounds 1 ?_
 rw [rounds_succ]
 go_wp2
 go_ret
 exact ⟨rfl, rfl⟩

end Go.Proofs.YtccendmoeelniaaGreatDoor
