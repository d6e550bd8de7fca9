/-
  Texts of one proof, joined: UpdOk, SetImpl.
-/
import Derived.Test.YtgcinolbkllkkaaGreatZFConverged03
set_option linter.unusedSimpArgs false
set_option linter.unusedVariables false
namespace Go.Proofs.YtgcinolbkllkkaaGreat
open Go.ChangeShapes Go.WideShapes Go.ChangeAt Go.RowKit
set_option maxHeartbeats 32000000 in
set_option maxRecDepth 100000 in
theorem updateOk_off (dr dn sw sc sr k tr id pa st en lv:Int)(s:ByteArray)(v:Value)(w:World)(h1:M1.dotOk dr dn=true)(h2:M1.stOk sw sc sr=true)(h3:sr=dr)(h4:M1.inB tr 1 1000=true)
  (hch:Hid (∀ w,Calls Tryz.prog 98 #[.agg #[.int .i64 dr,.int .i64 dn,.int .i64 sw,.int .i64 sc,.int .i64 sr,.int .i64 k,.int .i64 tr,.int .i64 id,.int .i64 pa,.string s,.int .i64 st,.int .i64 en,.int .i64 lv]] w fun e w'=>e=.returned (.tuple #[v,.bool false])∧Below w.heap.size w w')) :
  Calls Tryz.prog 62 #[.agg #[.int .i64 dr,.int .i64 dn,.int .i64 sw,.int .i64 sc,.int .i64 sr,.int .i64 k,.int .i64 tr,.int .i64 id,.int .i64 pa,.string s,.int .i64 st,.int .i64 en,.int .i64 lv]] w fun e w'=>e=.returned (.bool false)∧Below w.heap.size w w':=by
 subst h3;go_enter Tryz.func62,Tryz.ntmps62
 go_wp2_with fail
 refine (dotOk_any _ _ _).mono ?_;rw [h1];rintro e w1 ⟨rfl,hb1⟩;obtain ⟨hc1,hf1⟩:=bcell hb1;have hs1:=hb1.size;simp at hs1
 have hs1a:w.heap.size<w1.heap.size:=by omega
 go_wp2_with fail
 refine (stampOk_impl _ _ _ _).mono ?_;rw [h2];rintro e w2 ⟨rfl,hb2⟩;have hB2:=hb1.trans (hb2.mono hb1.size);clear hc1 hf1;obtain ⟨hc2,hf2⟩:=bcell hB2;have hs2:=hB2.size;simp at hs2
 have hs2a:w.heap.size<w2.heap.size:=by omega
 go_wp2_with fail
 refine (inRange_any _ _ _ _).mono ?_;rw [h4];rintro e w3 ⟨rfl,rfl⟩;go_wp2_with fail
 refine (hch.out _).mono ?_;rintro e w4 ⟨rfl,hb4⟩;have hB4:=hB2.trans (hb4.mono hB2.size);clear hc2 hf2;go_wp2_with fail
 go_ret
 refine ⟨rfl,?_⟩;repeat (first | (with_reducible exact Below.refl _ _) | ((with_reducible refine Below.setCell ?_ ?_ _);rotate_left;(focus (first | omega | (simp;done) | (simp;omega)))) | ((with_reducible refine Below.alloc ?_ ?_ _);rotate_left;(focus (first | omega | (simp;done) | (simp;omega)))) | (with_reducible refine Below.drew ?_) | ((with_reducible refine Below.trans ?_ (Below.mono hB4 ?_));rotate_left;(focus (first | omega | (simp;done) | (simp;omega)))))
set_option maxHeartbeats 32000000 in
set_option maxRecDepth 100000 in
theorem updateOk_span (dr dn sw sc sr k tr id pa st en lv:Int)(s:ByteArray)(b:Bool)(w:World)(h1:M1.dotOk dr dn=true)(h2:M1.stOk sw sc sr=true)(h3:sr=dr)(h4:M1.inB tr 1 1000=true)
  (hr:Hid (∀ w,Calls Tryz.prog 191 #[(.agg #[.int .i64 id,.int .i64 pa,.string s,.int .i64 st,.int .i64 en])] w fun e w'=>e=.returned (.bool b)∧Below w.heap.size w w'))
  (hch:Hid (∀ w,Calls Tryz.prog 98 #[.agg #[.int .i64 dr,.int .i64 dn,.int .i64 sw,.int .i64 sc,.int .i64 sr,.int .i64 k,.int .i64 tr,.int .i64 id,.int .i64 pa,.string s,.int .i64 st,.int .i64 en,.int .i64 lv]] w fun e w'=>e=.returned (.tuple #[.iface 179 (.agg #[.int .i64 id,.int .i64 pa,.string s,.int .i64 st,.int .i64 en]),.bool true])∧Below w.heap.size w w')) :
  Calls Tryz.prog 62 #[.agg #[.int .i64 dr,.int .i64 dn,.int .i64 sw,.int .i64 sc,.int .i64 sr,.int .i64 k,.int .i64 tr,.int .i64 id,.int .i64 pa,.string s,.int .i64 st,.int .i64 en,.int .i64 lv]] w fun e w'=>e=.returned (.bool b)∧Below w.heap.size w w':=by
 subst h3
 have hm : ∀ w, (method 199 179 (.agg #[.int .i64 id, .int .i64 pa, .string s, .int .i64 st, .int .i64 en]) "loop.example/g00368/impl.right").run Tryz.prog w = .ok (191, (.agg #[.int .i64 id, .int .i64 pa, .string s, .int .i64 st, .int .i64 en])) w := fun _ => by kernel_rfl
 go_enter Tryz.func62,Tryz.ntmps62
 go_wp2_with fail
 refine (dotOk_any _ _ _).mono ?_;rw [h1];rintro e w1 ⟨rfl,hb1⟩;obtain ⟨hc1,hf1⟩:=bcell hb1;have hs1:=hb1.size;simp at hs1
 have hs1a:w.heap.size<w1.heap.size:=by omega
 go_wp2_with fail
 refine (stampOk_impl _ _ _ _).mono ?_;rw [h2];rintro e w2 ⟨rfl,hb2⟩;have hB2:=hb1.trans (hb2.mono hb1.size);clear hc1 hf1;obtain ⟨hc2,hf2⟩:=bcell hB2;have hs2:=hB2.size;simp at hs2
 have hs2a:w.heap.size<w2.heap.size:=by omega
 go_wp2_with fail
 refine (inRange_any _ _ _ _).mono ?_;rw [h4];rintro e w3 ⟨rfl,rfl⟩;go_wp2_with fail
 refine (hch.out _).mono ?_;rintro e w4 ⟨rfl,hb4⟩;have hB4:=hB2.trans (hb4.mono hB2.size);clear hc2 hf2;go_wp2_with fail
 refine (hr.out _).mono ?_;rintro e w5 ⟨rfl,hb5⟩;go_wp2_with fail
 go_ret
 refine ⟨rfl,?_⟩;have hs4:=hB4.size;simp at hs4
 repeat (first | (with_reducible exact Below.refl _ _) | ((with_reducible refine Below.setCell ?_ ?_ _);rotate_left;(focus (first | omega | (simp;done) | (simp;omega)))) | ((with_reducible refine Below.alloc ?_ ?_ _);rotate_left;(focus (first | omega | (simp;done) | (simp;omega)))) | (with_reducible refine Below.drew ?_) | ((with_reducible refine Below.trans ?_ (Below.mono hb5 ?_));rotate_left;(focus (first | omega | (simp;done) | (simp;omega)))) | ((with_reducible refine Below.trans ?_ (Below.mono hB4 ?_));rotate_left;(focus (first | omega | (simp;done) | (simp;omega)))))
set_option maxHeartbeats 32000000 in
set_option maxRecDepth 100000 in
theorem updateOk_keep (dr dn sw sc sr k tr id pa st en lv:Int)(s:ByteArray)(b:Bool)(w:World)(h1:M1.dotOk dr dn=true)(h2:M1.stOk sw sc sr=true)(h3:sr=dr)(h4:M1.inB tr 1 1000=true)
  (hr:Hid (∀ w,Calls Tryz.prog 195 #[(.agg #[])] w fun e w'=>e=.returned (.bool b)∧Below w.heap.size w w'))
  (hch:Hid (∀ w,Calls Tryz.prog 98 #[.agg #[.int .i64 dr,.int .i64 dn,.int .i64 sw,.int .i64 sc,.int .i64 sr,.int .i64 k,.int .i64 tr,.int .i64 id,.int .i64 pa,.string s,.int .i64 st,.int .i64 en,.int .i64 lv]] w fun e w'=>e=.returned (.tuple #[.iface 181 (.agg #[]),.bool true])∧Below w.heap.size w w')) :
  Calls Tryz.prog 62 #[.agg #[.int .i64 dr,.int .i64 dn,.int .i64 sw,.int .i64 sc,.int .i64 sr,.int .i64 k,.int .i64 tr,.int .i64 id,.int .i64 pa,.string s,.int .i64 st,.int .i64 en,.int .i64 lv]] w fun e w'=>e=.returned (.bool b)∧Below w.heap.size w w':=by
 subst h3
 have hm : ∀ w, (method 199 181 (.agg #[]) "loop.example/g00368/impl.right").run Tryz.prog w = .ok (195, (.agg #[])) w := fun _ => by kernel_rfl
 go_enter Tryz.func62,Tryz.ntmps62
 go_wp2_with fail
 refine (dotOk_any _ _ _).mono ?_;rw [h1];rintro e w1 ⟨rfl,hb1⟩;obtain ⟨hc1,hf1⟩:=bcell hb1;have hs1:=hb1.size;simp at hs1
 have hs1a:w.heap.size<w1.heap.size:=by omega
 go_wp2_with fail
 refine (stampOk_impl _ _ _ _).mono ?_;rw [h2];rintro e w2 ⟨rfl,hb2⟩;have hB2:=hb1.trans (hb2.mono hb1.size);clear hc1 hf1;obtain ⟨hc2,hf2⟩:=bcell hB2;have hs2:=hB2.size;simp at hs2
 have hs2a:w.heap.size<w2.heap.size:=by omega
 go_wp2_with fail
 refine (inRange_any _ _ _ _).mono ?_;rw [h4];rintro e w3 ⟨rfl,rfl⟩;go_wp2_with fail
 refine (hch.out _).mono ?_;rintro e w4 ⟨rfl,hb4⟩;have hB4:=hB2.trans (hb4.mono hB2.size);clear hc2 hf2;go_wp2_with fail
 refine (hr.out _).mono ?_;rintro e w5 ⟨rfl,hb5⟩;go_wp2_with fail
 go_ret
 refine ⟨rfl,?_⟩;have hs4:=hB4.size;simp at hs4
 repeat (first | (with_reducible exact Below.refl _ _) | ((with_reducible refine Below.setCell ?_ ?_ _);rotate_left;(focus (first | omega | (simp;done) | (simp;omega)))) | ((with_reducible refine Below.alloc ?_ ?_ _);rotate_left;(focus (first | omega | (simp;done) | (simp;omega)))) | (with_reducible refine Below.drew ?_) | ((with_reducible refine Below.trans ?_ (Below.mono hb5 ?_));rotate_left;(focus (first | omega | (simp;done) | (simp;omega)))) | ((with_reducible refine Below.trans ?_ (Below.mono hB4 ?_));rotate_left;(focus (first | omega | (simp;done) | (simp;omega)))))
set_option maxHeartbeats 32000000 in
set_option maxRecDepth 100000 in
theorem updateOk_life (dr dn sw sc sr k tr id pa st en lv:Int)(s:ByteArray)(b:Bool)(w:World)(h1:M1.dotOk dr dn=true)(h2:M1.stOk sw sc sr=true)(h3:sr=dr)(h4:M1.inB tr 1 1000=true)
  (hr:Hid (∀ w,Calls Tryz.prog 197 #[(.agg #[.int .i64 lv])] w fun e w'=>e=.returned (.bool b)∧Below w.heap.size w w'))
  (hch:Hid (∀ w,Calls Tryz.prog 98 #[.agg #[.int .i64 dr,.int .i64 dn,.int .i64 sw,.int .i64 sc,.int .i64 sr,.int .i64 k,.int .i64 tr,.int .i64 id,.int .i64 pa,.string s,.int .i64 st,.int .i64 en,.int .i64 lv]] w fun e w'=>e=.returned (.tuple #[.iface 183 (.agg #[.int .i64 lv]),.bool true])∧Below w.heap.size w w')) :
  Calls Tryz.prog 62 #[.agg #[.int .i64 dr,.int .i64 dn,.int .i64 sw,.int .i64 sc,.int .i64 sr,.int .i64 k,.int .i64 tr,.int .i64 id,.int .i64 pa,.string s,.int .i64 st,.int .i64 en,.int .i64 lv]] w fun e w'=>e=.returned (.bool b)∧Below w.heap.size w w':=by
 subst h3
 have hm : ∀ w, (method 199 183 (.agg #[.int .i64 lv]) "loop.example/g00368/impl.right").run Tryz.prog w = .ok (197, (.agg #[.int .i64 lv])) w := fun _ => by kernel_rfl
 go_enter Tryz.func62,Tryz.ntmps62
 go_wp2_with fail
 refine (dotOk_any _ _ _).mono ?_;rw [h1];rintro e w1 ⟨rfl,hb1⟩;obtain ⟨hc1,hf1⟩:=bcell hb1;have hs1:=hb1.size;simp at hs1
 have hs1a:w.heap.size<w1.heap.size:=by omega
 go_wp2_with fail
 refine (stampOk_impl _ _ _ _).mono ?_;rw [h2];rintro e w2 ⟨rfl,hb2⟩;have hB2:=hb1.trans (hb2.mono hb1.size);clear hc1 hf1;obtain ⟨hc2,hf2⟩:=bcell hB2;have hs2:=hB2.size;simp at hs2
 have hs2a:w.heap.size<w2.heap.size:=by omega
 go_wp2_with fail
 refine (inRange_any _ _ _ _).mono ?_;rw [h4];rintro e w3 ⟨rfl,rfl⟩;go_wp2_with fail
 refine (hch.out _).mono ?_;rintro e w4 ⟨rfl,hb4⟩;have hB4:=hB2.trans (hb4.mono hB2.size);clear hc2 hf2;go_wp2_with fail
 refine (hr.out _).mono ?_;rintro e w5 ⟨rfl,hb5⟩;go_wp2_with fail
 go_ret
 refine ⟨rfl,?_⟩;have hs4:=hB4.size;simp at hs4
 repeat (first | (with_reducible exact Below.refl _ _) | ((with_reducible refine Below.setCell ?_ ?_ _);rotate_left;(focus (first | omega | (simp;done) | (simp;omega)))) | ((with_reducible refine Below.alloc ?_ ?_ _);rotate_left;(focus (first | omega | (simp;done) | (simp;omega)))) | (with_reducible refine Below.drew ?_) | ((with_reducible refine Below.trans ?_ (Below.mono hb5 ?_));rotate_left;(focus (first | omega | (simp;done) | (simp;omega)))) | ((with_reducible refine Below.trans ?_ (Below.mono hB4 ?_));rotate_left;(focus (first | omega | (simp;done) | (simp;omega)))))
set_option maxHeartbeats 32000000 in
set_option maxRecDepth 100000 in
theorem updateOk_no1 (dr dn sw sc sr k tr id pa st en lv:Int)(s:ByteArray)(w:World)(h1:M1.dotOk dr dn=false) :
  Calls Tryz.prog 62 #[.agg #[.int .i64 dr,.int .i64 dn,.int .i64 sw,.int .i64 sc,.int .i64 sr,.int .i64 k,.int .i64 tr,.int .i64 id,.int .i64 pa,.string s,.int .i64 st,.int .i64 en,.int .i64 lv]] w fun e w'=>e=.returned (.bool false)∧Below w.heap.size w w':=by
 go_enter Tryz.func62,Tryz.ntmps62
 go_wp2_with fail
 refine (dotOk_any _ _ _).mono ?_;rw [h1];rintro e w1 ⟨rfl,hb1⟩;obtain ⟨hc1,hf1⟩:=bcell hb1;have hs1:=hb1.size;simp at hs1
 have hs1a:w.heap.size<w1.heap.size:=by omega
 go_wp2_with fail
 go_ret
 refine ⟨rfl,?_⟩;repeat (first | (with_reducible exact Below.refl _ _) | ((with_reducible refine Below.setCell ?_ ?_ _);rotate_left;(focus (first | omega | (simp;done) | (simp;omega)))) | ((with_reducible refine Below.alloc ?_ ?_ _);rotate_left;(focus (first | omega | (simp;done) | (simp;omega)))) | (with_reducible refine Below.drew ?_) | ((with_reducible refine Below.trans ?_ (Below.mono hb1 ?_));rotate_left;(focus (first | omega | (simp;done) | (simp;omega)))))
set_option maxHeartbeats 32000000 in
set_option maxRecDepth 100000 in
theorem updateOk_no2 (dr dn sw sc sr k tr id pa st en lv:Int)(s:ByteArray)(w:World)(h1:M1.dotOk dr dn=true)(h2:M1.stOk sw sc sr=false) :
  Calls Tryz.prog 62 #[.agg #[.int .i64 dr,.int .i64 dn,.int .i64 sw,.int .i64 sc,.int .i64 sr,.int .i64 k,.int .i64 tr,.int .i64 id,.int .i64 pa,.string s,.int .i64 st,.int .i64 en,.int .i64 lv]] w fun e w'=>e=.returned (.bool false)∧Below w.heap.size w w':=by
 go_enter Tryz.func62,Tryz.ntmps62
 go_wp2_with fail
 refine (dotOk_any _ _ _).mono ?_;rw [h1];rintro e w1 ⟨rfl,hb1⟩;obtain ⟨hc1,hf1⟩:=bcell hb1;have hs1:=hb1.size;simp at hs1
 have hs1a:w.heap.size<w1.heap.size:=by omega
 go_wp2_with fail
 refine (stampOk_impl _ _ _ _).mono ?_;rw [h2];rintro e w2 ⟨rfl,hb2⟩;have hB2:=hb1.trans (hb2.mono hb1.size);clear hc1 hf1;obtain ⟨hc2,hf2⟩:=bcell hB2;have hs2:=hB2.size;simp at hs2
 have hs2a:w.heap.size<w2.heap.size:=by omega
 go_wp2_with fail
 go_ret
 refine ⟨rfl,?_⟩;repeat (first | (with_reducible exact Below.refl _ _) | ((with_reducible refine Below.setCell ?_ ?_ _);rotate_left;(focus (first | omega | (simp;done) | (simp;omega)))) | ((with_reducible refine Below.alloc ?_ ?_ _);rotate_left;(focus (first | omega | (simp;done) | (simp;omega)))) | (with_reducible refine Below.drew ?_) | ((with_reducible refine Below.trans ?_ (Below.mono hB2 ?_));rotate_left;(focus (first | omega | (simp;done) | (simp;omega)))))
set_option maxHeartbeats 32000000 in
set_option maxRecDepth 100000 in
theorem updateOk_no3 (dr dn sw sc sr k tr id pa st en lv:Int)(s:ByteArray)(w:World)(h1:M1.dotOk dr dn=true)(h2:M1.stOk sw sc sr=true)(h3:(sr != dr)=true) :
  Calls Tryz.prog 62 #[.agg #[.int .i64 dr,.int .i64 dn,.int .i64 sw,.int .i64 sc,.int .i64 sr,.int .i64 k,.int .i64 tr,.int .i64 id,.int .i64 pa,.string s,.int .i64 st,.int .i64 en,.int .i64 lv]] w fun e w'=>e=.returned (.bool false)∧Below w.heap.size w w':=by
 go_enter Tryz.func62,Tryz.ntmps62
 go_wp2_with fail
 refine (dotOk_any _ _ _).mono ?_;rw [h1];rintro e w1 ⟨rfl,hb1⟩;obtain ⟨hc1,hf1⟩:=bcell hb1;have hs1:=hb1.size;simp at hs1
 have hs1a:w.heap.size<w1.heap.size:=by omega
 go_wp2_with fail
 refine (stampOk_impl _ _ _ _).mono ?_;rw [h2];rintro e w2 ⟨rfl,hb2⟩;have hB2:=hb1.trans (hb2.mono hb1.size);clear hc1 hf1;obtain ⟨hc2,hf2⟩:=bcell hB2;have hs2:=hB2.size;simp at hs2
 have hs2a:w.heap.size<w2.heap.size:=by omega
 go_wp2_with fail
 go_ret
 refine ⟨rfl,?_⟩;repeat (first | (with_reducible exact Below.refl _ _) | ((with_reducible refine Below.setCell ?_ ?_ _);rotate_left;(focus (first | omega | (simp;done) | (simp;omega)))) | ((with_reducible refine Below.alloc ?_ ?_ _);rotate_left;(focus (first | omega | (simp;done) | (simp;omega)))) | (with_reducible refine Below.drew ?_) | ((with_reducible refine Below.trans ?_ (Below.mono hB2 ?_));rotate_left;(focus (first | omega | (simp;done) | (simp;omega)))))
set_option maxHeartbeats 32000000 in
set_option maxRecDepth 100000 in
theorem updateOk_no4 (dr dn sw sc sr k tr id pa st en lv:Int)(s:ByteArray)(w:World)(h1:M1.dotOk dr dn=true)(h2:M1.stOk sw sc sr=true)(h3:sr=dr)(h4:M1.inB tr 1 1000=false) :
  Calls Tryz.prog 62 #[.agg #[.int .i64 dr,.int .i64 dn,.int .i64 sw,.int .i64 sc,.int .i64 sr,.int .i64 k,.int .i64 tr,.int .i64 id,.int .i64 pa,.string s,.int .i64 st,.int .i64 en,.int .i64 lv]] w fun e w'=>e=.returned (.bool false)∧Below w.heap.size w w':=by
 subst h3;go_enter Tryz.func62,Tryz.ntmps62
 go_wp2_with fail
 refine (dotOk_any _ _ _).mono ?_;rw [h1];rintro e w1 ⟨rfl,hb1⟩;obtain ⟨hc1,hf1⟩:=bcell hb1;have hs1:=hb1.size;simp at hs1
 have hs1a:w.heap.size<w1.heap.size:=by omega
 go_wp2_with fail
 refine (stampOk_impl _ _ _ _).mono ?_;rw [h2];rintro e w2 ⟨rfl,hb2⟩;have hB2:=hb1.trans (hb2.mono hb1.size);clear hc1 hf1;obtain ⟨hc2,hf2⟩:=bcell hB2;have hs2:=hB2.size;simp at hs2
 have hs2a:w.heap.size<w2.heap.size:=by omega
 go_wp2_with fail
 refine (inRange_any _ _ _ _).mono ?_;rw [h4];rintro e w3 ⟨rfl,rfl⟩;go_wp2_with fail
 go_ret
 refine ⟨rfl,?_⟩;repeat (first | (with_reducible exact Below.refl _ _) | ((with_reducible refine Below.setCell ?_ ?_ _);rotate_left;(focus (first | omega | (simp;done) | (simp;omega)))) | ((with_reducible refine Below.alloc ?_ ?_ _);rotate_left;(focus (first | omega | (simp;done) | (simp;omega)))) | (with_reducible refine Below.drew ?_) | ((with_reducible refine Below.trans ?_ (Below.mono hB2 ?_));rotate_left;(focus (first | omega | (simp;done) | (simp;omega)))))
theorem updateOk_impl (dr dn sw sc sr k tr id pa st en lv:Int)(s:ByteArray)(w:World)(hs:s.size≤maxLen) :
  Calls Tryz.prog 62 #[.agg #[.int .i64 dr,.int .i64 dn,.int .i64 sw,.int .i64 sc,.int .i64 sr,.int .i64 k,.int .i64 tr,.int .i64 id,.int .i64 pa,.string s,.int .i64 st,.int .i64 en,.int .i64 lv]] w fun e w'=>e=.returned (.bool (M1.updB dr dn sw sc sr k tr id pa s st en lv))∧Below w.heap.size w w':=by
 by_cases h1:M1.dotOk dr dn=true
 ·by_cases h2:M1.stOk sw sc sr=true
  ·by_cases h3:sr=dr
   ·by_cases h4:M1.inB tr 1 1000=true
    ·rw [(by unfold M1.updB M1.headB;rw [h1,h2,h4,decide_eq_true h3];rfl:M1.updB dr dn sw sc sr k tr id pa s st en lv=M1.kindB k id pa s st en lv)]
     by_cases k1:k=1
     ·subst k1
      by_cases hl:(lv==0)=true
      ·rw [(by simp [M1.kindB,hl]:M1.kindB 1 id pa s st en lv=M1.spanB id pa s st en)]
       exact updateOk_span _ _ _ _ _ _ _ _ _ _ _ _ _ _ _ h1 h2 h3 h4 (fun w=>spanRight _ _ _ _ _ w hs) (fun w=>by rw [←hl];exact changeOf_1 _ _ _ _ _ _ _ _ _ _ _ _ w)
      ·replace hl:(lv==0)=false:=by simpa using hl
       rw [(by simp [M1.kindB,hl]:M1.kindB 1 id pa s st en lv=false)];exact updateOk_off _ _ _ _ _ _ _ _ _ _ _ _ _ _ _ h1 h2 h3 h4 (fun w=>by rw [←hl];exact changeOf_1 _ _ _ _ _ _ _ _ _ _ _ _ w)
     ·by_cases k2:k=2
      ·subst k2
       by_cases hl:(M1.zeroB id pa s st en && (lv==0))=true
       ·rw [(by unfold M1.kindB;rw [if_neg (by decide),if_pos rfl,hl]:M1.kindB 2 id pa s st en lv=true)]
        exact updateOk_keep _ _ _ _ _ _ _ _ _ _ _ _ _ _ _ h1 h2 h3 h4 (fun w=>keepRight w) (fun w=>by rw [←hl];exact changeOf_2 _ _ _ _ _ _ _ _ _ _ _ _ w)
       ·replace hl:(M1.zeroB id pa s st en && (lv==0))=false:=by simpa using hl
        rw [(by unfold M1.kindB;rw [if_neg (by decide),if_pos rfl,hl]:M1.kindB 2 id pa s st en lv=false)];exact updateOk_off _ _ _ _ _ _ _ _ _ _ _ _ _ _ _ h1 h2 h3 h4 (fun w=>by rw [←hl];exact changeOf_2 _ _ _ _ _ _ _ _ _ _ _ _ w)
      ·by_cases k3:k=3
       ·subst k3
        by_cases hl:M1.zeroB id pa s st en=true
        ·rw [(by unfold M1.kindB;rw [if_neg (by decide),if_neg (by decide),if_pos rfl,hl,Bool.true_and]:M1.kindB 3 id pa s st en lv=M1.inB lv 1 1000000)]
         exact updateOk_life _ _ _ _ _ _ _ _ _ _ _ _ _ _ _ h1 h2 h3 h4 (fun w=>lifeRight _ w) (fun w=>by rw [←hl];exact changeOf_3 _ _ _ _ _ _ _ _ _ _ _ _ w)
        ·replace hl:M1.zeroB id pa s st en=false:=by simpa using hl
         rw [(by unfold M1.kindB;rw [if_neg (by decide),if_neg (by decide),if_pos rfl,hl,Bool.false_and]:M1.kindB 3 id pa s st en lv=false)];exact updateOk_off _ _ _ _ _ _ _ _ _ _ _ _ _ _ _ h1 h2 h3 h4 (fun w=>by rw [←hl];exact changeOf_3 _ _ _ _ _ _ _ _ _ _ _ _ w)
       ·rw [(by unfold M1.kindB;rw [if_neg k1,if_neg k2,if_neg k3]:M1.kindB k id pa s st en lv=false)]
        exact updateOk_off _ _ _ _ _ _ _ _ _ _ _ _ _ _ _ h1 h2 h3 h4 (fun w=>changeOf_0 _ _ _ _ _ _ _ _ _ _ _ _ _ w (by simp [k1]) (by simp [k2]) (by simp [k3]))
    ·rw [(by unfold M1.updB M1.headB;rw [Bool.eq_false_iff.2 h4];simp:M1.updB dr dn sw sc sr k tr id pa s st en lv=false)]
     exact updateOk_no4 _ _ _ _ _ _ _ _ _ _ _ _ _ _ h1 h2 h3 (by simpa using h4)
   ·rw [(by unfold M1.updB M1.headB;rw [decide_eq_false h3];simp:M1.updB dr dn sw sc sr k tr id pa s st en lv=false)]
    exact updateOk_no3 _ _ _ _ _ _ _ _ _ _ _ _ _ _ h1 h2 (by simp [h3])
  ·rw [(by unfold M1.updB M1.headB;rw [Bool.eq_false_iff.2 h2];simp:M1.updB dr dn sw sc sr k tr id pa s st en lv=false)]
   exact updateOk_no2 _ _ _ _ _ _ _ _ _ _ _ _ _ _ h1 (by simpa using h2)
 ·rw [(by unfold M1.updB M1.headB;rw [Bool.eq_false_iff.2 h1];simp:M1.updB dr dn sw sc sr k tr id pa s st en lv=false)]
  exact updateOk_no1 _ _ _ _ _ _ _ _ _ _ _ _ _ _ (by simpa using h1)
set_option maxHeartbeats 16000000 in
theorem follows_any (p u:M1.Upd)(w:World)(hw:IntKind.i64.wrap (p.dn+1)=p.dn+1) :
  Calls Tryz.prog 63 #[.agg #[.int .i64 p.dr,.int .i64 p.dn,.int .i64 p.sw,.int .i64 p.sc,.int .i64 p.sr,.int .i64 p.k,.int .i64 p.tr,.int .i64 p.id,.int .i64 p.pa,.string p.s,.int .i64 p.st,.int .i64 p.en,.int .i64 p.lv],.agg #[.int .i64 u.dr,.int .i64 u.dn,.int .i64 u.sw,.int .i64 u.sc,.int .i64 u.sr,.int .i64 u.k,.int .i64 u.tr,.int .i64 u.id,.int .i64 u.pa,.string u.s,.int .i64 u.st,.int .i64 u.en,.int .i64 u.lv]] w fun e w'=>e=.returned (.bool (M1.fol p u))∧Below w.heap.size w w':=by
 by_cases hr:u.dr=p.dr
 ·have hrb:(u.dr != p.dr)=false:=by simp [hr]
  by_cases hd:u.dn=p.dn+1
  ·have hdb:(u.dn==p.dn+1)=true:=by simp [hd]
   have HQ:Hid (M1.fol p u=M1.aheadB p.sw p.sc p.sr u.sw u.sc u.sr):=(by unfold M1.fol;rw [if_pos hr,decide_eq_true hd,Bool.true_and]:M1.fol p u=M1.aheadB p.sw p.sc p.sr u.sw u.sc u.sr)
   clear hd hr;rw [HQ.out];go_enter Tryz.func63,Tryz.ntmps63
   go_wp2_with fail
   refine (ahead_impl _ _ _ _ _ _ _).mono ?_;rintro e w1 ⟨rfl,hb1⟩;go_wp2_with fail
   go_ret
   refine ⟨rfl,?_⟩;repeat (first | (with_reducible exact Below.refl _ _) | ((with_reducible refine Below.setCell ?_ ?_ _);rotate_left;(focus (first | omega | (simp;done) | (simp;omega)))) | ((with_reducible refine Below.alloc ?_ ?_ _);rotate_left;(focus (first | omega | (simp;done) | (simp;omega)))) | (with_reducible refine Below.drew ?_) | ((with_reducible refine Below.trans ?_ (Below.mono hb1 ?_));rotate_left;(focus (first | omega | (simp;done) | (simp;omega)))))
  ·have hdb:(u.dn==p.dn+1)=false:=by simp [hd]
   have HQ:Hid (M1.fol p u=false):=(by unfold M1.fol;rw [if_pos hr,decide_eq_false hd,Bool.false_and]:M1.fol p u=false)
   clear hd hr;go_enter Tryz.func63,Tryz.ntmps63
   go_wp2_with fail
   go_ret
   refine ⟨by rw [HQ.out];rfl,?_⟩;exact bZ
 ·have hrb:(u.dr != p.dr)=true:=by simp [hr]
  by_cases hl:p.dr<u.dr
  ·have HQ:Hid (M1.fol p u=(u.dn==1)):=(by unfold M1.fol;rw [if_neg hr,decide_eq_true hl,Bool.true_and];rfl:M1.fol p u=(u.dn==1))
   clear hr;go_enter Tryz.func63,Tryz.ntmps63
   go_wp2_with fail
   all_goals (go_ret)
   all_goals (refine ⟨by rw [HQ.out];rfl,?_⟩)
   all_goals (repeat (first | (with_reducible exact Below.refl _ _) | ((with_reducible refine Below.setCell ?_ ?_ _);rotate_left;(focus (first | omega | (simp;done) | (simp;omega)))) | ((with_reducible refine Below.alloc ?_ ?_ _);rotate_left;(focus (first | omega | (simp;done) | (simp;omega)))) | (with_reducible refine Below.drew ?_)))
  ·have HQ:Hid (M1.fol p u=false):=(by unfold M1.fol;rw [if_neg hr,decide_eq_false hl,Bool.false_and]:M1.fol p u=false)
   clear hr;go_enter Tryz.func63,Tryz.ntmps63
   go_wp2_with fail
   go_ret
   refine ⟨by rw [HQ.out];rfl,?_⟩;exact bZ
set_option maxHeartbeats 64000000 in
set_option maxRecDepth 100000 in
theorem setOk_impl (av:Option Addr)(n cn:Nat)(us:List M1.Upd)(w:World)(h1:IsUpds w av n cn us) :
  Calls Tryz.prog 32 #[.slice av n cn] w fun e w'=>e=.returned (.bool (M1.setOk us))∧Below w.heap.size w w':=by
 have hl1:Hid (us.length=n):=h1.hlen;have hm1:=h1.hcap;have hm2:=h1.hmost;unfold maxLen at hm2;by_cases h60:(60:Int)<(n:Int)
 ·have HQ:Hid (M1.setOk us=false):=(by have:=hl1.out;unfold M1.setOk;rw [decide_eq_false (by omega)];rfl:M1.setOk us=false)
  go_enter Tryz.func32,Tryz.ntmps32
  go_wp2_with fail
  go_ret
  exact ⟨by rw [HQ.out];rfl,Below.refl _ _⟩
 go_enter Tryz.func32,Tryz.ntmps32
 go_wp2_with fail
 go_loopw [10] (fun i wr=>∃ k:Nat,k≤n∧i=.int .i64 k∧Below w.heap.size w wr∧Hid (∀ j,j<k→M1.okAt us j=true)) (fun i _=>n-(intOf i).toNat)
 case atStart=>exact ⟨0,Nat.zero_le _,rfl,Below.refl _ _,fun j hj=>absurd hj (Nat.not_lt_zero _)⟩
 case round =>
  obtain ⟨k,hk,rfl,hB,hall⟩:=hrel;by_cases hlt:k<n
  ·have g1:=h1.below hB
   rcases g1.hlies with h0 | ⟨b,off,rfl,hb,hc⟩
   ·omega
   obtain ⟨c0,c1,c2,c3,c4,c5,c6,c7,c8,c9,c10,c11,c12⟩:=hc k hlt;have hs:=h1.htxt k hlt;have i0:(0:Int)≤(k:Int):=by omega
   have i1:(k:Int)<(n:Int):=by omega
   have hne:¬b=wr.heap.size:=by omega
   have hb':b<wr.heap.size+1:=by omega
   by_cases hu:M1.okU (M1.up us k)=true
   ·have hok:M1.updB (M1.up us k).dr (M1.up us k).dn (M1.up us k).sw (M1.up us k).sc (M1.up us k).sr (M1.up us k).k (M1.up us k).tr (M1.up us k).id (M1.up us k).pa (M1.up us k).s (M1.up us k).st (M1.up us k).en (M1.up us k).lv=true:=hu
    by_cases hk0:k=0
    ·have hkb:decide ((0:Int)<(k:Int))=false:=by simp;omega
     have hkb2:decide (0<k)=false:=by simp;omega
     have hke:((k:Int)==0)=true:=by simp;omega
     have hke2:(k==0)=true:=by simp;omega
     clear hc g1;by_cases hd:(M1.up us k).dn=1
     ·have HQ:Hid (∀ j,j<k+1→M1.okAt us j=true):=fun j hj=>by
       by_cases e:j=k
       ·rw [e];exact (by unfold M1.okAt;rw [hu,if_pos hk0,decide_eq_true hd];rfl)
       ·exact hall.out j (by omega)
      clear hall;have hdb:((M1.up us k).dn != 1)=false:=by simp [hd]
      clear hd hu hk0;go_wp2_with fail
      refine (updateOk_impl _ _ _ _ _ _ _ _ _ _ _ _ _ _ hs).mono ?_;rw [hok];rintro e w1 ⟨rfl,hb1⟩;have hK1:Kp (wr.alloc (.cells #[.int .i64 (M1.up us k).dr,.int .i64 (M1.up us k).dn,.int .i64 (M1.up us k).sw,.int .i64 (M1.up us k).sc,.int .i64 (M1.up us k).sr,.int .i64 (M1.up us k).k,.int .i64 (M1.up us k).tr,.int .i64 (M1.up us k).id,.int .i64 (M1.up us k).pa,.string (M1.up us k).s,.int .i64 (M1.up us k).st,.int .i64 (M1.up us k).en,.int .i64 (M1.up us k).lv] 72)) w1:=kp_of hb1;clear hb1;go_wp2_with fail
      refine wp_region_held_drew (S:=fun w'=>Kp (wr.alloc (.cells #[.int .i64 (M1.up us k).dr,.int .i64 (M1.up us k).dn,.int .i64 (M1.up us k).sw,.int .i64 (M1.up us k).sc,.int .i64 (M1.up us k).sr,.int .i64 (M1.up us k).k,.int .i64 (M1.up us k).tr,.int .i64 (M1.up us k).id,.int .i64 (M1.up us k).pa,.string (M1.up us k).s,.int .i64 (M1.up us k).st,.int .i64 (M1.up us k).en,.int .i64 (M1.up us k).lv] 72)) w') (by kernel_rfl) ?_ (fun zH=>?_)
      ·exact kp_drew hK1
      refine uZ 0 ?_;simp only[pZ,zZ];refine uZ 1 ?_;simp only[pZ,zZ];refine uZ 2 ?_;simp only[pZ,zZ];refine uZ 3 ?_;simp only[pZ,zZ];refine uZ 4 ?_;simp only[pZ,zZ];refine uZ 5 ?_;simp only[pZ,zZ];refine uZ 6 ?_;simp only[pZ,zZ];refine uZ 7 ?_;simp only[pZ,zZ];refine uZ 8 ?_;simp only[pZ,zZ];refine uZ 9 ?_;simp only[pZ,zZ];refine uZ 10 ?_;simp only[pZ,zZ];refine uZ 11 ?_;simp only[pZ,zZ];refine vZ 12 ?_;simp only[pZ,zZ];refine vZ 13 ?_;simp only[pZ,zZ];refine vZ 14 ?_;simp only[pZ,zZ];refine vZ 15 ?_;simp only[pZ,zZ];refine vZ 16 ?_;simp only[pZ,zZ];refine vZ 17 ?_;simp only[pZ,zZ];refine vZ 18 ?_;simp only[pZ,zZ];refine vZ 19 ?_;simp only[pZ,zZ];refine uZ 20 ?_;simp only[pZ,zZ];refine uZ 21 ?_;simp only[pZ,zZ];refine dZ ?_;clear hK1;have hK1:=zH;clear zH;have hK2:=hK1.2;go_wp2_with fail
      clear hK2;exact ⟨⟨k+1,by omega,by go_num,hB.trans (((Below.refl _ _).alloc (Nat.le_refl _) _ |>.trans (hK1.1.mono (by simp))).mono hB.size),HQ⟩,by simp [intOf];omega⟩
     ·have HQ:Hid (M1.setOk us=false):=M1.setOk_no (j:=k) (by have:=hl1.out;omega) (by unfold M1.okAt;rw [hu,if_pos hk0,decide_eq_false hd];rfl)
      clear hall;have hdb:((M1.up us k).dn != 1)=true:=by simp [hd]
      clear hd hu hk0;go_wp2_with fail
      refine (updateOk_impl _ _ _ _ _ _ _ _ _ _ _ _ _ _ hs).mono ?_;rw [hok];rintro e w1 ⟨rfl,hb1⟩;have hK1:Kp (wr.alloc (.cells #[.int .i64 (M1.up us k).dr,.int .i64 (M1.up us k).dn,.int .i64 (M1.up us k).sw,.int .i64 (M1.up us k).sc,.int .i64 (M1.up us k).sr,.int .i64 (M1.up us k).k,.int .i64 (M1.up us k).tr,.int .i64 (M1.up us k).id,.int .i64 (M1.up us k).pa,.string (M1.up us k).s,.int .i64 (M1.up us k).st,.int .i64 (M1.up us k).en,.int .i64 (M1.up us k).lv] 72)) w1:=kp_of hb1;clear hb1;go_wp2_with fail
      refine wp_region_held_drew (S:=fun w'=>Kp (wr.alloc (.cells #[.int .i64 (M1.up us k).dr,.int .i64 (M1.up us k).dn,.int .i64 (M1.up us k).sw,.int .i64 (M1.up us k).sc,.int .i64 (M1.up us k).sr,.int .i64 (M1.up us k).k,.int .i64 (M1.up us k).tr,.int .i64 (M1.up us k).id,.int .i64 (M1.up us k).pa,.string (M1.up us k).s,.int .i64 (M1.up us k).st,.int .i64 (M1.up us k).en,.int .i64 (M1.up us k).lv] 72)) w') (by kernel_rfl) ?_ (fun zH=>?_)
      ·exact kp_drew hK1
      refine uZ 0 ?_;simp only[pZ,zZ];refine uZ 1 ?_;simp only[pZ,zZ];refine uZ 2 ?_;simp only[pZ,zZ];refine uZ 3 ?_;simp only[pZ,zZ];refine uZ 4 ?_;simp only[pZ,zZ];refine uZ 5 ?_;simp only[pZ,zZ];refine uZ 6 ?_;simp only[pZ,zZ];refine uZ 7 ?_;simp only[pZ,zZ];refine uZ 8 ?_;simp only[pZ,zZ];refine vZ 9 ?_;simp only[pZ,zZ];refine vZ 10 ?_;simp only[pZ,zZ];refine vZ 11 ?_;simp only[pZ,zZ];refine vZ 12 ?_;simp only[pZ,zZ];refine vZ 13 ?_;simp only[pZ,zZ];refine vZ 14 ?_;simp only[pZ,zZ];refine vZ 15 ?_;simp only[pZ,zZ];refine vZ 16 ?_;simp only[pZ,zZ];refine vZ 17 ?_;simp only[pZ,zZ];refine vZ 18 ?_;simp only[pZ,zZ];refine vZ 19 ?_;simp only[pZ,zZ];refine vZ 20 ?_;simp only[pZ,zZ];refine uZ 21 ?_;simp only[pZ,zZ];refine dZ ?_;clear hK1;have hK1:=zH;clear zH;have hK2:=hK1.2;go_wp2_with fail
      clear hK2;go_ret
      exact ⟨by rw [HQ.out];rfl,hB.trans (((Below.refl _ _).alloc (Nat.le_refl _) _ |>.trans (hK1.1.mono (by simp))).mono hB.size)⟩
    ·obtain ⟨p0,p1,p2,p3,p4,p5,p6,p7,p8,p9,p10,p11,p12⟩:=hc (k-1) (by omega)
     have i6:(1:Int)≤(k:Int):=by omega
     have i2:(0:Int)<(k:Int):=by omega
     have hkb:decide ((0:Int)<(k:Int))=true:=by simp;omega
     have hkb2:decide (0<k)=true:=by simp;omega
     have hke:((k:Int)==0)=false:=by simp;omega
     have hke2:(k==0)=false:=by simp;omega
     have i3:(0:Int)≤(k:Int)-1:=by omega
     have i5:IntKind.i64.wrap ((k:Int)-1)=(k:Int)-1:=IntWalk.i64_in _ (by omega);have i4:(k:Int)-1<(n:Int):=by omega
     obtain ⟨_,_,q3,q4⟩:=M1.okU_dot (M1.okAt_ok (hall.out (k-1) (by omega)));have i7:IntKind.i64.wrap ((M1.up us (k-1)).dn+1)=(M1.up us (k-1)).dn+1:=IntWalk.i64_in _ (by omega);clear hc g1;by_cases ha:M1.fol (M1.up us (k-1)) (M1.up us k)=true
     ·have HQ:Hid (∀ j,j<k+1→M1.okAt us j=true):=fun j hj=>by
       by_cases e:j=k
       ·rw [e];exact (by unfold M1.okAt;rw [hu,if_neg hk0,ha];rfl)
       ·exact hall.out j (by omega)
      clear hall;clear hu hk0;go_wp2_with fail
      refine (updateOk_impl _ _ _ _ _ _ _ _ _ _ _ _ _ _ hs).mono ?_;rw [hok];rintro e w1 ⟨rfl,hb1⟩;have hK1:Kp (wr.alloc (.cells #[.int .i64 (M1.up us k).dr,.int .i64 (M1.up us k).dn,.int .i64 (M1.up us k).sw,.int .i64 (M1.up us k).sc,.int .i64 (M1.up us k).sr,.int .i64 (M1.up us k).k,.int .i64 (M1.up us k).tr,.int .i64 (M1.up us k).id,.int .i64 (M1.up us k).pa,.string (M1.up us k).s,.int .i64 (M1.up us k).st,.int .i64 (M1.up us k).en,.int .i64 (M1.up us k).lv] 72)) w1:=kp_of hb1;clear hb1;go_wp2_with fail
      refine wp_region_held_drew (S:=fun w'=>Kp (wr.alloc (.cells #[.int .i64 (M1.up us k).dr,.int .i64 (M1.up us k).dn,.int .i64 (M1.up us k).sw,.int .i64 (M1.up us k).sc,.int .i64 (M1.up us k).sr,.int .i64 (M1.up us k).k,.int .i64 (M1.up us k).tr,.int .i64 (M1.up us k).id,.int .i64 (M1.up us k).pa,.string (M1.up us k).s,.int .i64 (M1.up us k).st,.int .i64 (M1.up us k).en,.int .i64 (M1.up us k).lv] 72)) w') (by kernel_rfl) ?_ (fun zH=>?_)
      ·exact kp_drew hK1
      refine uZ 0 ?_;simp only[pZ,zZ];refine uZ 1 ?_;simp only[pZ,zZ];refine uZ 2 ?_;simp only[pZ,zZ];refine vZ 3 ?_;simp only[pZ,zZ];refine vZ 4 ?_;simp only[pZ,zZ];refine vZ 5 ?_;simp only[pZ,zZ];refine vZ 6 ?_;simp only[pZ,zZ];refine uZ 7 ?_;simp only[pZ,zZ];refine uZ 8 ?_;simp only[pZ,zZ];refine uZ 9 ?_;simp only[pZ,zZ];refine uZ 10 ?_;simp only[pZ,zZ];refine uZ 11 ?_;simp only[pZ,zZ];refine uZ 12 ?_;simp only[pZ,zZ];refine uZ 13 ?_;simp only[pZ,zZ];refine uZ 14 ?_;simp only[pZ,zZ];refine uZ 15 ?_;simp only[pZ,zZ];refine uZ 16 ?_;simp only[pZ,zZ];refine uZ 17 ?_;simp only[pZ,zZ];refine sZ 18 fun K hK=>?_;go_simp
      (refine (follows_any (M1.up us (k-1)) (M1.up us k) _ i7).mono ?_;rw [ha];rintro e w' ⟨rfl,hb⟩;go_wp2_with fail)
      refine hK.out _ _ ?_ (fun zH2=>?_)
      ·exact kp_step zH hb
      clear hK K zH;have zH:=zH2;clear zH2;(try simp only[pZ,zZ]);refine uZ 19 ?_;simp only[pZ,zZ];refine uZ 20 ?_;simp only[pZ,zZ];refine uZ 21 ?_;simp only[pZ,zZ];refine dZ ?_;clear hK1;have hK1:=zH;clear zH;have hK2:=hK1.2;go_wp2_with fail
      clear hK2;exact ⟨⟨k+1,by omega,by go_num,hB.trans (((Below.refl _ _).alloc (Nat.le_refl _) _ |>.trans (hK1.1.mono (by simp))).mono hB.size),HQ⟩,by simp [intOf];omega⟩
     ·replace ha:M1.fol (M1.up us (k-1)) (M1.up us k)=false:=by simpa using ha
      have HQ:Hid (M1.setOk us=false):=M1.setOk_no (j:=k) (by have:=hl1.out;omega) (by unfold M1.okAt;rw [hu,if_neg hk0,ha];rfl);clear hall;clear hu hk0;go_wp2_with fail
      refine (updateOk_impl _ _ _ _ _ _ _ _ _ _ _ _ _ _ hs).mono ?_;rw [hok];rintro e w1 ⟨rfl,hb1⟩;have hK1:Kp (wr.alloc (.cells #[.int .i64 (M1.up us k).dr,.int .i64 (M1.up us k).dn,.int .i64 (M1.up us k).sw,.int .i64 (M1.up us k).sc,.int .i64 (M1.up us k).sr,.int .i64 (M1.up us k).k,.int .i64 (M1.up us k).tr,.int .i64 (M1.up us k).id,.int .i64 (M1.up us k).pa,.string (M1.up us k).s,.int .i64 (M1.up us k).st,.int .i64 (M1.up us k).en,.int .i64 (M1.up us k).lv] 72)) w1:=kp_of hb1;clear hb1;go_wp2_with fail
      refine wp_region_held_drew (S:=fun w'=>Kp (wr.alloc (.cells #[.int .i64 (M1.up us k).dr,.int .i64 (M1.up us k).dn,.int .i64 (M1.up us k).sw,.int .i64 (M1.up us k).sc,.int .i64 (M1.up us k).sr,.int .i64 (M1.up us k).k,.int .i64 (M1.up us k).tr,.int .i64 (M1.up us k).id,.int .i64 (M1.up us k).pa,.string (M1.up us k).s,.int .i64 (M1.up us k).st,.int .i64 (M1.up us k).en,.int .i64 (M1.up us k).lv] 72)) w') (by kernel_rfl) ?_ (fun zH=>?_)
      ·exact kp_drew hK1
      refine uZ 0 ?_;simp only[pZ,zZ];refine uZ 1 ?_;simp only[pZ,zZ];refine uZ 2 ?_;simp only[pZ,zZ];refine vZ 3 ?_;simp only[pZ,zZ];refine vZ 4 ?_;simp only[pZ,zZ];refine vZ 5 ?_;simp only[pZ,zZ];refine vZ 6 ?_;simp only[pZ,zZ];refine uZ 7 ?_;simp only[pZ,zZ];refine uZ 8 ?_;simp only[pZ,zZ];refine uZ 9 ?_;simp only[pZ,zZ];refine uZ 10 ?_;simp only[pZ,zZ];refine uZ 11 ?_;simp only[pZ,zZ];refine uZ 12 ?_;simp only[pZ,zZ];refine uZ 13 ?_;simp only[pZ,zZ];refine uZ 14 ?_;simp only[pZ,zZ];refine uZ 15 ?_;simp only[pZ,zZ];refine uZ 16 ?_;simp only[pZ,zZ];refine uZ 17 ?_;simp only[pZ,zZ];refine sZ 18 fun K hK=>?_;go_simp
      (refine (follows_any (M1.up us (k-1)) (M1.up us k) _ i7).mono ?_;rw [ha];rintro e w' ⟨rfl,hb⟩;go_wp2_with fail)
      refine hK.out _ _ ?_ (fun zH2=>?_)
      ·exact kp_step zH hb
      clear hK K zH;have zH:=zH2;clear zH2;(try simp only[pZ,zZ]);refine uZ 19 ?_;simp only[pZ,zZ];refine uZ 20 ?_;simp only[pZ,zZ];refine uZ 21 ?_;simp only[pZ,zZ];refine dZ ?_;clear hK1;have hK1:=zH;clear zH;have hK2:=hK1.2;go_wp2_with fail
      clear hK2;go_ret
      exact ⟨by rw [HQ.out];rfl,hB.trans (((Below.refl _ _).alloc (Nat.le_refl _) _ |>.trans (hK1.1.mono (by simp))).mono hB.size)⟩
   ·replace hu:M1.okU (M1.up us k)=false:=by simpa using hu
    have hok:M1.updB (M1.up us k).dr (M1.up us k).dn (M1.up us k).sw (M1.up us k).sc (M1.up us k).sr (M1.up us k).k (M1.up us k).tr (M1.up us k).id (M1.up us k).pa (M1.up us k).s (M1.up us k).st (M1.up us k).en (M1.up us k).lv=false:=hu;have HQ:Hid (M1.setOk us=false):=M1.setOk_no (j:=k) (by have:=hl1.out;omega) (by unfold M1.okAt;rw [hu];rfl);clear hall;clear hu hc g1;go_wp2_with fail
    refine (updateOk_impl _ _ _ _ _ _ _ _ _ _ _ _ _ _ hs).mono ?_;rw [hok];rintro e w1 ⟨rfl,hb1⟩;have hK1:Kp (wr.alloc (.cells #[.int .i64 (M1.up us k).dr,.int .i64 (M1.up us k).dn,.int .i64 (M1.up us k).sw,.int .i64 (M1.up us k).sc,.int .i64 (M1.up us k).sr,.int .i64 (M1.up us k).k,.int .i64 (M1.up us k).tr,.int .i64 (M1.up us k).id,.int .i64 (M1.up us k).pa,.string (M1.up us k).s,.int .i64 (M1.up us k).st,.int .i64 (M1.up us k).en,.int .i64 (M1.up us k).lv] 72)) w1:=kp_of hb1;clear hb1;go_wp2_with fail
    go_ret
    exact ⟨by rw [HQ.out];rfl,hB.trans (((Below.refl _ _).alloc (Nat.le_refl _) _ |>.trans (hK1.1.mono (by simp))).mono hB.size)⟩
  ·have HQ:Hid (M1.setOk us=true):=by
    show M1.setOk us=_
    have:=hl1.out;rw [M1.setOk_yes (fun j hj=>hall.out j (by omega)),this]
    simp;omega
   clear hall;go_wp2_with fail
   go_ret
   exact ⟨by rw [HQ.out];rfl,hB⟩
end Go.Proofs.YtgcinolbkllkkaaGreat
