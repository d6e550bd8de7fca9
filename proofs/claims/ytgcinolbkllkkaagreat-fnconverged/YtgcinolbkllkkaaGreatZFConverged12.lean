/-
  Texts of one proof, joined: Er2, Tick, Meet.
-/
import Derived.Test.YtgcinolbkllkkaaGreatProg
import Derived.LaidEql
import Derived.Stop.Asserts
import Derived.RowKitTokens
import Derived.Test.YtgcinolbkllkkaaGreatZFConverged00
set_option linter.unusedSimpArgs false
set_option linter.unusedVariables false
namespace Go.Proofs.YtgcinolbkllkkaaGreat
open Go.RowKit Go.Extern.Stop Go.Stop Go.Extern
abbrev rv (T:Nat)(a:Addr)(fl:Int):Value:=.agg #[.pointer (some ⟨0,T,none⟩),.pointer (some a),.int .u64 fl]
end Go.Proofs.YtgcinolbkllkkaaGreat
namespace Go.Proofs.YtgcinolbkllkkaaGreat
open Go.ChangeShapes Go.WideShapes Go.ChangeAt Go.RowKit
theorem ticked_spec (a b c now:Int)(w:World) :
  Calls Tryz.prog 152 #[.agg #[.int .i64 a,.int .i64 b,.int .i64 c],.int .i64 now] w fun e w'=>e=.returned (.tuple #[.agg #[.int .i64 (M1.tickP a b c now).a,.int .i64 (M1.tickP a b c now).b,.int .i64 (M1.tickP a b c now).c],.bool (M1.tickP a b c now).ok])∧Below w.heap.size w w':=by
 by_cases h1:M1.stOk a b c=true
 ·by_cases h2:M1.inB now 0 1000000000=true
  ·have e1:M1.tickP a b c now=M1.nextP a b c now:=by simp [M1.tickP,h1,h2]
   rw [e1];clear e1;have hb:=M1.stOk_true h1;have hb2:0≤b∧b≤1000000:=by omega
   clear hb;go_enter Tryz.func152,Tryz.ntmps152
   go_wp2_with fail
   refine (stampOk_spec _ _ _ _).mono ?_;rintro e w1 ⟨rfl,hb1⟩;have hB1:=hb1;clear hb1;obtain ⟨hc1,hf1⟩:=bcell hB1;have hz1:=hB1.size
   (try simp [Nat.succ_le_iff] at hz1)
   have hz1_0:w.heap.size<w1.heap.size:=by omega
   go_wp2_with ((go_at_call 27;refine (l1In_any _ _ _ _).mono ?_;rintro e w' ⟨rfl,rfl⟩))
   refine (next_spec _ _ _ _ _ hb2).mono ?_;rintro e w2 ⟨rfl,hb2⟩;have hB2:=hB1.trans (hb2.mono hB1.size);obtain ⟨hc2,hf2⟩:=bcell hB2;have hz2:=hB2.size
   (try simp [Nat.succ_le_iff] at hz2)
   have hz2_0:w.heap.size<w2.heap.size:=by omega
   clear hb2 hB1 hc1 hf1 hz1 hz1_0;go_wp2_with fail
   refine bodyPost_ret (v:=.tuple #[.agg #[.int .i64 (M1.nextP a b c now).a,.int .i64 (M1.nextP a b c now).b,.int .i64 (M1.nextP a b c now).c],.bool (M1.nextP a b c now).ok]) (by simp [results,Tryz.results152,go_sem, *]) rfl ⟨rfl,?_⟩;repeat (first | (with_reducible exact Below.refl _ _) | ((with_reducible refine Below.setCell ?_ ?_ _);rotate_left;(focus (first | omega | (simp;done) | (simp;omega)))) | ((with_reducible refine Below.alloc ?_ ?_ _);rotate_left;(focus (first | omega | (simp;done) | (simp;omega)))) | (with_reducible refine Below.drew ?_) | ((with_reducible refine Below.trans ?_ (Below.mono hB2 ?_));rotate_left;(focus (first | omega | (simp;done) | (simp;omega)))))
  ·have e1:M1.tickP a b c now=⟨0,0,0,false⟩:=by simp [M1.tickP,h2]
   rw [e1];clear e1;have h2':M1.inB now 0 1000000000=false:=by simpa using h2
   go_enter Tryz.func152,Tryz.ntmps152
   go_wp2_with fail
   refine (stampOk_spec _ _ _ _).mono ?_;rintro e w1 ⟨rfl,hb1⟩;have hB1:=hb1;clear hb1;obtain ⟨hc1,hf1⟩:=bcell hB1;have hz1:=hB1.size
   (try simp [Nat.succ_le_iff] at hz1)
   have hz1_0:w.heap.size<w1.heap.size:=by omega
   go_wp2_with ((go_at_call 27;refine (l1In_any _ _ _ _).mono ?_;rintro e w' ⟨rfl,rfl⟩))
   refine bodyPost_ret (v:=.tuple #[.agg #[.int .i64 0,.int .i64 0,.int .i64 0],.bool false]) (by simp [results,Tryz.results152,go_sem, *]) rfl ⟨rfl,?_⟩;repeat (first | (with_reducible exact Below.refl _ _) | ((with_reducible refine Below.setCell ?_ ?_ _);rotate_left;(focus (first | omega | (simp;done) | (simp;omega)))) | ((with_reducible refine Below.alloc ?_ ?_ _);rotate_left;(focus (first | omega | (simp;done) | (simp;omega)))) | (with_reducible refine Below.drew ?_) | ((with_reducible refine Below.trans ?_ (Below.mono hB1 ?_));rotate_left;(focus (first | omega | (simp;done) | (simp;omega)))))
 ·have e1:M1.tickP a b c now=⟨0,0,0,false⟩:=by simp [M1.tickP,h1]
  rw [e1];clear e1;have h1':M1.stOk a b c=false:=by simpa using h1
  go_enter Tryz.func152,Tryz.ntmps152
  go_wp2_with fail
  refine (stampOk_spec _ _ _ _).mono ?_;rintro e w1 ⟨rfl,hb1⟩;have hB1:=hb1;clear hb1;obtain ⟨hc1,hf1⟩:=bcell hB1;have hz1:=hB1.size
  (try simp [Nat.succ_le_iff] at hz1)
  have hz1_0:w.heap.size<w1.heap.size:=by omega
  go_wp2_with ((go_at_call 27;refine (l1In_any _ _ _ _).mono ?_;rintro e w' ⟨rfl,rfl⟩))
  refine bodyPost_ret (v:=.tuple #[.agg #[.int .i64 0,.int .i64 0,.int .i64 0],.bool false]) (by simp [results,Tryz.results152,go_sem, *]) rfl ⟨rfl,?_⟩;repeat (first | (with_reducible exact Below.refl _ _) | ((with_reducible refine Below.setCell ?_ ?_ _);rotate_left;(focus (first | omega | (simp;done) | (simp;omega)))) | ((with_reducible refine Below.alloc ?_ ?_ _);rotate_left;(focus (first | omega | (simp;done) | (simp;omega)))) | (with_reducible refine Below.drew ?_) | ((with_reducible refine Below.trans ?_ (Below.mono hB1 ?_));rotate_left;(focus (first | omega | (simp;done) | (simp;omega)))))
set_option maxHeartbeats 16000000 in
theorem met_spec (a b c x y z now:Int)(w:World) :
  Calls Tryz.prog 167 #[.agg #[.int .i64 a,.int .i64 b,.int .i64 c],.agg #[.int .i64 x,.int .i64 y,.int .i64 z],.int .i64 now] w fun e w'=>e=.returned (.tuple #[.agg #[.int .i64 (M1.metP a b c x y z now).a,.int .i64 (M1.metP a b c x y z now).b,.int .i64 (M1.metP a b c x y z now).c],.bool (M1.metP a b c x y z now).ok])∧Below w.heap.size w w':=by
 by_cases h1:M1.stOk a b c=true
 ·by_cases h2:M1.stOk x y z=true
  ·by_cases h3:M1.inB now 0 1000000000=true
   ·have hb:=M1.stOk_true h1
    have hb2:=M1.stOk_true h2;have hb3:0≤b∧b≤1000000:=by omega
    have hb4:0≤y∧y≤1000000:=by omega
    have hk:M1.stOk x y c=true:=M1.stOk_mk (by omega);clear hb hb2;have hcs:a<x∨(x=a∧b<y)∨x<a∨(x=a∧y≤b):=by omega
    rcases hcs with hA | ⟨hA,hC⟩ | hA | ⟨hA,hC⟩
    ·have ho:M1.overB a b x y=true:=by simp [M1.overB];omega
     have e1:M1.metP a b c x y z now=M1.nextP x y c now:=by simp [M1.metP,h1,h2,h3,ho]
     rw [e1];clear e1;clear ho hk;go_enter Tryz.func167,Tryz.ntmps167
     go_wp2_with fail
     refine (stampOk_spec _ _ _ _).mono ?_;rintro e w1 ⟨rfl,hb1⟩;have hB1:=hb1;clear hb1;obtain ⟨hc1,hf1⟩:=bcell hB1;have hz1:=hB1.size
     (try simp [Nat.succ_le_iff] at hz1)
     have hz1_0:w.heap.size<w1.heap.size:=by omega
     have hz1_1:w.heap.size+1<w1.heap.size:=by omega
     have hz1_2:w.heap.size+1+1<w1.heap.size:=by omega
     go_wp2_with fail
     refine (stampOk_spec _ _ _ _).mono ?_;rintro e w2 ⟨rfl,hb2⟩;have hB2:=hB1.trans (hb2.mono hB1.size);obtain ⟨hc2,hf2⟩:=bcell hB2;have hz2:=hB2.size
     (try simp [Nat.succ_le_iff] at hz2)
     have hz2_0:w.heap.size<w2.heap.size:=by omega
     have hz2_1:w.heap.size+1<w2.heap.size:=by omega
     have hz2_2:w.heap.size+1+1<w2.heap.size:=by omega
     clear hb2 hB1 hc1 hf1 hz1 hz1_0 hz1_1 hz1_2;go_wp2_with (go_at_call 27;refine (l1In_any _ _ _ _).mono ?_;rintro e w' ⟨rfl,rfl⟩)
     refine (next_spec _ _ _ _ _ hb4).mono ?_;rintro e w3 ⟨rfl,hb3⟩;have hB3:=hb3;clear hb3;obtain ⟨hc3,hf3⟩:=bcell hB3;have hz3:=hB3.size
     (try simp [Nat.succ_le_iff] at hz3)
     have hz3_0:w.heap.size<w3.heap.size:=by omega
     have hz3_1:w.heap.size+1<w3.heap.size:=by omega
     have hz3_2:w.heap.size+1+1<w3.heap.size:=by omega
     go_wp2_with fail
     refine bodyPost_ret (v:=.tuple #[.agg #[.int .i64 (M1.nextP x y c now).a,.int .i64 (M1.nextP x y c now).b,.int .i64 (M1.nextP x y c now).c],.bool (M1.nextP x y c now).ok]) (by simp [results,Tryz.results167,go_sem, *]) rfl ⟨rfl,?_⟩;repeat (first | (with_reducible exact Below.refl _ _) | ((with_reducible refine Below.setCell ?_ ?_ _);rotate_left;(focus (first | omega | (simp;done) | (simp;omega)))) | ((with_reducible refine Below.alloc ?_ ?_ _);rotate_left;(focus (first | omega | (simp;done) | (simp;omega)))) | (with_reducible refine Below.drew ?_) | ((with_reducible refine Below.trans ?_ (Below.mono hB3 ?_));rotate_left;(focus (first | omega | (simp;done) | (simp;omega)))) | ((with_reducible refine Below.trans ?_ (Below.mono hB2 ?_));rotate_left;(focus (first | omega | (simp;done) | (simp;omega)))))
    ·have ho:M1.overB a b x y=true:=by simp [M1.overB];omega
     have e1:M1.metP a b c x y z now=M1.nextP x y c now:=by simp [M1.metP,h1,h2,h3,ho]
     rw [e1];clear e1;clear ho hk;subst hA;go_enter Tryz.func167,Tryz.ntmps167
     go_wp2_with fail
     refine (stampOk_spec _ _ _ _).mono ?_;rintro e w1 ⟨rfl,hb1⟩;have hB1:=hb1;clear hb1;obtain ⟨hc1,hf1⟩:=bcell hB1;have hz1:=hB1.size
     (try simp [Nat.succ_le_iff] at hz1)
     have hz1_0:w.heap.size<w1.heap.size:=by omega
     have hz1_1:w.heap.size+1<w1.heap.size:=by omega
     have hz1_2:w.heap.size+1+1<w1.heap.size:=by omega
     go_wp2_with fail
     refine (stampOk_spec _ _ _ _).mono ?_;rintro e w2 ⟨rfl,hb2⟩;have hB2:=hB1.trans (hb2.mono hB1.size);obtain ⟨hc2,hf2⟩:=bcell hB2;have hz2:=hB2.size
     (try simp [Nat.succ_le_iff] at hz2)
     have hz2_0:w.heap.size<w2.heap.size:=by omega
     have hz2_1:w.heap.size+1<w2.heap.size:=by omega
     have hz2_2:w.heap.size+1+1<w2.heap.size:=by omega
     clear hb2 hB1 hc1 hf1 hz1 hz1_0 hz1_1 hz1_2;go_wp2_with (go_at_call 27;refine (l1In_any _ _ _ _).mono ?_;rintro e w' ⟨rfl,rfl⟩)
     refine (next_spec _ _ _ _ _ hb4).mono ?_;rintro e w3 ⟨rfl,hb3⟩;have hB3:=hb3;clear hb3;obtain ⟨hc3,hf3⟩:=bcell hB3;have hz3:=hB3.size
     (try simp [Nat.succ_le_iff] at hz3)
     have hz3_0:w.heap.size<w3.heap.size:=by omega
     have hz3_1:w.heap.size+1<w3.heap.size:=by omega
     have hz3_2:w.heap.size+1+1<w3.heap.size:=by omega
     go_wp2_with fail
     refine bodyPost_ret (v:=.tuple #[.agg #[.int .i64 (M1.nextP x y c now).a,.int .i64 (M1.nextP x y c now).b,.int .i64 (M1.nextP x y c now).c],.bool (M1.nextP x y c now).ok]) (by simp [results,Tryz.results167,go_sem, *]) rfl ⟨rfl,?_⟩;repeat (first | (with_reducible exact Below.refl _ _) | ((with_reducible refine Below.setCell ?_ ?_ _);rotate_left;(focus (first | omega | (simp;done) | (simp;omega)))) | ((with_reducible refine Below.alloc ?_ ?_ _);rotate_left;(focus (first | omega | (simp;done) | (simp;omega)))) | (with_reducible refine Below.drew ?_) | ((with_reducible refine Below.trans ?_ (Below.mono hB3 ?_));rotate_left;(focus (first | omega | (simp;done) | (simp;omega)))) | ((with_reducible refine Below.trans ?_ (Below.mono hB2 ?_));rotate_left;(focus (first | omega | (simp;done) | (simp;omega)))))
    ·have ho:M1.overB a b x y=false:=by simp [M1.overB];omega
     have e1:M1.metP a b c x y z now=M1.nextP a b c now:=by simp [M1.metP,h1,h2,h3,ho]
     rw [e1];clear e1;clear ho hk;go_enter Tryz.func167,Tryz.ntmps167
     go_wp2_with fail
     refine (stampOk_spec _ _ _ _).mono ?_;rintro e w1 ⟨rfl,hb1⟩;have hB1:=hb1;clear hb1;obtain ⟨hc1,hf1⟩:=bcell hB1;have hz1:=hB1.size
     (try simp [Nat.succ_le_iff] at hz1)
     have hz1_0:w.heap.size<w1.heap.size:=by omega
     have hz1_1:w.heap.size+1<w1.heap.size:=by omega
     have hz1_2:w.heap.size+1+1<w1.heap.size:=by omega
     go_wp2_with fail
     refine (stampOk_spec _ _ _ _).mono ?_;rintro e w2 ⟨rfl,hb2⟩;have hB2:=hB1.trans (hb2.mono hB1.size);obtain ⟨hc2,hf2⟩:=bcell hB2;have hz2:=hB2.size
     (try simp [Nat.succ_le_iff] at hz2)
     have hz2_0:w.heap.size<w2.heap.size:=by omega
     have hz2_1:w.heap.size+1<w2.heap.size:=by omega
     have hz2_2:w.heap.size+1+1<w2.heap.size:=by omega
     clear hb2 hB1 hc1 hf1 hz1 hz1_0 hz1_1 hz1_2;go_wp2_with (go_at_call 27;refine (l1In_any _ _ _ _).mono ?_;rintro e w' ⟨rfl,rfl⟩)
     refine (next_spec _ _ _ _ _ hb3).mono ?_;rintro e w3 ⟨rfl,hb3⟩;have hB3:=hb3;clear hb3;obtain ⟨hc3,hf3⟩:=bcell hB3;have hz3:=hB3.size
     (try simp [Nat.succ_le_iff] at hz3)
     have hz3_0:w.heap.size<w3.heap.size:=by omega
     have hz3_1:w.heap.size+1<w3.heap.size:=by omega
     have hz3_2:w.heap.size+1+1<w3.heap.size:=by omega
     go_wp2_with fail
     refine bodyPost_ret (v:=.tuple #[.agg #[.int .i64 (M1.nextP a b c now).a,.int .i64 (M1.nextP a b c now).b,.int .i64 (M1.nextP a b c now).c],.bool (M1.nextP a b c now).ok]) (by simp [results,Tryz.results167,go_sem, *]) rfl ⟨rfl,?_⟩;repeat (first | (with_reducible exact Below.refl _ _) | ((with_reducible refine Below.setCell ?_ ?_ _);rotate_left;(focus (first | omega | (simp;done) | (simp;omega)))) | ((with_reducible refine Below.alloc ?_ ?_ _);rotate_left;(focus (first | omega | (simp;done) | (simp;omega)))) | (with_reducible refine Below.drew ?_) | ((with_reducible refine Below.trans ?_ (Below.mono hB3 ?_));rotate_left;(focus (first | omega | (simp;done) | (simp;omega)))) | ((with_reducible refine Below.trans ?_ (Below.mono hB2 ?_));rotate_left;(focus (first | omega | (simp;done) | (simp;omega)))))
    ·have ho:M1.overB a b x y=false:=by simp [M1.overB];omega
     have e1:M1.metP a b c x y z now=M1.nextP a b c now:=by simp [M1.metP,h1,h2,h3,ho]
     rw [e1];clear e1;clear ho hk;subst hA;go_enter Tryz.func167,Tryz.ntmps167
     go_wp2_with fail
     refine (stampOk_spec _ _ _ _).mono ?_;rintro e w1 ⟨rfl,hb1⟩;have hB1:=hb1;clear hb1;obtain ⟨hc1,hf1⟩:=bcell hB1;have hz1:=hB1.size
     (try simp [Nat.succ_le_iff] at hz1)
     have hz1_0:w.heap.size<w1.heap.size:=by omega
     have hz1_1:w.heap.size+1<w1.heap.size:=by omega
     have hz1_2:w.heap.size+1+1<w1.heap.size:=by omega
     go_wp2_with fail
     refine (stampOk_spec _ _ _ _).mono ?_;rintro e w2 ⟨rfl,hb2⟩;have hB2:=hB1.trans (hb2.mono hB1.size);obtain ⟨hc2,hf2⟩:=bcell hB2;have hz2:=hB2.size
     (try simp [Nat.succ_le_iff] at hz2)
     have hz2_0:w.heap.size<w2.heap.size:=by omega
     have hz2_1:w.heap.size+1<w2.heap.size:=by omega
     have hz2_2:w.heap.size+1+1<w2.heap.size:=by omega
     clear hb2 hB1 hc1 hf1 hz1 hz1_0 hz1_1 hz1_2;go_wp2_with (go_at_call 27;refine (l1In_any _ _ _ _).mono ?_;rintro e w' ⟨rfl,rfl⟩)
     refine (next_spec _ _ _ _ _ hb3).mono ?_;rintro e w3 ⟨rfl,hb3⟩;have hB3:=hb3;clear hb3;obtain ⟨hc3,hf3⟩:=bcell hB3;have hz3:=hB3.size
     (try simp [Nat.succ_le_iff] at hz3)
     have hz3_0:w.heap.size<w3.heap.size:=by omega
     have hz3_1:w.heap.size+1<w3.heap.size:=by omega
     have hz3_2:w.heap.size+1+1<w3.heap.size:=by omega
     go_wp2_with fail
     refine bodyPost_ret (v:=.tuple #[.agg #[.int .i64 (M1.nextP x b c now).a,.int .i64 (M1.nextP x b c now).b,.int .i64 (M1.nextP x b c now).c],.bool (M1.nextP x b c now).ok]) (by simp [results,Tryz.results167,go_sem, *]) rfl ⟨rfl,?_⟩;repeat (first | (with_reducible exact Below.refl _ _) | ((with_reducible refine Below.setCell ?_ ?_ _);rotate_left;(focus (first | omega | (simp;done) | (simp;omega)))) | ((with_reducible refine Below.alloc ?_ ?_ _);rotate_left;(focus (first | omega | (simp;done) | (simp;omega)))) | (with_reducible refine Below.drew ?_) | ((with_reducible refine Below.trans ?_ (Below.mono hB3 ?_));rotate_left;(focus (first | omega | (simp;done) | (simp;omega)))) | ((with_reducible refine Below.trans ?_ (Below.mono hB2 ?_));rotate_left;(focus (first | omega | (simp;done) | (simp;omega)))))
   ·have h3':M1.inB now 0 1000000000=false:=by simpa using h3
    have e1:M1.metP a b c x y z now=⟨0,0,0,false⟩:=by simp [M1.metP,h3]
    rw [e1];clear e1;go_enter Tryz.func167,Tryz.ntmps167
    go_wp2_with fail
    refine (stampOk_spec _ _ _ _).mono ?_;rintro e w1 ⟨rfl,hb1⟩;have hB1:=hb1;clear hb1;obtain ⟨hc1,hf1⟩:=bcell hB1;have hz1:=hB1.size
    (try simp [Nat.succ_le_iff] at hz1)
    have hz1_0:w.heap.size<w1.heap.size:=by omega
    have hz1_1:w.heap.size+1<w1.heap.size:=by omega
    have hz1_2:w.heap.size+1+1<w1.heap.size:=by omega
    go_wp2_with fail
    refine (stampOk_spec _ _ _ _).mono ?_;rintro e w2 ⟨rfl,hb2⟩;have hB2:=hB1.trans (hb2.mono hB1.size);obtain ⟨hc2,hf2⟩:=bcell hB2;have hz2:=hB2.size
    (try simp [Nat.succ_le_iff] at hz2)
    have hz2_0:w.heap.size<w2.heap.size:=by omega
    have hz2_1:w.heap.size+1<w2.heap.size:=by omega
    have hz2_2:w.heap.size+1+1<w2.heap.size:=by omega
    clear hb2 hB1 hc1 hf1 hz1 hz1_0 hz1_1 hz1_2;go_wp2_with (go_at_call 27;refine (l1In_any _ _ _ _).mono ?_;rintro e w' ⟨rfl,rfl⟩)
    refine bodyPost_ret (v:=.tuple #[.agg #[.int .i64 0,.int .i64 0,.int .i64 0],.bool false]) (by simp [results,Tryz.results167,go_sem, *]) rfl ⟨rfl,?_⟩;repeat (first | (with_reducible exact Below.refl _ _) | ((with_reducible refine Below.setCell ?_ ?_ _);rotate_left;(focus (first | omega | (simp;done) | (simp;omega)))) | ((with_reducible refine Below.alloc ?_ ?_ _);rotate_left;(focus (first | omega | (simp;done) | (simp;omega)))) | (with_reducible refine Below.drew ?_) | ((with_reducible refine Below.trans ?_ (Below.mono hB2 ?_));rotate_left;(focus (first | omega | (simp;done) | (simp;omega)))))
  ·have h2':M1.stOk x y z=false:=by simpa using h2
   have e1:M1.metP a b c x y z now=⟨0,0,0,false⟩:=by simp [M1.metP,h2]
   rw [e1];clear e1;go_enter Tryz.func167,Tryz.ntmps167
   go_wp2_with fail
   refine (stampOk_spec _ _ _ _).mono ?_;rintro e w1 ⟨rfl,hb1⟩;have hB1:=hb1;clear hb1;obtain ⟨hc1,hf1⟩:=bcell hB1;have hz1:=hB1.size
   (try simp [Nat.succ_le_iff] at hz1)
   have hz1_0:w.heap.size<w1.heap.size:=by omega
   have hz1_1:w.heap.size+1<w1.heap.size:=by omega
   have hz1_2:w.heap.size+1+1<w1.heap.size:=by omega
   go_wp2_with fail
   refine (stampOk_spec _ _ _ _).mono ?_;rintro e w2 ⟨rfl,hb2⟩;have hB2:=hB1.trans (hb2.mono hB1.size);obtain ⟨hc2,hf2⟩:=bcell hB2;have hz2:=hB2.size
   (try simp [Nat.succ_le_iff] at hz2)
   have hz2_0:w.heap.size<w2.heap.size:=by omega
   have hz2_1:w.heap.size+1<w2.heap.size:=by omega
   have hz2_2:w.heap.size+1+1<w2.heap.size:=by omega
   clear hb2 hB1 hc1 hf1 hz1 hz1_0 hz1_1 hz1_2;go_wp2_with (go_at_call 27;refine (l1In_any _ _ _ _).mono ?_;rintro e w' ⟨rfl,rfl⟩)
   refine bodyPost_ret (v:=.tuple #[.agg #[.int .i64 0,.int .i64 0,.int .i64 0],.bool false]) (by simp [results,Tryz.results167,go_sem, *]) rfl ⟨rfl,?_⟩;repeat (first | (with_reducible exact Below.refl _ _) | ((with_reducible refine Below.setCell ?_ ?_ _);rotate_left;(focus (first | omega | (simp;done) | (simp;omega)))) | ((with_reducible refine Below.alloc ?_ ?_ _);rotate_left;(focus (first | omega | (simp;done) | (simp;omega)))) | (with_reducible refine Below.drew ?_) | ((with_reducible refine Below.trans ?_ (Below.mono hB2 ?_));rotate_left;(focus (first | omega | (simp;done) | (simp;omega)))))
 ·have h1':M1.stOk a b c=false:=by simpa using h1
  have e1:M1.metP a b c x y z now=⟨0,0,0,false⟩:=by simp [M1.metP,h1]
  rw [e1];clear e1;go_enter Tryz.func167,Tryz.ntmps167
  go_wp2_with fail
  refine (stampOk_spec _ _ _ _).mono ?_;rintro e w1 ⟨rfl,hb1⟩;have hB1:=hb1;clear hb1;obtain ⟨hc1,hf1⟩:=bcell hB1;have hz1:=hB1.size
  (try simp [Nat.succ_le_iff] at hz1)
  have hz1_0:w.heap.size<w1.heap.size:=by omega
  have hz1_1:w.heap.size+1<w1.heap.size:=by omega
  have hz1_2:w.heap.size+1+1<w1.heap.size:=by omega
  go_wp2_with fail
  refine bodyPost_ret (v:=.tuple #[.agg #[.int .i64 0,.int .i64 0,.int .i64 0],.bool false]) (by simp [results,Tryz.results167,go_sem, *]) rfl ⟨rfl,?_⟩;repeat (first | (with_reducible exact Below.refl _ _) | ((with_reducible refine Below.setCell ?_ ?_ _);rotate_left;(focus (first | omega | (simp;done) | (simp;omega)))) | ((with_reducible refine Below.alloc ?_ ?_ _);rotate_left;(focus (first | omega | (simp;done) | (simp;omega)))) | (with_reducible refine Below.drew ?_) | ((with_reducible refine Below.trans ?_ (Below.mono hB1 ?_));rotate_left;(focus (first | omega | (simp;done) | (simp;omega)))))
end Go.Proofs.YtgcinolbkllkkaaGreat
