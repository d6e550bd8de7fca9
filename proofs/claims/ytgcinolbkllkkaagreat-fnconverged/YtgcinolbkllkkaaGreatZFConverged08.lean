/-
  Texts of one proof, joined: Math15, Math10, Math35, Upd1.
-/
import Derived.Test.YtgcinolbkllkkaaGreatZFConverged07
set_option linter.unusedSimpArgs false
set_option linter.unusedVariables false
namespace M1
theorem insD_keeps {u x:Upd}:∀ {us:List Upd},x∈us→x∈insD us u
 | [],h=>by cases h
 | y :: t,h=>by
  unfold insD
  split
  ·rcases List.mem_cons.1 h with h | h
   ·simp [h]
   ·exact List.mem_cons_of_mem _ (insD_keeps h)
  ·split
   ·exact h
   ·exact List.mem_cons_of_mem _ h
theorem insD_has {u:Upd}:∀ {us:List Upd},u∈insD us u∨∃ x∈us,x.dr=u.dr∧x.dn=u.dn
 | []=>Or.inl (by simp [insD])
 | y :: t=>by
  unfold insD
  split
  ·rcases insD_has (u:=u) (us:=t) with h | ⟨x,hx,e⟩
   ·exact Or.inl (List.mem_cons_of_mem _ h)
   ·exact Or.inr ⟨x,List.mem_cons_of_mem _ hx,e⟩
  ·split
   ·rename_i h;exact Or.inr ⟨y,by simp,h⟩
   ·exact Or.inl (by simp)
theorem jlTo_keeps {xs ys:List Upd}{x:Upd}(h:x∈xs):∀ k,x∈jlTo xs ys k
 | 0=>h
 | k+1=>insD_keeps (jlTo_keeps h k)
theorem jlTo_mem {xs ys:List Upd}{x:Upd}:∀ {k:Nat},x∈jlTo xs ys k→x∈xs∨∃ j,j<k∧x=up ys j
 | 0,h=>Or.inl h
 | k+1,h=>by
  rcases insD_mem (show x∈insD (jlTo xs ys k) (up ys k) from h) with h | h
  ·rcases jlTo_mem h with h | ⟨j,hj,e⟩
   ·exact Or.inl h
   ·exact Or.inr ⟨j,by omega,e⟩
  ·exact Or.inr ⟨k,by omega,h⟩
def Agr (xs ys:List Upd):Prop:=∀ x,x∈xs→∀ y,y∈ys→x.dr=y.dr→x.dn=y.dn→x=y
theorem Agr.symm {xs ys:List Upd}(h:Agr xs ys):Agr ys xs:=fun y hy x hx e1 e2=>(h x hx y hy e1.symm e2.symm).symm
theorem agr_of {xs ys:List Upd}(h:agreeB xs ys=true):Agr xs ys:=fun x hx y hy e1 e2=>by
 obtain ⟨_,_,h3⟩:=agreeB_true h;obtain ⟨i,hi,rfl⟩:=mem_up hx;obtain ⟨j,hj,rfl⟩:=mem_up hy;exact ueq_eq (h3 j hj i hi ⟨e1,e2⟩)
theorem agr_to {xs ys:List Upd}(h1:setOk xs=true)(h2:setOk ys=true)(h:Agr xs ys):agreeB xs ys=true:=by
 have h3:agreeTo xs ys ys.length:=fun k hk i hi e=>by
  rw [h _ (up_mem hi) _ (up_mem hk) e.1 e.2];simp [ueq]
 unfold agreeB;rw [h1,h2]
 simpa using h3
theorem sorted_mem:∀ {a b:List Upd},a.Pairwise dd→b.Pairwise dd→(∀ x,x∈a↔x∈b)→a=b
 | [],[],_,_,_=>rfl
 | [],y :: b,_,_,h=>by have:=(h y).2 (by simp);cases this
 | x :: a,[],_,_,h=>by have:=(h x).1 (by simp);cases this
 | x :: a,y :: b,ha,hb,h=>by
  rw [List.pairwise_cons] at ha hb;have hx:x=y:=by
   rcases List.mem_cons.1 ((h x).1 (by simp)) with e | e
   ·exact e
   ·rcases List.mem_cons.1 ((h y).2 (by simp)) with e' | e'
    ·exact e'.symm
    ·have h1:=dd_iff.1 (hb.1 x e)
     have h2:=dd_iff.1 (ha.1 y e');omega
  subst hx;rw [sorted_mem ha.2 hb.2 fun z=>?_];constructor
  ·intro q
   rcases List.mem_cons.1 ((h z).1 (List.mem_cons_of_mem _ q)) with e | e
   ·subst e;exact absurd ⟨rfl,rfl⟩ (dd_irr (ha.1 z q))
   ·exact e
  ·intro q
   rcases List.mem_cons.1 ((h z).2 (List.mem_cons_of_mem _ q)) with e | e
   ·subst e;exact absurd ⟨rfl,rfl⟩ (dd_irr (hb.1 z q))
   ·exact e
theorem jlTo_has {xs ys:List Upd}(h:Agr xs ys)(ha:apart ys):∀ k,k≤ys.length→∀ j,j<k→up ys j∈jlTo xs ys k
 | 0,_,j,hj=>by omega
 | k+1,hk,j,hj=>by
  show up ys j∈insD (jlTo xs ys k) (up ys k)
  by_cases e:j=k
  ·subst e
   rcases insD_has (u:=up ys j) (us:=jlTo xs ys j) with q | ⟨x,hx,e1,e2⟩
   ·exact q
   ·rcases jlTo_mem hx with q | ⟨i,hi,q⟩
    ·rw [h x q _ (up_mem (by omega)) e1 e2] at hx
     exact insD_keeps hx
    ·subst q;exact absurd ⟨e1,e2⟩ (ha i j hi (by omega))
  ·exact insD_keeps (jlTo_has h ha k (by omega) j (by omega))
theorem jl_both {xs ys:List Upd}(h:agreeB xs ys=true)(x:Upd):x∈jl xs ys↔x∈xs∨x∈ys:=by
 obtain ⟨h1,h2,_⟩:=agreeB_true h;constructor
 ·intro q
  rcases jlTo_mem q with q | ⟨j,hj,e⟩
  ·exact Or.inl q
  ·subst e;exact Or.inr (up_mem hj)
 ·intro q
  rcases q with q | q
  ·exact jlTo_keeps q _
  ·obtain ⟨j,hj,rfl⟩:=mem_up q
   exact jlTo_has (agr_of h) (ok_apart (setOk_all h2)) _ (Nat.le_refl _) j hj
theorem agree_comm (xs ys:List Upd):agreeB ys xs=agreeB xs ys:=by
 have key:∀ a b:List Upd,agreeB a b=true→agreeB b a=true:=fun a b h=>by
  obtain ⟨h1,h2,_⟩:=agreeB_true h;exact agr_to h2 h1 (agr_of h).symm
 rw [Bool.eq_iff_iff];exact ⟨key _ _,key _ _⟩
theorem jOk_true {xs ys:List Upd}(h:jOk xs ys=true):agreeB xs ys=true∧setOk (jl xs ys)=true:=by
 unfold jOk at h
 simpa using h
theorem jL_mem {xs ys:List Upd}(h:jOk xs ys=true)(x:Upd):x∈jL xs ys↔x∈xs∨x∈ys:=by
 unfold jL;rw [if_pos h];exact jl_both (jOk_true h).1 x
theorem tkO_keeps {xs ys:List Upd}{x:Upd}(h:x∈xs):∀ k,x∈tkO xs ys k
 | 0=>h
 | k+1=>by
  unfold tkO
  split
  ·exact insD_keeps (tkO_keeps h k)
  ·exact tkO_keeps h k
theorem tOk_true {xs ys:List Upd}(h:tOk xs ys=true):setOk xs=true∧ys.length≤60∧setOk (tL xs ys)=true∧(∀ x,x∈xs→x∈tL xs ys)∧(∀ x,x∈tL xs ys→x∈xs∨x∈ys):=by
 have hL:tL xs ys=tO xs ys:=by unfold tL;rw [if_pos h]
 rw [hL];unfold tOk at h;rw [Bool.and_eq_true] at h;obtain ⟨h1,h2,h3⟩:=tpre_true h.1;refine ⟨h1,h2,h.2,fun x hx=>tkO_keeps hx _,fun x hx=>?_⟩;rcases tk_mem hx with q | ⟨j,hj,e⟩
 ·exact Or.inl q
 ·subst e;exact Or.inr (up_mem hj)
def laterB (sw sc a b:Int):Bool:=decide (a<sw) || (decide (sw=a) && decide (b<sc))
def noneLater (us:List Upd)(a b:Int):Bool:=(List.range us.length).all fun j=>!laterB (up us j).sw (up us j).sc a b
def regOk (id a b c:Int)(us:List Upd):Bool:=inB id 1 5 && stOk a b c && decide (c=id) && setOk us && noneLater us a b
theorem noneLater_yes {us:List Upd}{a b:Int}(h:∀ j,j<us.length→laterB (up us j).sw (up us j).sc a b=false):noneLater us a b=true:=by
 simp [noneLater];exact h
theorem noneLater_no {us:List Upd}{a b:Int}{j:Nat}(hj:j<us.length)(h:laterB (up us j).sw (up us j).sc a b=true):noneLater us a b=false:=by
 simp [noneLater];exact ⟨j,hj,h⟩
theorem noneLater_all {us:List Upd}{a b:Int}(h:noneLater us a b=true):∀ j,j<us.length→laterB (up us j).sw (up us j).sc a b=false:=by
 simp [noneLater] at h;exact h
theorem regOk_1 {id a b c:Int}{us:List Upd}(h:inB id 1 5=false):regOk id a b c us=false:=by simp [regOk,h]
theorem regOk_2 {id a b c:Int}{us:List Upd}(h:stOk a b c=false):regOk id a b c us=false:=by simp [regOk,h]
theorem regOk_3 {id a b c:Int}{us:List Upd}(h:¬c=id):regOk id a b c us=false:=by simp [regOk,h]
theorem regOk_4 {id a b c:Int}{us:List Upd}(h:setOk us=false):regOk id a b c us=false:=by simp [regOk,h]
theorem regOk_5 {id a b c:Int}{us:List Upd}(h1:inB id 1 5=true)(h2:stOk a b c=true)(h3:c=id)(h4:setOk us=true):regOk id a b c us=noneLater us a b:=by unfold regOk;rw [h1,h2,h4,decide_eq_true h3];rfl
def mtTo (a b c now:Int)(us:List Upd):Nat→St
 | 0=>⟨a,b,c,true⟩
 | k+1=>if (mtTo a b c now us k).ok=true then metP (mtTo a b c now us k).a (mtTo a b c now us k).b (mtTo a b c now us k).c (up us k).sw (up us k).sc (up us k).sr now else ⟨0,0,0,false⟩
theorem mt_step {a b c now:Int}{us:List Upd}{k:Nat}(h:(mtTo a b c now us k).ok=true):mtTo a b c now us (k+1)=metP (mtTo a b c now us k).a (mtTo a b c now us k).b (mtTo a b c now us k).c (up us k).sw (up us k).sc (up us k).sr now:=by
 show (if _ then _ else _)=_
 rw [if_pos h]
theorem mt_no {a b c now:Int}{us:List Upd}{k:Nat}(h:(mtTo a b c now us k).ok=false):∀ j,(mtTo a b c now us (k+j)).ok=false
 | 0=>h
 | j+1=>by
  show (if _ then _ else (⟨0,0,0,false⟩:St)).ok=false
  rw [if_neg (by have:=mt_no h j;rw [show k.add j=k+j from rfl,this];simp)]
theorem mt_fail {a b c now:Int}{us:List Upd}{k n:Nat}(h:(mtTo a b c now us k).ok=false)(hk:k≤n):(mtTo a b c now us n).ok=false:=by
 have:=mt_no h (n-k)
 rwa [show k+(n-k)=n by omega] at this
structure Rg where
 id:Int
 a:Int
 b:Int
 c:Int
 us:List Upd
def zeroR:Rg:=⟨0,0,0,0,[]⟩
def rOk (r:Rg):Bool:=regOk r.id r.a r.b r.c r.us
def rcF (ys:List Upd)(now:Int):Bool:=!(decide (ys.length≤60)) || (!(inB now 0 1000000000) || !(allR ys))
def mt (r:Rg)(ys:List Upd)(now:Int):St:=mtTo r.a r.b r.c now ys ys.length
def rcC (r:Rg)(ys:List Upd)(now:Int):Int :=
 if rOk r=true then if rcF ys now=true then 2 else if tOk r.us ys=true then if (mt r ys now).ok=true then 0 else 4 else 3 else 1
def rcN (r:Rg)(ys:List Upd)(now:Int):Rg:=⟨r.id,(mt r ys now).a,(mt r ys now).b,(mt r ys now).c,tL r.us ys⟩
def rcR (r:Rg)(ys:List Upd)(now:Int):Rg :=
 if rOk r=true then if rcF ys now=true then r else if tOk r.us ys=true then if (mt r ys now).ok=true then rcN r ys now else r else r else zeroR
theorem rc_2 {r:Rg}{ys:List Upd}{now:Int}(h:rOk r=true)(h2:rcF ys now=true):rcC r ys now=2∧rcR r ys now=r:=by
 unfold rcC rcR;rw [h,h2];exact ⟨rfl,rfl⟩
theorem rc_3 {r:Rg}{ys:List Upd}{now:Int}(h:rOk r=true)(h2:rcF ys now=false)(h3:tOk r.us ys=false):rcC r ys now=3∧rcR r ys now=r:=by
 unfold rcC rcR;rw [h,h2,h3];exact ⟨rfl,rfl⟩
theorem rc_4 {r:Rg}{ys:List Upd}{now:Int}(h:rOk r=true)(h2:rcF ys now=false)(h3:tOk r.us ys=true)(h4:(mt r ys now).ok=false):rcC r ys now=4∧rcR r ys now=r:=by
 unfold rcC rcR;rw [h,h2,h3,h4];exact ⟨rfl,rfl⟩
theorem rc_0 {r:Rg}{ys:List Upd}{now:Int}(h:rOk r=true)(h2:rcF ys now=false)(h3:tOk r.us ys=true)(h4:(mt r ys now).ok=true):rcC r ys now=0∧rcR r ys now=rcN r ys now:=by
 unfold rcC rcR;rw [h,h2,h3,h4];exact ⟨rfl,rfl⟩
theorem rOk_set {r:Rg}(h:rOk r=true):setOk r.us=true:=by
 unfold rOk regOk at h;simp at h;exact h.1.2
theorem rcF_1 {ys:List Upd}{now:Int}(h:¬ys.length≤60):rcF ys now=true:=by simp [rcF,h]
theorem rcF_2 {ys:List Upd}{now:Int}(h:inB now 0 1000000000=false):rcF ys now=true:=by simp [rcF,h]
theorem rcF_3 {ys:List Upd}{now:Int}(h:allR ys=false):rcF ys now=true:=by simp [rcF,h]
theorem rcF_0 {ys:List Upd}{now:Int}(h1:ys.length≤60)(h2:inB now 0 1000000000=true)(h3:allR ys=true):rcF ys now=false:=by simp [rcF,h1,h2,h3]
theorem tOk_all {xs ys:List Upd}(h:tOk xs ys=true):allR ys=true:=by
 unfold tOk tpre at h;simp at h;exact h.1.2
end M1
namespace Go.Proofs.YtgcinolbkllkkaaGreat
open Go.ChangeShapes Go.WideShapes Go.ChangeAt Go.RowKit
set_option maxHeartbeats 32000000 in
set_option maxRecDepth 100000 in
theorem updateOk_spec (dr dn sw sc sr k tr id pa st en lv:Int)(s:ByteArray)(w:World)(hs:s.size≤maxLen) :
  Calls Tryz.prog 91 #[.agg #[.int .i64 dr,.int .i64 dn,.int .i64 sw,.int .i64 sc,.int .i64 sr,.int .i64 k,.int .i64 tr,.int .i64 id,.int .i64 pa,.string s,.int .i64 st,.int .i64 en,.int .i64 lv]] w fun e w'=>e=.returned (.bool (M1.updB dr dn sw sc sr k tr id pa s st en lv))∧Below w.heap.size w w':=by
 by_cases h1:M1.dotOk dr dn=true
 ·by_cases h2:M1.stOk sw sc sr=true
  ·by_cases h3:sr=dr
   ·by_cases h4:M1.inB tr 1 1000=true
    ·have HU:Hid (M1.updB dr dn sw sc sr k tr id pa s st en lv=M1.kindB k id pa s st en lv):=(by unfold M1.updB M1.headB;rw [h1,h2,h4,decide_eq_true h3];rfl:M1.updB dr dn sw sc sr k tr id pa s st en lv=M1.kindB k id pa s st en lv)
     rw [HU.out];clear HU;subst h3;go_enter Tryz.func91,Tryz.ntmps91
     go_wp2_with fail
     refine (l1Dot_any _ _ _).mono ?_;rw [h1];rintro e w1 ⟨rfl,hb1⟩;obtain ⟨hc1,hf1⟩:=bcell hb1;have hs1:=hb1.size;simp at hs1
     have hs1a:w.heap.size<w1.heap.size:=by omega
     have hs1b:w.heap.size+1<w1.heap.size:=by omega
     go_wp2_with fail
     refine (stampOk_spec _ _ _ _).mono ?_;rw [h2];rintro e w2 ⟨rfl,hb2⟩;have hB2:=hb1.trans (hb2.mono hb1.size);clear hc1 hf1;obtain ⟨hc2,hf2⟩:=bcell hB2;have hs2:=hB2.size;simp at hs2
     have hs2a:w.heap.size<w2.heap.size:=by omega
     have hs2b:w.heap.size+1<w2.heap.size:=by omega
     go_wp2_with fail
     refine (l1In_any _ _ _ _).mono ?_;rw [h4];rintro e w3 ⟨rfl,rfl⟩;clear h1 h2 h4 hb1 hb2 hs1 hs1a hs1b;by_cases k1:k=1
     ·subst k1
      go_wp2_with fail
      refine (spanOk_spec _ _ _ _ _ _ hs).mono ?_;rintro e w4 ⟨rfl,hb4⟩;have hB4:=hB2.trans (hb4.mono hB2.size);clear hc2 hf2;obtain ⟨hc4,hf4⟩:=bcell hB4;have hs4:=hB4.size;simp at hs4
      have hs4a:w.heap.size<w4.heap.size:=by omega
      go_wp2_with fail
      all_goals (go_ret)
      all_goals (refine ⟨?_,?_⟩)
      all_goals (first | ((repeat (first | (with_reducible exact Below.refl _ _) | ((with_reducible refine Below.setCell ?_ ?_ _);rotate_left;(focus (first | omega | (simp;done) | (simp;omega)))) | ((with_reducible refine Below.alloc ?_ ?_ _);rotate_left;(focus (first | omega | (simp;done) | (simp;omega)))) | (with_reducible refine Below.drew ?_) | ((with_reducible refine Below.trans ?_ (Below.mono hB4 ?_));rotate_left;(focus (first | omega | (simp;done) | (simp;omega))))));done) | (simp [M1.kindB,M1.zeroB, *];done) | skip)
     ·have b1:(k==1)=false:=by simp [k1]
      by_cases k2:k=2
      ·subst k2
       go_wp2_with fail
       all_goals (go_ret)
       all_goals (refine ⟨?_,?_⟩)
       all_goals (first | ((repeat (first | (with_reducible exact Below.refl _ _) | ((with_reducible refine Below.setCell ?_ ?_ _);rotate_left;(focus (first | omega | (simp;done) | (simp;omega)))) | ((with_reducible refine Below.alloc ?_ ?_ _);rotate_left;(focus (first | omega | (simp;done) | (simp;omega)))) | (with_reducible refine Below.drew ?_) | ((with_reducible refine Below.trans ?_ (Below.mono hB2 ?_));rotate_left;(focus (first | omega | (simp;done) | (simp;omega))))));done) | (simp [M1.kindB,M1.zeroB, *];done) | skip)
      ·have b2:(k==2)=false:=by simp [k2]
       by_cases k3:k=3
       ·subst k3
        go_wp2_with ((go_at_call 27;refine (l1In_any _ _ _ _).mono ?_;rintro e w' ⟨rfl,rfl⟩))
        all_goals (go_ret)
        all_goals (refine ⟨?_,?_⟩)
        all_goals (first | ((repeat (first | (with_reducible exact Below.refl _ _) | ((with_reducible refine Below.setCell ?_ ?_ _);rotate_left;(focus (first | omega | (simp;done) | (simp;omega)))) | ((with_reducible refine Below.alloc ?_ ?_ _);rotate_left;(focus (first | omega | (simp;done) | (simp;omega)))) | (with_reducible refine Below.drew ?_) | ((with_reducible refine Below.trans ?_ (Below.mono hB2 ?_));rotate_left;(focus (first | omega | (simp;done) | (simp;omega))))));done) | (simp [M1.kindB,M1.zeroB, *];done) | skip)
       ·have b3:(k==3)=false:=by simp [k3]
        have HK:Hid (M1.kindB k id pa s st en lv=false):=(by unfold M1.kindB;rw [if_neg k1,if_neg k2,if_neg k3]:M1.kindB k id pa s st en lv=false)
        clear k1 k2 k3;go_wp2_with fail
        go_ret
        refine ⟨by rw [HK.out];rfl,?_⟩;repeat (first | (with_reducible exact Below.refl _ _) | ((with_reducible refine Below.setCell ?_ ?_ _);rotate_left;(focus (first | omega | (simp;done) | (simp;omega)))) | ((with_reducible refine Below.alloc ?_ ?_ _);rotate_left;(focus (first | omega | (simp;done) | (simp;omega)))) | (with_reducible refine Below.drew ?_) | ((with_reducible refine Below.trans ?_ (Below.mono hB2 ?_));rotate_left;(focus (first | omega | (simp;done) | (simp;omega)))))
    ·have HU:Hid (M1.updB dr dn sw sc sr k tr id pa s st en lv=false):=(by unfold M1.updB M1.headB;rw [Bool.eq_false_iff.2 h4];simp:M1.updB dr dn sw sc sr k tr id pa s st en lv=false)
     replace h4:M1.inB tr 1 1000=false:=by simpa using h4
     rw [HU.out];subst h3;go_enter Tryz.func91,Tryz.ntmps91
     go_wp2_with fail
     refine (l1Dot_any _ _ _).mono ?_;rw [h1];rintro e w1 ⟨rfl,hb1⟩;obtain ⟨hc1,hf1⟩:=bcell hb1;have hs1:=hb1.size;simp at hs1
     have hs1a:w.heap.size<w1.heap.size:=by omega
     have hs1b:w.heap.size+1<w1.heap.size:=by omega
     go_wp2_with fail
     refine (stampOk_spec _ _ _ _).mono ?_;rw [h2];rintro e w2 ⟨rfl,hb2⟩;have hB2:=hb1.trans (hb2.mono hb1.size);clear hc1 hf1;obtain ⟨hc2,hf2⟩:=bcell hB2;have hs2:=hB2.size;simp at hs2
     have hs2a:w.heap.size<w2.heap.size:=by omega
     have hs2b:w.heap.size+1<w2.heap.size:=by omega
     go_wp2_with fail
     refine (l1In_any _ _ _ _).mono ?_;rw [h4];rintro e w3 ⟨rfl,rfl⟩;go_wp2_with fail
     go_ret
     refine ⟨rfl,?_⟩;repeat (first | (with_reducible exact Below.refl _ _) | ((with_reducible refine Below.setCell ?_ ?_ _);rotate_left;(focus (first | omega | (simp;done) | (simp;omega)))) | ((with_reducible refine Below.alloc ?_ ?_ _);rotate_left;(focus (first | omega | (simp;done) | (simp;omega)))) | (with_reducible refine Below.drew ?_) | ((with_reducible refine Below.trans ?_ (Below.mono hB2 ?_));rotate_left;(focus (first | omega | (simp;done) | (simp;omega)))))
   ·have HU:Hid (M1.updB dr dn sw sc sr k tr id pa s st en lv=false):=(by unfold M1.updB M1.headB;rw [decide_eq_false h3];simp:M1.updB dr dn sw sc sr k tr id pa s st en lv=false)
    rw [HU.out];have b3:(sr != dr)=true:=by simp [h3]
    clear h3;go_enter Tryz.func91,Tryz.ntmps91
    go_wp2_with fail
    refine (l1Dot_any _ _ _).mono ?_;rw [h1];rintro e w1 ⟨rfl,hb1⟩;obtain ⟨hc1,hf1⟩:=bcell hb1;have hs1:=hb1.size;simp at hs1
    have hs1a:w.heap.size<w1.heap.size:=by omega
    have hs1b:w.heap.size+1<w1.heap.size:=by omega
    go_wp2_with fail
    refine (stampOk_spec _ _ _ _).mono ?_;rw [h2];rintro e w2 ⟨rfl,hb2⟩;have hB2:=hb1.trans (hb2.mono hb1.size);clear hc1 hf1;obtain ⟨hc2,hf2⟩:=bcell hB2;have hs2:=hB2.size;simp at hs2
    have hs2a:w.heap.size<w2.heap.size:=by omega
    have hs2b:w.heap.size+1<w2.heap.size:=by omega
    go_wp2_with fail
    go_ret
    refine ⟨rfl,?_⟩;repeat (first | (with_reducible exact Below.refl _ _) | ((with_reducible refine Below.setCell ?_ ?_ _);rotate_left;(focus (first | omega | (simp;done) | (simp;omega)))) | ((with_reducible refine Below.alloc ?_ ?_ _);rotate_left;(focus (first | omega | (simp;done) | (simp;omega)))) | (with_reducible refine Below.drew ?_) | ((with_reducible refine Below.trans ?_ (Below.mono hB2 ?_));rotate_left;(focus (first | omega | (simp;done) | (simp;omega)))))
  ·have HU:Hid (M1.updB dr dn sw sc sr k tr id pa s st en lv=false):=(by unfold M1.updB M1.headB;rw [Bool.eq_false_iff.2 h2];simp:M1.updB dr dn sw sc sr k tr id pa s st en lv=false)
   replace h2:M1.stOk sw sc sr=false:=by simpa using h2
   rw [HU.out];go_enter Tryz.func91,Tryz.ntmps91
   go_wp2_with fail
   refine (l1Dot_any _ _ _).mono ?_;rw [h1];rintro e w1 ⟨rfl,hb1⟩;obtain ⟨hc1,hf1⟩:=bcell hb1;have hs1:=hb1.size;simp at hs1
   have hs1a:w.heap.size<w1.heap.size:=by omega
   have hs1b:w.heap.size+1<w1.heap.size:=by omega
   go_wp2_with fail
   refine (stampOk_spec _ _ _ _).mono ?_;rw [h2];rintro e w2 ⟨rfl,hb2⟩;have hB2:=hb1.trans (hb2.mono hb1.size);clear hc1 hf1;obtain ⟨hc2,hf2⟩:=bcell hB2;have hs2:=hB2.size;simp at hs2
   have hs2a:w.heap.size<w2.heap.size:=by omega
   have hs2b:w.heap.size+1<w2.heap.size:=by omega
   go_wp2_with fail
   go_ret
   refine ⟨rfl,?_⟩;repeat (first | (with_reducible exact Below.refl _ _) | ((with_reducible refine Below.setCell ?_ ?_ _);rotate_left;(focus (first | omega | (simp;done) | (simp;omega)))) | ((with_reducible refine Below.alloc ?_ ?_ _);rotate_left;(focus (first | omega | (simp;done) | (simp;omega)))) | (with_reducible refine Below.drew ?_) | ((with_reducible refine Below.trans ?_ (Below.mono hB2 ?_));rotate_left;(focus (first | omega | (simp;done) | (simp;omega)))))
 ·have HU:Hid (M1.updB dr dn sw sc sr k tr id pa s st en lv=false):=(by unfold M1.updB M1.headB;rw [Bool.eq_false_iff.2 h1];simp:M1.updB dr dn sw sc sr k tr id pa s st en lv=false)
  replace h1:M1.dotOk dr dn=false:=by simpa using h1
  rw [HU.out];go_enter Tryz.func91,Tryz.ntmps91
  go_wp2_with fail
  refine (l1Dot_any _ _ _).mono ?_;rw [h1];rintro e w1 ⟨rfl,hb1⟩;obtain ⟨hc1,hf1⟩:=bcell hb1;have hs1:=hb1.size;simp at hs1
  have hs1a:w.heap.size<w1.heap.size:=by omega
  have hs1b:w.heap.size+1<w1.heap.size:=by omega
  go_wp2_with fail
  go_ret
  refine ⟨rfl,?_⟩;repeat (first | (with_reducible exact Below.refl _ _) | ((with_reducible refine Below.setCell ?_ ?_ _);rotate_left;(focus (first | omega | (simp;done) | (simp;omega)))) | ((with_reducible refine Below.alloc ?_ ?_ _);rotate_left;(focus (first | omega | (simp;done) | (simp;omega)))) | (with_reducible refine Below.drew ?_) | ((with_reducible refine Below.trans ?_ (Below.mono hb1 ?_));rotate_left;(focus (first | omega | (simp;done) | (simp;omega)))))
end Go.Proofs.YtgcinolbkllkkaaGreat
