/-
  Texts of one proof, joined: TkT, Reg2, Rv4.
-/
import Derived.Test.YtgcinolbkllkkaaGreatZFConverged18
set_option linter.unusedSimpArgs false
set_option linter.unusedVariables false
namespace Go.Proofs.YtgcinolbkllkkaaGreat
open Go.ChangeShapes Go.WideShapes Go.ChangeAt Go.RowKit
set_option maxHeartbeats 32000000 in
set_option maxRecDepth 100000 in
theorem taken_spec (av bv:Option Addr)(n cn m cm:Nat)(xs ys:List M1.Upd)(w:World)(h1:IsUpds w av n cn xs)(h2:IsUpds w bv m cm ys) :
  Calls Tryz.prog 166 #[.slice av n cn,.slice bv m cm] w fun e w'=>Jd w w' e (M1.tL xs ys) (M1.tOk xs ys)∧Below w.heap.size w w':=by
 have hl2:Hid (ys.length=m):=h2.hlen;have hm3:=h2.hcap;have hm4:=h2.hmost;unfold maxLen at hm4;by_cases hs1:M1.setOk xs=true
 ·by_cases hm60:m≤60
  ·have hgt:decide ((60:Int)<(m:Int))=false:=decide_eq_false (by omega)
   have hgt2:decide (60<m)=false:=decide_eq_false (by omega);have HS:Hid (M1.setOk xs=true):=hs1;have h60:Hid (ys.length≤60):=(by have:=hl2.out;omega:ys.length≤60)
   go_enter Tryz.func166,Tryz.ntmps166
   go_wp2_with fail
   refine (setOk_spec _ _ _ _ _ h1).mono ?_;rw [hs1];rintro e w1 ⟨rfl,hb1⟩;clear hs1;go_wp2_with fail
   go_loopw [6] (fun i wr=>∃ k:Nat,k≤m∧i=.int .i64 k∧Below w.heap.size w wr∧Hid (∀ j,j<k→M1.okU (M1.up ys j)=true)) (fun i _=>m-(intOf i).toNat)
   case atStart=>exact ⟨0,Nat.zero_le _,rfl,hb1,fun j hj=>absurd hj (Nat.not_lt_zero _)⟩
   case round =>
    clear hb1;obtain ⟨k,hk,rfl,hB,hall⟩:=hrel;by_cases hlt:k<m
    ·have g1:=h2.below hB
     rcases g1.hlies with h0 | ⟨b,off,rfl,hb,hc⟩
     ·omega
     obtain ⟨c0,c1,c2,c3,c4,c5,c6,c7,c8,c9,c10,c11,c12⟩:=hc k hlt;have hs:=h2.htxt k hlt;have i0:(0:Int)≤(k:Int):=by omega
     have i1:(k:Int)<(m:Int):=by omega
     clear hc g1;by_cases hu:M1.okU (M1.up ys k)=true
     ·have hok:M1.updB (M1.up ys k).dr (M1.up ys k).dn (M1.up ys k).sw (M1.up ys k).sc (M1.up ys k).sr (M1.up ys k).k (M1.up ys k).tr (M1.up ys k).id (M1.up ys k).pa (M1.up ys k).s (M1.up ys k).st (M1.up ys k).en (M1.up ys k).lv=true:=hu
      have HQ:Hid (∀ j,j<k+1→M1.okU (M1.up ys j)=true):=fun j hj=>by
       by_cases e:j=k
       ·rw [e];exact hu
       ·exact hall.out j (by omega)
      clear hall hu;go_wp2_with fail
      refine (updateOk_spec _ _ _ _ _ _ _ _ _ _ _ _ _ _ hs).mono ?_;rw [hok];rintro e w2 ⟨rfl,hb2⟩;have hB1:Below w.heap.size w w2:=hB.trans (hb2.mono hB.size);go_wp2_with fail
      exact ⟨⟨k+1,by omega,by go_num,hB1,HQ⟩,by simp [intOf];omega⟩
     ·replace hu:M1.okU (M1.up ys k)=false:=by simpa using hu
      have hok:M1.updB (M1.up ys k).dr (M1.up ys k).dn (M1.up ys k).sw (M1.up ys k).sc (M1.up ys k).sr (M1.up ys k).k (M1.up ys k).tr (M1.up ys k).id (M1.up ys k).pa (M1.up ys k).s (M1.up ys k).st (M1.up ys k).en (M1.up ys k).lv=false:=hu;have HQ:Hid (M1.tpre xs ys=false):=(by simp [M1.tpre,M1.allR_no (j:=k) (by rw [hl2.out];exact hlt) hu]:M1.tpre xs ys=false)
      clear hall hu;go_wp2_with fail
      refine (updateOk_spec _ _ _ _ _ _ _ _ _ _ _ _ _ _ hs).mono ?_;rw [hok];rintro e w2 ⟨rfl,hb2⟩;have hB1:Below w.heap.size w w2:=hB.trans (hb2.mono hB.size);go_wp2_with fail
      have q:=M1.t_no HQ.out;refine bodyPost_ret (v:=.tuple #[.slice none 0 0,.bool false]) (by simp [results,Tryz.results166,go_sem]) rfl ⟨?_,hB1⟩;rw [q.1,q.2];exact jd_nil _ _
    ·have HP:Hid (M1.tpre xs ys=true):=(by simp [M1.tpre,HS.out,h60.out,M1.allR_yes (ys:=ys) fun j hj=>hall.out j (by have:=hl2.out;omega)]:M1.tpre xs ys=true)
     clear hall;go_wp2_with fail
     refine (l3Taken_any _ _ _ _ _ _ _ _ _ (h1.below hB) (h2.below hB) HP).mono ?_;obtain ⟨okb,hok⟩:∃ q,Hid (M1.setOk (M1.tO xs ys)=q):=⟨_,rfl⟩
     rw [hok.out];rintro e w4 ⟨⟨a,c,rfl,mu4⟩,hb4⟩;have hB4:=hB.trans (hb4.mono hB.size);have hsz:=hB.size
     cases okb with
     | true =>
      have q:=M1.t_yes HP.out hok.out;have Q1:Hid (M1.tOk xs ys=true):=q.1;have Q2:Hid (M1.tL xs ys=M1.tO xs ys):=q.2;clear q;go_wp2_with fail
      refine bodyPost_ret (v:=.tuple #[.slice a (M1.tO xs ys).length c,.bool true]) (by simp [results,Tryz.results166,go_sem]) rfl ⟨?_,hB4⟩;rw [Q1.out,Q2.out];exact ⟨a,c,rfl,mu4.widen hsz (Nat.le_refl _)⟩
     | false =>
      have q:=M1.t_not hok.out;have Q1:Hid (M1.tOk xs ys=false):=q.1;have Q2:Hid (M1.tL xs ys=[]):=q.2;clear q;go_wp2_with fail
      refine bodyPost_ret (v:=.tuple #[.slice none 0 0,.bool false]) (by simp [results,Tryz.results166,go_sem]) rfl ⟨?_,hB4⟩;rw [Q1.out,Q2.out];exact jd_nil _ _
  ·have hgt:decide ((60:Int)<(m:Int))=true:=decide_eq_true (by omega)
   have hgt2:decide (60<m)=true:=decide_eq_true (by omega);have hp:M1.tpre xs ys=false:=by
    have:¬ys.length≤60:=by have:=hl2.out;omega
    simp [M1.tpre,this]
   have q:=M1.t_no hp;rw [q.1,q.2];go_enter Tryz.func166,Tryz.ntmps166
   go_wp2_with fail
   refine (setOk_spec _ _ _ _ _ h1).mono ?_;rw [hs1];rintro e w1 ⟨rfl,hb1⟩;go_wp2_with fail
   exact bodyPost_ret (v:=.tuple #[.slice none 0 0,.bool false]) (by simp [results,Tryz.results166,go_sem]) rfl ⟨jd_nil _ _,hb1⟩
 ·replace hs1:M1.setOk xs=false:=by simpa using hs1
  have hp:M1.tpre xs ys=false:=by simp [M1.tpre,hs1]
  have q:=M1.t_no hp;rw [q.1,q.2];go_enter Tryz.func166,Tryz.ntmps166
  go_wp2_with fail
  refine (setOk_spec _ _ _ _ _ h1).mono ?_;rw [hs1];rintro e w1 ⟨rfl,hb1⟩;go_wp2_with fail
  exact bodyPost_ret (v:=.tuple #[.slice none 0 0,.bool false]) (by simp [results,Tryz.results166,go_sem]) rfl ⟨jd_nil _ _,hb1⟩
set_option maxHeartbeats 32000000 in
theorem regionOk_spec (id a b c:Int)(av:Option Addr)(n cn:Nat)(us:List M1.Upd)(w:World)(h1:IsUpds w av n cn us) :
  Calls Tryz.prog 28 #[.agg #[.int .i64 id,.int .i64 a,.int .i64 b,.int .i64 c,.slice av n cn]] w fun e w'=>e=.returned (.bool (M1.regOk id a b c us))∧Below w.heap.size w w':=by
 have hl1:Hid (us.length=n):=h1.hlen;have hm1:=h1.hcap;have hm2:=h1.hmost;unfold maxLen at hm2;by_cases q1:M1.inB id 1 5=true
 ·by_cases q2:M1.stOk a b c=true
  ·by_cases q3:c=id
   ·by_cases q4:M1.setOk us=true
    ·rw [M1.regOk_5 q1 q2 q3 q4]
     have q3b:(c != id)=false:=by simp [q3]
     clear q3;go_enter Tryz.func28,Tryz.ntmps28
     go_wp2_with fail
     refine (l1In_any _ _ _ _).mono ?_;rw [q1];rintro e w0 ⟨rfl,rfl⟩;go_wp2_with fail
     refine (stampOk_spec _ _ _ _).mono ?_;rw [q2];rintro e w1 ⟨rfl,hb1⟩;obtain ⟨hc1,hf1⟩:=bcell hb1;have hs1:=hb1.size;simp at hs1
     have hs1a:w.heap.size<w1.heap.size:=by omega
     have hB1:Below w.heap.size w w1:=by repeat (first | (with_reducible exact Below.refl _ _) | ((with_reducible refine Below.setCell ?_ ?_ _);rotate_left;(focus (first | omega | (simp;done) | (simp;omega)))) | ((with_reducible refine Below.alloc ?_ ?_ _);rotate_left;(focus (first | omega | (simp;done) | (simp;omega)))) | (with_reducible refine Below.drew ?_) | ((with_reducible refine Below.trans ?_ (Below.mono hb1 ?_));rotate_left;(focus (first | omega | (simp;done) | (simp;omega)))))
     go_wp2_with fail
     refine (setOk_spec _ _ _ _ _ (h1.below hB1)).mono ?_;rw [q4];rintro e w2 ⟨rfl,hb2⟩;have hB2:=hb1.trans (hb2.mono hb1.size);clear hc1 hf1;obtain ⟨hc2,hf2⟩:=bcell hB2;have hs2:=hB2.size;simp at hs2
     have hs2a:w.heap.size<w2.heap.size:=by omega
     have hB2':Below w.heap.size w w2:=by repeat (first | (with_reducible exact Below.refl _ _) | ((with_reducible refine Below.setCell ?_ ?_ _);rotate_left;(focus (first | omega | (simp;done) | (simp;omega)))) | ((with_reducible refine Below.alloc ?_ ?_ _);rotate_left;(focus (first | omega | (simp;done) | (simp;omega)))) | (with_reducible refine Below.drew ?_) | ((with_reducible refine Below.trans ?_ (Below.mono hB2 ?_));rotate_left;(focus (first | omega | (simp;done) | (simp;omega)))))
     go_wp2_with fail
     go_loopw [3] (fun i wr=>∃ k:Nat,k≤n∧i=.int .i64 k∧Below (w.alloc (.cells #[.int .i64 id,.int .i64 a,.int .i64 b,.int .i64 c,.slice av n cn] 34)).heap.size (w.alloc (.cells #[.int .i64 id,.int .i64 a,.int .i64 b,.int .i64 c,.slice av n cn] 34)) wr∧Hid (∀ j,j<k→M1.laterB (M1.up us j).sw (M1.up us j).sc a b=false)) (fun i _=>n-(intOf i).toNat)
     case atStart=>exact ⟨0,Nat.zero_le _,rfl,hB2,fun j hj=>absurd hj (Nat.not_lt_zero _)⟩
     case round =>
      clear hc2 hf2;obtain ⟨k,hk,rfl,hB,hall⟩:=hrel;obtain ⟨hcr,hfr⟩:=bcell hB;have hsr:=hB.size;simp at hsr
      have hsra:w.heap.size<wr.heap.size:=by omega
      have hBw:Below w.heap.size w wr:=by repeat (first | (with_reducible exact Below.refl _ _) | ((with_reducible refine Below.setCell ?_ ?_ _);rotate_left;(focus (first | omega | (simp;done) | (simp;omega)))) | ((with_reducible refine Below.alloc ?_ ?_ _);rotate_left;(focus (first | omega | (simp;done) | (simp;omega)))) | (with_reducible refine Below.drew ?_) | ((with_reducible refine Below.trans ?_ (Below.mono hB ?_));rotate_left;(focus (first | omega | (simp;done) | (simp;omega)))))
      by_cases hlt:k<n
      ·have g1:=h1.below hBw
       rcases g1.hlies with h0 | ⟨bb,off,rfl,hbb,hcc⟩
       ·omega
       obtain ⟨c0,c1,c2,c3,c4,c5,c6,c7,c8,c9,c10,c11,c12⟩:=hcc k hlt;clear hcc g1;have i0:(0:Int)≤(k:Int):=by omega
       have i1:(k:Int)<(n:Int):=by omega
       by_cases p1:a<(M1.up us k).sw
       ·have hq:M1.laterB (M1.up us k).sw (M1.up us k).sc a b=true:=by simp [M1.laterB,p1]
        have HQ:Hid (M1.noneLater us a b=false):=M1.noneLater_no (j:=k) (by have:=hl1.out;omega) hq;clear hall hq;go_wp2_with fail
        go_ret
        refine ⟨by rw [HQ.out];rfl,?_⟩;repeat (first | (with_reducible exact Below.refl _ _) | ((with_reducible refine Below.setCell ?_ ?_ _);rotate_left;(focus (first | omega | (simp;done) | (simp;omega)))) | ((with_reducible refine Below.alloc ?_ ?_ _);rotate_left;(focus (first | omega | (simp;done) | (simp;omega)))) | (with_reducible refine Below.drew ?_) | ((with_reducible refine Below.trans ?_ (Below.mono hB ?_));rotate_left;(focus (first | omega | (simp;done) | (simp;omega)))))
       ·have p1b:decide (a<(M1.up us k).sw)=false:=decide_eq_false p1
        by_cases p2:(M1.up us k).sw=a
        ·have p2b:((M1.up us k).sw==a)=true:=by simp [p2]
         by_cases p3:b<(M1.up us k).sc
         ·have hq:M1.laterB (M1.up us k).sw (M1.up us k).sc a b=true:=by simp [M1.laterB,p2,p3]
          clear p2 p1;have HQ:Hid (M1.noneLater us a b=false):=M1.noneLater_no (j:=k) (by have:=hl1.out;omega) hq;clear hall hq;go_wp2_with fail
          go_ret
          refine ⟨by rw [HQ.out];rfl,?_⟩;repeat (first | (with_reducible exact Below.refl _ _) | ((with_reducible refine Below.setCell ?_ ?_ _);rotate_left;(focus (first | omega | (simp;done) | (simp;omega)))) | ((with_reducible refine Below.alloc ?_ ?_ _);rotate_left;(focus (first | omega | (simp;done) | (simp;omega)))) | (with_reducible refine Below.drew ?_) | ((with_reducible refine Below.trans ?_ (Below.mono hB ?_));rotate_left;(focus (first | omega | (simp;done) | (simp;omega)))))
         ·have hq:M1.laterB (M1.up us k).sw (M1.up us k).sc a b=false:=by simp [M1.laterB,p2,p3] <;> omega
          have p3b:decide (b<(M1.up us k).sc)=false:=decide_eq_false p3;clear p1 p2 p3;have HQ:Hid (∀ j,j<k+1→M1.laterB (M1.up us j).sw (M1.up us j).sc a b=false):=fun j hj=>by
           by_cases e:j=k
           ·rw [e];exact hq
           ·exact hall.out j (by omega)
          clear hall hq;go_wp2_with fail
          refine ⟨⟨k+1,by omega,by go_num,?_,HQ⟩,by simp [intOf];omega⟩;repeat (first | (with_reducible exact Below.refl _ _) | ((with_reducible refine Below.setCell ?_ ?_ _);rotate_left;(focus (first | omega | (simp;done) | (simp;omega)))) | ((with_reducible refine Below.alloc ?_ ?_ _);rotate_left;(focus (first | omega | (simp;done) | (simp;omega)))) | (with_reducible refine Below.drew ?_) | ((with_reducible refine Below.trans ?_ (Below.mono hB ?_));rotate_left;(focus (first | omega | (simp;done) | (simp;omega)))))
        ·have hq:M1.laterB (M1.up us k).sw (M1.up us k).sc a b=false:=by simp [M1.laterB,p2] <;> omega
         have p2b:((M1.up us k).sw==a)=false:=by simp [p2]
         clear p1 p2;have HQ:Hid (∀ j,j<k+1→M1.laterB (M1.up us j).sw (M1.up us j).sc a b=false):=fun j hj=>by
          by_cases e:j=k
          ·rw [e];exact hq
          ·exact hall.out j (by omega)
         clear hall hq;go_wp2_with fail
         refine ⟨⟨k+1,by omega,by go_num,?_,HQ⟩,by simp [intOf];omega⟩;repeat (first | (with_reducible exact Below.refl _ _) | ((with_reducible refine Below.setCell ?_ ?_ _);rotate_left;(focus (first | omega | (simp;done) | (simp;omega)))) | ((with_reducible refine Below.alloc ?_ ?_ _);rotate_left;(focus (first | omega | (simp;done) | (simp;omega)))) | (with_reducible refine Below.drew ?_) | ((with_reducible refine Below.trans ?_ (Below.mono hB ?_));rotate_left;(focus (first | omega | (simp;done) | (simp;omega)))))
      ·have HQ:Hid (M1.noneLater us a b=true):=M1.noneLater_yes (fun j hj=>hall.out j (by have:=hl1.out;omega))
       clear hall;go_wp2_with fail
       go_ret
       refine ⟨by rw [HQ.out];rfl,?_⟩;repeat (first | (with_reducible exact Below.refl _ _) | ((with_reducible refine Below.setCell ?_ ?_ _);rotate_left;(focus (first | omega | (simp;done) | (simp;omega)))) | ((with_reducible refine Below.alloc ?_ ?_ _);rotate_left;(focus (first | omega | (simp;done) | (simp;omega)))) | (with_reducible refine Below.drew ?_) | ((with_reducible refine Below.trans ?_ (Below.mono hB ?_));rotate_left;(focus (first | omega | (simp;done) | (simp;omega)))))
    ·replace q4:M1.setOk us=false:=by simpa using q4
     rw [M1.regOk_4 q4];have q3b:(c != id)=false:=by simp [q3]
     clear q3;go_enter Tryz.func28,Tryz.ntmps28
     go_wp2_with fail
     refine (l1In_any _ _ _ _).mono ?_;rw [q1];rintro e w0 ⟨rfl,rfl⟩;go_wp2_with fail
     refine (stampOk_spec _ _ _ _).mono ?_;rw [q2];rintro e w1 ⟨rfl,hb1⟩;obtain ⟨hc1,hf1⟩:=bcell hb1;have hs1:=hb1.size;simp at hs1
     have hs1a:w.heap.size<w1.heap.size:=by omega
     have hB1:Below w.heap.size w w1:=by repeat (first | (with_reducible exact Below.refl _ _) | ((with_reducible refine Below.setCell ?_ ?_ _);rotate_left;(focus (first | omega | (simp;done) | (simp;omega)))) | ((with_reducible refine Below.alloc ?_ ?_ _);rotate_left;(focus (first | omega | (simp;done) | (simp;omega)))) | (with_reducible refine Below.drew ?_) | ((with_reducible refine Below.trans ?_ (Below.mono hb1 ?_));rotate_left;(focus (first | omega | (simp;done) | (simp;omega)))))
     go_wp2_with fail
     refine (setOk_spec _ _ _ _ _ (h1.below hB1)).mono ?_;rw [q4];rintro e w2 ⟨rfl,hb2⟩;have hB2:=hb1.trans (hb2.mono hb1.size);clear hc1 hf1;obtain ⟨hc2,hf2⟩:=bcell hB2;have hs2:=hB2.size;simp at hs2
     have hs2a:w.heap.size<w2.heap.size:=by omega
     have hB2':Below w.heap.size w w2:=by repeat (first | (with_reducible exact Below.refl _ _) | ((with_reducible refine Below.setCell ?_ ?_ _);rotate_left;(focus (first | omega | (simp;done) | (simp;omega)))) | ((with_reducible refine Below.alloc ?_ ?_ _);rotate_left;(focus (first | omega | (simp;done) | (simp;omega)))) | (with_reducible refine Below.drew ?_) | ((with_reducible refine Below.trans ?_ (Below.mono hB2 ?_));rotate_left;(focus (first | omega | (simp;done) | (simp;omega)))))
     go_wp2_with fail
     go_ret
     refine ⟨rfl,?_⟩;exact hB2'
   ·have q3b:(c != id)=true:=by simp [q3]
    rw [M1.regOk_3 q3];clear q3;go_enter Tryz.func28,Tryz.ntmps28
    go_wp2_with fail
    refine (l1In_any _ _ _ _).mono ?_;rw [q1];rintro e w0 ⟨rfl,rfl⟩;go_wp2_with fail
    refine (stampOk_spec _ _ _ _).mono ?_;rw [q2];rintro e w1 ⟨rfl,hb1⟩;obtain ⟨hc1,hf1⟩:=bcell hb1;have hs1:=hb1.size;simp at hs1
    have hs1a:w.heap.size<w1.heap.size:=by omega
    have hB1:Below w.heap.size w w1:=by repeat (first | (with_reducible exact Below.refl _ _) | ((with_reducible refine Below.setCell ?_ ?_ _);rotate_left;(focus (first | omega | (simp;done) | (simp;omega)))) | ((with_reducible refine Below.alloc ?_ ?_ _);rotate_left;(focus (first | omega | (simp;done) | (simp;omega)))) | (with_reducible refine Below.drew ?_) | ((with_reducible refine Below.trans ?_ (Below.mono hb1 ?_));rotate_left;(focus (first | omega | (simp;done) | (simp;omega)))))
    go_wp2_with fail
    go_ret
    refine ⟨rfl,?_⟩;exact hB1
  ·replace q2:M1.stOk a b c=false:=by simpa using q2
   rw [M1.regOk_2 q2];go_enter Tryz.func28,Tryz.ntmps28
   go_wp2_with fail
   refine (l1In_any _ _ _ _).mono ?_;rw [q1];rintro e w0 ⟨rfl,rfl⟩;go_wp2_with fail
   refine (stampOk_spec _ _ _ _).mono ?_;rw [q2];rintro e w1 ⟨rfl,hb1⟩;obtain ⟨hc1,hf1⟩:=bcell hb1;have hs1:=hb1.size;simp at hs1
   have hs1a:w.heap.size<w1.heap.size:=by omega
   have hB1:Below w.heap.size w w1:=by repeat (first | (with_reducible exact Below.refl _ _) | ((with_reducible refine Below.setCell ?_ ?_ _);rotate_left;(focus (first | omega | (simp;done) | (simp;omega)))) | ((with_reducible refine Below.alloc ?_ ?_ _);rotate_left;(focus (first | omega | (simp;done) | (simp;omega)))) | (with_reducible refine Below.drew ?_) | ((with_reducible refine Below.trans ?_ (Below.mono hb1 ?_));rotate_left;(focus (first | omega | (simp;done) | (simp;omega)))))
   go_wp2_with fail
   go_ret
   refine ⟨rfl,?_⟩;exact hB1
 ·replace q1:M1.inB id 1 5=false:=by simpa using q1
  rw [M1.regOk_1 q1];go_enter Tryz.func28,Tryz.ntmps28
  go_wp2_with fail
  refine (l1In_any _ _ _ _).mono ?_;rw [q1];rintro e w0 ⟨rfl,rfl⟩;go_wp2_with fail
  go_ret
  refine ⟨rfl,?_⟩;exact bZ
set_option maxHeartbeats 32000000 in
set_option maxRecDepth 100000 in
theorem l5Copy_any (id a b c:Int)(us:List M1.Upd)(av:Option Addr)(n cn:Nat)(w:World)(hU:IsUpds w av n cn us)(hn:n≤500000) :
  Calls Tryz.prog 139 #[.agg #[.int .i64 id,.int .i64 a,.int .i64 b,.int .i64 c,.slice av n cn]] w fun e w'=>(∃ v2 c2,e=.returned (.agg #[.int .i64 id,.int .i64 a,.int .i64 b,.int .i64 c,.slice v2 n c2])∧MU w' v2 n c2 w.heap.size w'.heap.size (ucell us))∧Below w.heap.size w w':=by
 have hln:Hid (us.length=n):=hU.hlen;have hA:Below w.heap.size w ((w.alloc (.cells #[.int .i64 id,.int .i64 a,.int .i64 b,.int .i64 c,.slice av n cn] 34)).alloc (.cells #[.int .i64 0,.int .i64 0,.int .i64 0,.int .i64 0,.slice none 0 0] 34)):=((Below.refl _ _).alloc (Nat.le_refl _) _).alloc (by simp) _;have P0:RgAt ((w.alloc (.cells #[.int .i64 id,.int .i64 a,.int .i64 b,.int .i64 c,.slice av n cn] 34)).alloc (.cells #[.int .i64 0,.int .i64 0,.int .i64 0,.int .i64 0,.slice none 0 0] 34)) w.heap.size id a b c av n cn:=(rg_new w id a b c av n cn 34).alloc _;have z0:=rg_new (w.alloc (.cells #[.int .i64 id,.int .i64 a,.int .i64 b,.int .i64 c,.slice av n cn] 34)) 0 0 0 0 none 0 0 34;simp only [World.size_alloc] at z0;go_enter Tryz.func139,Tryz.ntmps139
 go_upto_region 1 with fail
 obtain ⟨W0,hW0⟩:∃ W,(w.alloc (.cells #[.int .i64 id,.int .i64 a,.int .i64 b,.int .i64 c,.slice av n cn] 34)).alloc (.cells #[.int .i64 0,.int .i64 0,.int .i64 0,.int .i64 0,.slice none 0 0] 34)=W:=⟨_,rfl⟩
 rw [hW0] at hA P0 z0 ⊢;clear hW0;obtain ⟨p,hp⟩:∃ p,Hid (w.heap.size=p):=⟨_,rfl⟩
 obtain ⟨z,hz⟩:∃ z,Hid (w.heap.size+1=z):=⟨_,rfl⟩
 have hzw:w.heap.size≤z:=by have:=hz.out;omega
 have hpw:w.heap.size≤p:=by have:=hp.out;omega
 have hpz:¬p=z:=by have:=hp.out;have:=hz.out;omega
 rw [hz.out] at z0 ⊢;rw [hp.out] at P0 ⊢;have own0:=ownsU_empty W0 72;have hA1:Below W0.heap.size W0 (W0.alloc (.cells #[] 72)):=(Below.refl _ _).alloc (Nat.le_refl _) _;obtain ⟨d0,d1,d2,d3,d4⟩:=P0.cells;have pl:=P0.lt;have zl:=z0.lt;have hU1:=(hU.below hA).below hA1;go_upto_region 2 with (at_builtin;refine wpList_appU (by rfl) _ _ rfl W0.heap.size _ _ 0 [] rfl rfl own0 _ _ _ us rfl hU1 (by omega) (by simp) ?_;intro a2 c2 w2 own2 hb2;have B02:Below W0.heap.size W0 w2:=hA1.trans hb2;have P2:RgAt w2 p id a b c av n cn:=P0.below B02;obtain ⟨f0,f1,f2,f3,f4⟩:=P2.frees;obtain ⟨g0,g1,g2,g3,g4⟩:=P2.cells;have pl2:=P2.lt)
 have P3:RgAt (w2.setCell ⟨p,4,none⟩ (.slice a2 n c2)) p id a b c a2 n c2:=rg_set P2 _ _ _;have z2:RgAt w2 z 0 0 0 0 none 0 0:=z0.below B02;have z3:RgAt (w2.setCell ⟨p,4,none⟩ (.slice a2 n c2)) z 0 0 0 0 none 0 0:=z2.far (p:=⟨p,4,none⟩) hpz _;have hmu:MU w2 a2 n c2 W0.heap.size w2.heap.size (ucell us):=by
  have hl2:us.length=n:=hln.out;have own3:w2.ownsRow W0.heap.size 72 13 (.slice a2 us.length c2) us.length (ucL us):=by
   have:=own2;rw [Nat.zero_add,List.nil_append] at this;rw [hl2];exact this
  obtain ⟨v9,c9,e9,m9⟩:=MU.of_owns own3;injection e9 with e9 _ e10;rw [←hl2,e9,e10];exact m9
 have hzq:∀ q,a2=some q→¬q.block=z:=fun q hq=>by
  rcases hmu.2.2 with ⟨_,e⟩ | ⟨g,e,h1,_,_⟩
  ·rw [e] at hq;cases hq
  ·rw [e] at hq;cases hq;show ¬g=z;omega
 have hpq:∀ q,a2=some q→¬q.block=p:=fun q hq=>by
  rcases hmu.2.2 with ⟨_,e⟩ | ⟨g,e,h1,_,_⟩
  ·rw [e] at hq;cases hq
  ·rw [e] at hq;cases hq;show ¬g=p;omega
 have mu3:MU (w2.setCell ⟨p,4,none⟩ (.slice a2 n c2)) a2 n c2 W0.heap.size (w2.setCell ⟨p,4,none⟩ (.slice a2 n c2)).heap.size (ucell us):=by
  have e:(w2.setCell ⟨p,4,none⟩ (.slice a2 n c2)).heap.size=w2.heap.size:=by simp [World.setCell]
  rw [e];exact mu_far (p:=⟨p,4,none⟩) hmu hpq _
 have B3:Below w.heap.size w (w2.setCell ⟨p,4,none⟩ (.slice a2 n c2)):=(hA.trans (B02.mono hA.size)).setCell (p:=⟨p,4,none⟩) hpw _;obtain ⟨W3,hW3⟩:∃ W,w2.setCell ⟨p,4,none⟩ (.slice a2 n c2)=W:=⟨_,rfl⟩
 rw [hW3] at P3 z3 mu3 B3 ⊢;clear hW3 f0 f1 f2 f3 f4 g0 g1 g2 g3 g4 d0 d1 d2 d3 d4 P2 z2 pl2;obtain ⟨d0,d1,d2,d3,d4⟩:=P3.cells;have pl3:=P3.lt;obtain ⟨f0,f1,f2,f3,f4⟩:=z3.frees;obtain ⟨e0,e1,e2,e3,e4⟩:=z3.cells;have zl3:=z3.lt;have zf:=z3.put id a b c a2 n c2;have hBz:=bel_put5 B3 hzw (.int .i64 id) (.int .i64 a) (.int .i64 b) (.int .i64 c) (.slice a2 n c2);have hmz:=mu_put5 mu3 hzq (.int .i64 id) (.int .i64 a) (.int .i64 b) (.int .i64 c) (.slice a2 n c2);go_wp2_with fail
 obtain ⟨Wz,hWz⟩:∃ W,((((W3.setCell ⟨z,0,none⟩ (.int .i64 id)).setCell ⟨z,1,none⟩ (.int .i64 a)).setCell ⟨z,2,none⟩ (.int .i64 b)).setCell ⟨z,3,none⟩ (.int .i64 c)).setCell ⟨z,4,none⟩ (.slice a2 n c2)=W:=⟨_,rfl⟩
 rw [hWz] at zf hBz hmz ⊢;clear hWz f0 f1 f2 f3 f4 e0 e1 e2 e3 e4;obtain ⟨v0,v1,v2,v3,v4⟩:=zf.cells;have hs0:=hA.size;refine bodyPost_ret (v:=.agg #[.int .i64 id,.int .i64 a,.int .i64 b,.int .i64 c,.slice a2 n c2]) (by simp [results,Tryz.results139,go_sem,v0,v1,v2,v3,v4]) rfl ?_;exact ⟨⟨a2,c2,rfl,⟨hmz.1,hmz.2.1,hmz.2.2.imp (fun h=>h) fun ⟨g,e,h1,h2,r⟩=>⟨g,e,by omega,h2,r⟩⟩⟩,hBz⟩
end Go.Proofs.YtgcinolbkllkkaaGreat
