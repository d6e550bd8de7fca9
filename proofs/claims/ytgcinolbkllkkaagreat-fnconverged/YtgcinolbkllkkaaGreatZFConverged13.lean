/-
  Texts of one proof, joined: VecOkSpec, VecFrom.
-/
import Derived.Test.YtgcinolbkllkkaaGreatZFConverged01
set_option linter.unusedSimpArgs false
set_option linter.unusedVariables false
namespace Go.Proofs.YtgcinolbkllkkaaGreat
open Go.ChangeShapes Go.WideShapes Go.ChangeAt Go.RowKit
set_option maxHeartbeats 8000000 in
theorem vecOk_spec (av:Option Addr)(n cn:Nat)(ds:List (Int × Int))(w:World)(h1:IsVec w av n cn ds) :
  Calls Tryz.prog 61 #[.slice av n cn] w fun e w'=>e=.returned (.bool (M1.vecOk ds))∧Below w.heap.size w w':=by
 have hl1:Hid (ds.length=n):=h1.hlen;have hm1:=h1.hcap;have hm2:=h1.hmost;unfold maxLen at hm2;go_enter Tryz.func61,Tryz.ntmps61
 go_wp2
 go_loopw [3] (fun i wr=>∃ k:Nat,k≤n∧i=.int .i64 k∧Below w.heap.size w wr∧Hid (∀ j,j<k→M1.vokAt ds j=true)) (fun i _=>n-(intOf i).toNat)
 case atStart=>exact ⟨0,Nat.zero_le _,rfl,Below.refl _ _,fun j hj=>absurd hj (Nat.not_lt_zero _)⟩
 case round =>
  obtain ⟨k,hk,rfl,hB,hall⟩:=hrel;by_cases hlt:k<n
  ·have g1:=h1.below hB
   rcases g1.hlies with h0 | ⟨b,off,rfl,hb,hc⟩
   ·omega
   obtain ⟨c1,c2⟩:=hc k hlt;have i0:(0:Int)≤(k:Int):=by omega
   have i1:(k:Int)<(n:Int):=by omega
   by_cases hd:M1.dotOk (M1.rg ds k) (M1.nm ds k)=true
   ·have hd':=hd
    by_cases hk0:k=0
    ·have HQ:Hid (∀ j,j<k+1→M1.vokAt ds j=true):=fun j hj=>by
      have e:j=k:=by omega
      rw [e];simp [M1.vokAt,hd];exact Or.inl hk0
     have hkb:decide ((0:Int)<(k:Int))=false:=by simp;omega
     have hkb2:decide (0<k)=false:=by simp;omega
     clear hc g1 hall hd hk0;go_wp2_with fail
     refine wp_region_held_drew (S:=fun w'=>Kp wr w') (by kernel_rfl) ?_ (fun zH=>?_)
     ·exact kp_zero _
     refine uZ 0 ?_;simp only[pZ,zZ];refine uZ 1 ?_;simp only[pZ,zZ];refine uZ 2 ?_;simp only[pZ,zZ];refine uZ 3 ?_;simp only[pZ,zZ];refine sZ 4 fun K hK=>?_;go_simp
     (refine (l1Dot_any _ _ _).mono ?_;rw [hd'];rintro e w' ⟨rfl,hb⟩;go_wp2_with fail)
     refine hK.out _ _ ?_ (fun zH2=>?_)
     ·exact kp_step zH hb
     clear hK K zH;have zH:=zH2;clear zH2;(try simp only[pZ,zZ]);refine uZ 5 ?_;simp only[pZ,zZ];refine uZ 6 ?_;simp only[pZ,zZ];refine uZ 7 ?_;simp only[pZ,zZ];refine uZ 8 ?_;simp only[pZ,zZ];refine uZ 9 ?_;simp only[pZ,zZ];refine vZ 10 ?_;simp only[pZ,zZ];refine vZ 11 ?_;simp only[pZ,zZ];refine vZ 12 ?_;simp only[pZ,zZ];refine vZ 13 ?_;simp only[pZ,zZ];refine vZ 14 ?_;simp only[pZ,zZ];refine vZ 15 ?_;simp only[pZ,zZ];refine vZ 16 ?_;simp only[pZ,zZ];refine vZ 17 ?_;simp only[pZ,zZ];refine vZ 18 ?_;simp only[pZ,zZ];refine vZ 19 ?_;simp only[pZ,zZ];refine vZ 20 ?_;simp only[pZ,zZ];refine vZ 21 ?_;simp only[pZ,zZ];refine uZ 22 ?_;simp only[pZ,zZ];refine uZ 23 ?_;simp only[pZ,zZ];refine dZ ?_;have hB':=hB.trans (zH.1.mono hB.size);go_wp2_with fail
     exact ⟨⟨k+1,by omega,by go_num,hB',HQ⟩,by simp [intOf];omega⟩
    ·have c3:wr.cell? ⟨b,off+(k-1)*2,none⟩=some (.int .i64 (M1.rg ds (k-1))):=(hc (k-1) (by omega)).1
     have i6:(1:Int)≤(k:Int):=by omega
     have i2:(0:Int)<(k:Int):=by omega
     have hkb:decide ((0:Int)<(k:Int))=true:=by simp;omega
     have hkb2:decide (0<k)=true:=by simp;omega
     have i3:(0:Int)≤(k:Int)-1:=by omega
     have i5:IntKind.i64.wrap ((k:Int)-1)=(k:Int)-1:=IntWalk.i64_in _ (by omega);have i4:(k:Int)-1<(n:Int):=by omega
     by_cases hr:M1.rg ds (k-1)<M1.rg ds k
     ·have HQ:Hid (∀ i,i<k+1→M1.vokAt ds i=true):=fun i hi=>by
       by_cases e:i=k
       ·rw [e];simp [M1.vokAt,hd,hr]
       ·exact hall.out i (by omega)
      clear hc g1 hall hd hk0;go_wp2_with fail
      refine wp_region_held_drew (S:=fun w'=>Kp wr w') (by kernel_rfl) ?_ (fun zH=>?_)
      ·exact kp_zero _
      refine uZ 0 ?_;simp only[pZ,zZ];refine uZ 1 ?_;simp only[pZ,zZ];refine uZ 2 ?_;simp only[pZ,zZ];refine uZ 3 ?_;simp only[pZ,zZ];refine sZ 4 fun K hK=>?_;go_simp
      (refine (l1Dot_any _ _ _).mono ?_;rw [hd'];rintro e w' ⟨rfl,hb⟩;go_wp2_with fail)
      refine hK.out _ _ ?_ (fun zH2=>?_)
      ·exact kp_step zH hb
      clear hK K zH;have zH:=zH2;clear zH2;(try simp only[pZ,zZ]);refine uZ 5 ?_;simp only[pZ,zZ];refine uZ 6 ?_;simp only[pZ,zZ];refine uZ 7 ?_;simp only[pZ,zZ];refine uZ 8 ?_;simp only[pZ,zZ];refine uZ 9 ?_;simp only[pZ,zZ];refine uZ 10 ?_;simp only[pZ,zZ];refine uZ 11 ?_;simp only[pZ,zZ];refine uZ 12 ?_;simp only[pZ,zZ];refine uZ 13 ?_;simp only[pZ,zZ];refine uZ 14 ?_;simp only[pZ,zZ];refine uZ 15 ?_;simp only[pZ,zZ];refine uZ 16 ?_;simp only[pZ,zZ];refine uZ 17 ?_;simp only[pZ,zZ];refine uZ 18 ?_;simp only[pZ,zZ];refine uZ 19 ?_;simp only[pZ,zZ];refine uZ 20 ?_;simp only[pZ,zZ];refine uZ 21 ?_;simp only[pZ,zZ];refine uZ 22 ?_;simp only[pZ,zZ];refine uZ 23 ?_;simp only[pZ,zZ];refine dZ ?_;have hB':=hB.trans (zH.1.mono hB.size);go_wp2_with fail
      exact ⟨⟨k+1,by omega,by go_num,hB',HQ⟩,by simp [intOf];omega⟩
     ·have HQ:Hid (M1.vecOk ds=false):=M1.vecOk_no (j:=k) (by have:=hl1.out;omega) (by simp [M1.vokAt];intro _;exact ⟨hk0,by omega⟩)
      clear hc g1 hall hd hk0;go_wp2_with fail
      refine wp_region_held_drew (S:=fun w'=>Kp wr w') (by kernel_rfl) ?_ (fun zH=>?_)
      ·exact kp_zero _
      refine uZ 0 ?_;simp only[pZ,zZ];refine uZ 1 ?_;simp only[pZ,zZ];refine uZ 2 ?_;simp only[pZ,zZ];refine uZ 3 ?_;simp only[pZ,zZ];refine sZ 4 fun K hK=>?_;go_simp
      (refine (l1Dot_any _ _ _).mono ?_;rw [hd'];rintro e w' ⟨rfl,hb⟩;go_wp2_with fail)
      refine hK.out _ _ ?_ (fun zH2=>?_)
      ·exact kp_step zH hb
      clear hK K zH;have zH:=zH2;clear zH2;(try simp only[pZ,zZ]);refine uZ 5 ?_;simp only[pZ,zZ];refine uZ 6 ?_;simp only[pZ,zZ];refine uZ 7 ?_;simp only[pZ,zZ];refine uZ 8 ?_;simp only[pZ,zZ];refine uZ 9 ?_;simp only[pZ,zZ];refine uZ 10 ?_;simp only[pZ,zZ];refine uZ 11 ?_;simp only[pZ,zZ];refine uZ 12 ?_;simp only[pZ,zZ];refine uZ 13 ?_;simp only[pZ,zZ];refine uZ 14 ?_;simp only[pZ,zZ];refine uZ 15 ?_;simp only[pZ,zZ];refine uZ 16 ?_;simp only[pZ,zZ];refine uZ 17 ?_;simp only[pZ,zZ];refine uZ 18 ?_;simp only[pZ,zZ];refine uZ 19 ?_;simp only[pZ,zZ];refine uZ 20 ?_;simp only[pZ,zZ];refine uZ 21 ?_;simp only[pZ,zZ];refine uZ 22 ?_;simp only[pZ,zZ];refine uZ 23 ?_;simp only[pZ,zZ];refine dZ ?_;have hB':=hB.trans (zH.1.mono hB.size);go_wp2_with fail
      go_ret
      exact ⟨by rw [HQ.out];rfl,hB'⟩
   ·have hd':M1.dotOk (M1.rg ds k) (M1.nm ds k)=false:=by simpa using hd
    have HQ:Hid (M1.vecOk ds=false):=M1.vecOk_no (j:=k) (by have:=hl1.out;omega) (by simp [M1.vokAt,hd']);clear hc g1 hall hd;go_wp2_with fail
    refine wp_region_held_drew (S:=fun w'=>Kp wr w') (by kernel_rfl) ?_ (fun zH=>?_)
    ·exact kp_zero _
    refine uZ 0 ?_;simp only[pZ,zZ];refine uZ 1 ?_;simp only[pZ,zZ];refine uZ 2 ?_;simp only[pZ,zZ];refine uZ 3 ?_;simp only[pZ,zZ];refine sZ 4 fun K hK=>?_;go_simp
    (refine (l1Dot_any _ _ _).mono ?_;rw [hd'];rintro e w' ⟨rfl,hb⟩;go_wp2_with fail)
    refine hK.out _ _ ?_ (fun zH2=>?_)
    ·exact kp_step zH hb
    clear hK K zH;have zH:=zH2;clear zH2;(try simp only[pZ,zZ]);refine uZ 5 ?_;simp only[pZ,zZ];refine uZ 6 ?_;simp only[pZ,zZ];refine vZ 7 ?_;simp only[pZ,zZ];refine vZ 8 ?_;simp only[pZ,zZ];refine vZ 9 ?_;simp only[pZ,zZ];refine vZ 10 ?_;simp only[pZ,zZ];refine vZ 11 ?_;simp only[pZ,zZ];refine vZ 12 ?_;simp only[pZ,zZ];refine vZ 13 ?_;simp only[pZ,zZ];refine vZ 14 ?_;simp only[pZ,zZ];refine vZ 15 ?_;simp only[pZ,zZ];refine vZ 16 ?_;simp only[pZ,zZ];refine vZ 17 ?_;simp only[pZ,zZ];refine vZ 18 ?_;simp only[pZ,zZ];refine vZ 19 ?_;simp only[pZ,zZ];refine vZ 20 ?_;simp only[pZ,zZ];refine vZ 21 ?_;simp only[pZ,zZ];refine vZ 22 ?_;simp only[pZ,zZ];refine uZ 23 ?_;simp only[pZ,zZ];refine dZ ?_;have hB':=hB.trans (zH.1.mono hB.size);go_wp2_with fail
    go_ret
    exact ⟨by rw [HQ.out];rfl,hB'⟩
  ·have HQ:Hid (M1.vecOk ds=true):=M1.vecOk_yes (fun j hj=>hall.out j (by have:=hl1.out;omega))
   clear hall;go_wp2_with fail
   go_ret
   exact ⟨by rw [HQ.out];rfl,hB⟩
set_option maxHeartbeats 8000000 in
theorem vectorFrom_any (av:Option Addr)(n cn:Nat)(ds:List (Int × Int))(w:World)(h1:IsVec w av n cn ds) :
  Calls Tryz.prog 90 #[.slice av n cn] w fun e w'=>(M1.vecOk ds=true∧e=.returned (.tuple #[.agg #[.int .i64 (M1.lk ds 1),.int .i64 (M1.lk ds 2),.int .i64 (M1.lk ds 3),.int .i64 (M1.lk ds 4),.int .i64 (M1.lk ds 5)],.bool true])∨M1.vecOk ds=false∧e=.returned (.tuple #[.agg #[.int .i64 0,.int .i64 0,.int .i64 0,.int .i64 0,.int .i64 0],.bool false]))∧Below w.heap.size w w':=by
 have hl1:Hid (ds.length=n):=h1.hlen;have hm1:=h1.hcap;have hm2:=h1.hmost;unfold maxLen at hm2;go_enter Tryz.func90,Tryz.ntmps90
 go_wp2
 go_loopw [5,10] (fun last i wr=>∃ k:Nat,k≤n∧i=.int .i64 k∧last=.int .i64 (M1.lastR ds k)∧Below w.heap.size w wr∧Hid (∀ j,j<k→M1.vokAt ds j=true)∧RowAt wr w.heap.size 5 (fun _=>.int .i64 0)∧RowAt wr (w.heap.size+1) 5 (fun o=>.int .i64 (M1.lkTo ds k (o+1)))) (fun _ i _=>n-(intOf i).toNat)
 case atStart =>
  refine ⟨0,Nat.zero_le _,rfl,rfl,?_,fun j hj=>absurd hj (Nat.not_lt_zero _),?_,?_⟩
  ·exact bZ
  ·exact (RowAt.zero5 _ _ _ (fun _=>rfl)).alloc _
  ·have:=RowAt.zero5 (w.alloc (.cells #[.int .i64 0,.int .i64 0,.int .i64 0,.int .i64 0,.int .i64 0] 79)) 79 (fun o=>.int .i64 (M1.lkTo ds 0 (o+1))) (fun _=>rfl)
   simpa using this
 case round =>
  obtain ⟨k,hk,rfl,rfl,hB,hall,hr0,hr1⟩:=hrel;have hs0:=hr0.lt;have hs1:=hr1.lt;by_cases hlt:k<n
  ·have g1:=h1.below hB
   rcases g1.hlies with h0 | ⟨b,off,rfl,hb,hc⟩
   ·omega
   obtain ⟨c1,c2⟩:=hc k hlt;have i0:(0:Int)≤(k:Int):=by omega
   have i1:(k:Int)<(n:Int):=by omega
   clear hc g1;by_cases hd:M1.dotOk (M1.rg ds k) (M1.nm ds k)=true
   ·obtain ⟨q1,q2,q3,q4⟩:=M1.dotOk_true hd
    by_cases hr:M1.lastR ds k<M1.rg ds k
    ·have HQ:Hid (∀ j,j<k+1→M1.vokAt ds j=true):=fun j hj=>by
      by_cases e:j=k
      ·rw [e];exact M1.vokAt_last hd hr
      ·exact hall.out j (by omega)
     clear hall;go_wp2_with fail
     refine (dotOk_any _ _ _).mono ?_;rintro e w1 ⟨rfl,hb1⟩;have hB1:=hb1;clear hb1;obtain ⟨hc1,hf1⟩:=bcell hB1;have hz1:=hB1.size
     (try simp [Nat.succ_le_iff] at hz1)
     have hr0':=(hr0.alloc (.cells #[.int .i64 (M1.rg ds k),.int .i64 (M1.nm ds k)] 68)).below hB1;have hr1':=(hr1.alloc (.cells #[.int .i64 (M1.rg ds k),.int .i64 (M1.nm ds k)] 68)).below hB1;have ht:((M1.rg ds k).toNat-1)<5:=by omega
     have d1:=hr1.cell (o:=((M1.rg ds k).toNat-1)) ht;have d2:=hr1.free (o:=((M1.rg ds k).toNat-1)) ht;have hne:¬w.heap.size+1=wr.heap.size:=by omega
     go_wp2_with fail
     refine ⟨⟨k+1,by omega,by go_num,rfl,?_,HQ,?_,?_⟩,by simp [intOf];omega⟩
     ·repeat (first | (with_reducible exact Below.refl _ _) | ((with_reducible refine Below.setCell ?_ ?_ _);rotate_left;(focus (first | omega | (simp;done) | (simp;omega)))) | ((with_reducible refine Below.alloc ?_ ?_ _);rotate_left;(focus (first | omega | (simp;done) | (simp;omega)))) | (with_reducible refine Below.drew ?_) | ((with_reducible refine Below.trans ?_ (Below.mono hB1 ?_));rotate_left;(focus (first | omega | (simp;done) | (simp;omega)))) | ((with_reducible refine Below.trans ?_ (Below.mono hB ?_));rotate_left;(focus (first | omega | (simp;done) | (simp;omega)))))
     ·exact hr0'.far (by simp) _
     ·refine (hr1'.set ht _).same fun o ho=>?_
      show (if o=((M1.rg ds k).toNat-1) then _ else _)=_
      rw [M1.lkTo_succ];by_cases e:o=((M1.rg ds k).toNat-1)
      ·rw [if_pos e,if_pos (by omega)]
      ·rw [if_neg e,if_neg (by omega)]
    ·have HQ:Hid (M1.vecOk ds=false):=M1.vecOk_no (j:=k) (by have:=hl1.out;omega) (M1.vokAt_not hd hr)
     clear hall;go_wp2_with fail
     refine (dotOk_any _ _ _).mono ?_;rintro e w1 ⟨rfl,hb1⟩;have hB1:=hb1;clear hb1;obtain ⟨hc1,hf1⟩:=bcell hB1;have hz1:=hB1.size
     (try simp [Nat.succ_le_iff] at hz1)
     have hr0':=(hr0.alloc (.cells #[.int .i64 (M1.rg ds k),.int .i64 (M1.nm ds k)] 68)).below hB1;have z0:=hr0.cell (o:=0) (by omega);have z1:=hr0.cell (o:=1) (by omega);have z2:=hr0.cell (o:=2) (by omega);have z3:=hr0.cell (o:=3) (by omega);have z4:=hr0.cell (o:=4) (by omega);have y0:=hr0.free (o:=0) (by omega);have y1:=hr0.free (o:=1) (by omega);have y2:=hr0.free (o:=2) (by omega);have y3:=hr0.free (o:=3) (by omega);have y4:=hr0.free (o:=4) (by omega);go_wp2_with fail
     clear hc1 hf1 z0 z1 z2 z3 z4;have z0:=hr0'.cell (o:=0) (by omega);have z1:=hr0'.cell (o:=1) (by omega);have z2:=hr0'.cell (o:=2) (by omega);have z3:=hr0'.cell (o:=3) (by omega);have z4:=hr0'.cell (o:=4) (by omega);refine bodyPost_ret (v:=.tuple #[.agg #[.int .i64 0,.int .i64 0,.int .i64 0,.int .i64 0,.int .i64 0],.bool false]) (by simp [results,Tryz.results90,go_sem,cell_set_same, *]) rfl ⟨Or.inr ⟨HQ.out,rfl⟩,?_⟩;repeat (first | (with_reducible exact Below.refl _ _) | ((with_reducible refine Below.setCell ?_ ?_ _);rotate_left;(focus (first | omega | (simp;done) | (simp;omega)))) | ((with_reducible refine Below.alloc ?_ ?_ _);rotate_left;(focus (first | omega | (simp;done) | (simp;omega)))) | (with_reducible refine Below.drew ?_) | ((with_reducible refine Below.trans ?_ (Below.mono hB1 ?_));rotate_left;(focus (first | omega | (simp;done) | (simp;omega)))) | ((with_reducible refine Below.trans ?_ (Below.mono hB ?_));rotate_left;(focus (first | omega | (simp;done) | (simp;omega)))))
   ·have hd':M1.dotOk (M1.rg ds k) (M1.nm ds k)=false:=by simpa using hd
    have HQ:Hid (M1.vecOk ds=false):=M1.vecOk_no (j:=k) (by have:=hl1.out;omega) (by simp [M1.vokAt,hd']);clear hall hd
    ·go_wp2_with fail
     refine (dotOk_any _ _ _).mono ?_;rintro e w1 ⟨rfl,hb1⟩;have hB1:=hb1;clear hb1;obtain ⟨hc1,hf1⟩:=bcell hB1;have hz1:=hB1.size
     (try simp [Nat.succ_le_iff] at hz1)
     have hr0':=(hr0.alloc (.cells #[.int .i64 (M1.rg ds k),.int .i64 (M1.nm ds k)] 68)).below hB1;have z0:=hr0.cell (o:=0) (by omega);have z1:=hr0.cell (o:=1) (by omega);have z2:=hr0.cell (o:=2) (by omega);have z3:=hr0.cell (o:=3) (by omega);have z4:=hr0.cell (o:=4) (by omega);have y0:=hr0.free (o:=0) (by omega);have y1:=hr0.free (o:=1) (by omega);have y2:=hr0.free (o:=2) (by omega);have y3:=hr0.free (o:=3) (by omega);have y4:=hr0.free (o:=4) (by omega);go_wp2_with fail
     clear hc1 hf1 z0 z1 z2 z3 z4;have z0:=hr0'.cell (o:=0) (by omega);have z1:=hr0'.cell (o:=1) (by omega);have z2:=hr0'.cell (o:=2) (by omega);have z3:=hr0'.cell (o:=3) (by omega);have z4:=hr0'.cell (o:=4) (by omega);refine bodyPost_ret (v:=.tuple #[.agg #[.int .i64 0,.int .i64 0,.int .i64 0,.int .i64 0,.int .i64 0],.bool false]) (by simp [results,Tryz.results90,go_sem,cell_set_same, *]) rfl ⟨Or.inr ⟨HQ.out,rfl⟩,?_⟩;repeat (first | (with_reducible exact Below.refl _ _) | ((with_reducible refine Below.setCell ?_ ?_ _);rotate_left;(focus (first | omega | (simp;done) | (simp;omega)))) | ((with_reducible refine Below.alloc ?_ ?_ _);rotate_left;(focus (first | omega | (simp;done) | (simp;omega)))) | (with_reducible refine Below.drew ?_) | ((with_reducible refine Below.trans ?_ (Below.mono hB1 ?_));rotate_left;(focus (first | omega | (simp;done) | (simp;omega)))) | ((with_reducible refine Below.trans ?_ (Below.mono hB ?_));rotate_left;(focus (first | omega | (simp;done) | (simp;omega)))))
  ·have HQ:Hid (M1.vecOk ds=true):=M1.vecOk_yes (fun j hj=>hall.out j (by have:=hl1.out;omega))
   have hkn:Hid (k=ds.length):=by show k=ds.length;have:=hl1.out;omega
   clear hall
   ··have hr0':=hr0
     have z0:=hr0.cell (o:=0) (by omega);have z1:=hr0.cell (o:=1) (by omega);have z2:=hr0.cell (o:=2) (by omega);have z3:=hr0.cell (o:=3) (by omega);have z4:=hr0.cell (o:=4) (by omega);have y0:=hr0.free (o:=0) (by omega);have y1:=hr0.free (o:=1) (by omega);have y2:=hr0.free (o:=2) (by omega);have y3:=hr0.free (o:=3) (by omega);have y4:=hr0.free (o:=4) (by omega);have d0:=hr1.cell (o:=0) (by omega);have d1:=hr1.cell (o:=1) (by omega);have d2:=hr1.cell (o:=2) (by omega);have d3:=hr1.cell (o:=3) (by omega);have d4:=hr1.cell (o:=4) (by omega);go_wp2_with fail
     refine bodyPost_ret (v:=.tuple #[.agg #[.int .i64 (M1.lk ds 1),.int .i64 (M1.lk ds 2),.int .i64 (M1.lk ds 3),.int .i64 (M1.lk ds 4),.int .i64 (M1.lk ds 5)],.bool true]) ?_ rfl ⟨Or.inl ⟨HQ.out,rfl⟩,?_⟩
     ·unfold M1.lk
      rw [←hkn.out];simp [results,Tryz.results90,go_sem,cell_set_same, *]
     ·repeat (first | (with_reducible exact Below.refl _ _) | ((with_reducible refine Below.setCell ?_ ?_ _);rotate_left;(focus (first | omega | (simp;done) | (simp;omega)))) | ((with_reducible refine Below.alloc ?_ ?_ _);rotate_left;(focus (first | omega | (simp;done) | (simp;omega)))) | (with_reducible refine Below.drew ?_) | ((with_reducible refine Below.trans ?_ (Below.mono hB ?_));rotate_left;(focus (first | omega | (simp;done) | (simp;omega)))))
theorem vectorFrom_yes (av:Option Addr)(n cn:Nat)(ds:List (Int × Int))(w:World)(h1:IsVec w av n cn ds)(hv:M1.vecOk ds=true) :
  Calls Tryz.prog 90 #[.slice av n cn] w fun e w'=>e=.returned (.tuple #[.agg #[.int .i64 (M1.lk ds 1),.int .i64 (M1.lk ds 2),.int .i64 (M1.lk ds 3),.int .i64 (M1.lk ds 4),.int .i64 (M1.lk ds 5)],.bool true])∧Below w.heap.size w w' :=
 (vectorFrom_any av n cn ds w h1).mono fun _ _ ⟨h,hb⟩=>⟨h.elim (fun h=>h.2) (fun h=>by rw [hv] at h;cases h.1),hb⟩
theorem vectorFrom_no (av:Option Addr)(n cn:Nat)(ds:List (Int × Int))(w:World)(h1:IsVec w av n cn ds)(hv:M1.vecOk ds=false) :
  Calls Tryz.prog 90 #[.slice av n cn] w fun e w'=>e=.returned (.tuple #[.agg #[.int .i64 0,.int .i64 0,.int .i64 0,.int .i64 0,.int .i64 0],.bool false])∧Below w.heap.size w w' :=
 (vectorFrom_any av n cn ds w h1).mono fun _ _ ⟨h,hb⟩=>⟨h.elim (fun h=>by rw [hv] at h;cases h.1) (fun h=>h.2),hb⟩
theorem vecOk_impl (av:Option Addr)(n cn:Nat)(ds:List (Int × Int))(w:World)(h1:IsVec w av n cn ds) :
  Calls Tryz.prog 57 #[.slice av n cn] w fun e w'=>e=.returned (.bool (M1.vecOk ds))∧Below w.heap.size w w':=by
 by_cases hv:M1.vecOk ds=true
 ·rw [hv]
  have HV:Hid (M1.vecOk ds=true):=hv;clear hv;go_enter Tryz.func57,Tryz.ntmps57
  go_wp2_with fail
  refine (vectorFrom_yes _ _ _ _ _ h1 HV.out).mono ?_;rintro e w1 ⟨rfl,hb1⟩;have hB1:=hb1;clear hb1;obtain ⟨hc1,hf1⟩:=bcell hB1;have hz1:=hB1.size
  (try simp [Nat.succ_le_iff] at hz1)
  go_wp2_with fail
  go_ret
  refine ⟨rfl,?_⟩;repeat (first | (with_reducible exact Below.refl _ _) | ((with_reducible refine Below.setCell ?_ ?_ _);rotate_left;(focus (first | omega | (simp;done) | (simp;omega)))) | ((with_reducible refine Below.alloc ?_ ?_ _);rotate_left;(focus (first | omega | (simp;done) | (simp;omega)))) | (with_reducible refine Below.drew ?_) | ((with_reducible refine Below.trans ?_ (Below.mono hB1 ?_));rotate_left;(focus (first | omega | (simp;done) | (simp;omega)))))
 ·have HV:Hid (M1.vecOk ds=false):=(by simpa using hv:M1.vecOk ds=false)
  rw [HV.out];clear hv;go_enter Tryz.func57,Tryz.ntmps57
  go_wp2_with fail
  refine (vectorFrom_no _ _ _ _ _ h1 HV.out).mono ?_;rintro e w1 ⟨rfl,hb1⟩;have hB1:=hb1;clear hb1;obtain ⟨hc1,hf1⟩:=bcell hB1;have hz1:=hB1.size
  (try simp [Nat.succ_le_iff] at hz1)
  go_wp2_with fail
  go_ret
  refine ⟨rfl,?_⟩;repeat (first | (with_reducible exact Below.refl _ _) | ((with_reducible refine Below.setCell ?_ ?_ _);rotate_left;(focus (first | omega | (simp;done) | (simp;omega)))) | ((with_reducible refine Below.alloc ?_ ?_ _);rotate_left;(focus (first | omega | (simp;done) | (simp;omega)))) | (with_reducible refine Below.drew ?_) | ((with_reducible refine Below.trans ?_ (Below.mono hB1 ?_));rotate_left;(focus (first | omega | (simp;done) | (simp;omega)))))
end Go.Proofs.YtgcinolbkllkkaaGreat
