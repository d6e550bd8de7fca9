/-
  Texts of one proof, joined: SetSpec.
-/
import Derived.Test.YtgcinolbkllkkaaGreatZFConverged08
set_option linter.unusedSimpArgs false
set_option linter.unusedVariables false
namespace Go.Proofs.YtgcinolbkllkkaaGreat
open Go.ChangeShapes Go.WideShapes Go.ChangeAt Go.RowKit
set_option maxHeartbeats 64000000 in
set_option maxRecDepth 100000 in
theorem setOk_spec (av:Option Addr)(n cn:Nat)(us:List M1.Upd)(w:World)(h1:IsUpds w av n cn us) :
  Calls Tryz.prog 59 #[.slice av n cn] w fun e w'=>e=.returned (.bool (M1.setOk us))∧Below w.heap.size w w':=by
 have hl1:Hid (us.length=n):=h1.hlen;have hm1:=h1.hcap;have hm2:=h1.hmost;unfold maxLen at hm2;go_enter Tryz.func59,Tryz.ntmps59
 go_wp2
 go_loopw [3] (fun i wr=>∃ k:Nat,k≤n∧i=.int .i64 k∧Below w.heap.size w wr∧Hid (∀ j,j<k→M1.okAt us j=true)) (fun i _=>n-(intOf i).toNat)
 case atStart=>exact ⟨0,Nat.zero_le _,rfl,Below.refl _ _,fun j hj=>absurd hj (Nat.not_lt_zero _)⟩
 case round =>
  obtain ⟨k,hk,rfl,hB,hall⟩:=hrel;by_cases hlt:k<n
  ·have g1:=h1.below hB
   rcases g1.hlies with h0 | ⟨b,off,rfl,hb,hc⟩
   ·omega
   obtain ⟨c0,c1,c2,c3,c4,c5,c6,c7,c8,c9,c10,c11,c12⟩:=hc k hlt;have hs:=h1.htxt k hlt;have i0:(0:Int)≤(k:Int):=by omega
   have i1:(k:Int)<(n:Int):=by omega
   by_cases hu:M1.okU (M1.up us k)=true
   ·have hok:M1.updB (M1.up us k).dr (M1.up us k).dn (M1.up us k).sw (M1.up us k).sc (M1.up us k).sr (M1.up us k).k (M1.up us k).tr (M1.up us k).id (M1.up us k).pa (M1.up us k).s (M1.up us k).st (M1.up us k).en (M1.up us k).lv=true:=hu
    by_cases hk0:k=0
    ·have hkb:decide ((0:Int)<(k:Int))=false:=by simp;omega
     have hkb2:decide (0<k)=false:=by simp;omega
     clear hc g1;by_cases hd:(M1.up us k).dn=1
     ·have HQ:Hid (∀ j,j<k+1→M1.okAt us j=true):=fun j hj=>by
       by_cases e:j=k
       ·rw [e];exact (by unfold M1.okAt;rw [hu,if_pos hk0,decide_eq_true hd];rfl)
       ·exact hall.out j (by omega)
      clear hall;have hdb:((M1.up us k).dn != 1)=false:=by simp [hd]
      clear hd hu hk0;go_wp2_with fail
      refine (updateOk_spec _ _ _ _ _ _ _ _ _ _ _ _ _ _ hs).mono ?_;rw [hok];rintro e w1 ⟨rfl,hb1⟩;have hK1:Kp wr w1:=kp_of hb1;clear hb1;go_wp2_with fail
      refine wp_region_held_drew (S:=fun w'=>Kp wr w') (by kernel_rfl) ?_ (fun zH=>?_)
      ·exact kp_drew hK1
      refine uZ 0 ?_;simp only[pZ,zZ];refine uZ 1 ?_;simp only[pZ,zZ];refine uZ 2 ?_;simp only[pZ,zZ];refine vZ 3 ?_;simp only[pZ,zZ];refine vZ 4 ?_;simp only[pZ,zZ];refine vZ 5 ?_;simp only[pZ,zZ];refine vZ 6 ?_;simp only[pZ,zZ];refine vZ 7 ?_;simp only[pZ,zZ];refine vZ 8 ?_;simp only[pZ,zZ];refine vZ 9 ?_;simp only[pZ,zZ];refine vZ 10 ?_;simp only[pZ,zZ];refine vZ 11 ?_;simp only[pZ,zZ];refine vZ 12 ?_;simp only[pZ,zZ];refine vZ 13 ?_;simp only[pZ,zZ];refine vZ 14 ?_;simp only[pZ,zZ];refine vZ 15 ?_;simp only[pZ,zZ];refine vZ 16 ?_;simp only[pZ,zZ];refine uZ 17 ?_;simp only[pZ,zZ];refine dZ ?_;clear hK1;have hK1:=zH;clear zH;have hK2:=hK1.2;go_wp2_with fail
      clear hK2;refine wp_region_held_drew (S:=fun w'=>Kp wr w') (by kernel_rfl) ?_ (fun zH=>?_)
      ·exact kp_drew hK1
      refine uZ 0 ?_;simp only[pZ,zZ];refine uZ 1 ?_;simp only[pZ,zZ];refine uZ 2 ?_;simp only[pZ,zZ];refine uZ 3 ?_;simp only[pZ,zZ];refine uZ 4 ?_;simp only[pZ,zZ];refine uZ 5 ?_;simp only[pZ,zZ];refine uZ 6 ?_;simp only[pZ,zZ];refine uZ 7 ?_;simp only[pZ,zZ];refine uZ 8 ?_;simp only[pZ,zZ];refine uZ 9 ?_;simp only[pZ,zZ];refine uZ 10 ?_;simp only[pZ,zZ];refine uZ 11 ?_;simp only[pZ,zZ];refine vZ 12 ?_;simp only[pZ,zZ];refine vZ 13 ?_;simp only[pZ,zZ];refine vZ 14 ?_;simp only[pZ,zZ];refine vZ 15 ?_;simp only[pZ,zZ];refine vZ 16 ?_;simp only[pZ,zZ];refine vZ 17 ?_;simp only[pZ,zZ];refine vZ 18 ?_;simp only[pZ,zZ];refine vZ 19 ?_;simp only[pZ,zZ];refine vZ 20 ?_;simp only[pZ,zZ];refine vZ 21 ?_;simp only[pZ,zZ];refine vZ 22 ?_;simp only[pZ,zZ];refine vZ 23 ?_;simp only[pZ,zZ];refine vZ 24 ?_;simp only[pZ,zZ];refine uZ 25 ?_;simp only[pZ,zZ];refine uZ 26 ?_;simp only[pZ,zZ];refine dZ ?_;clear hK1;have hK1:=zH;clear zH;have hK2:=hK1.2;go_wp2_with fail
      clear hK2;exact ⟨⟨k+1,by omega,by go_num,hB.trans (hK1.1.mono hB.size),HQ⟩,by simp [intOf];omega⟩
     ·have HQ:Hid (M1.setOk us=false):=M1.setOk_no (j:=k) (by have:=hl1.out;omega) (by unfold M1.okAt;rw [hu,if_pos hk0,decide_eq_false hd];rfl)
      clear hall;have hdb:((M1.up us k).dn != 1)=true:=by simp [hd]
      clear hd hu hk0;go_wp2_with fail
      refine (updateOk_spec _ _ _ _ _ _ _ _ _ _ _ _ _ _ hs).mono ?_;rw [hok];rintro e w1 ⟨rfl,hb1⟩;have hK1:Kp wr w1:=kp_of hb1;clear hb1;go_wp2_with fail
      refine wp_region_held_drew (S:=fun w'=>Kp wr w') (by kernel_rfl) ?_ (fun zH=>?_)
      ·exact kp_drew hK1
      refine uZ 0 ?_;simp only[pZ,zZ];refine uZ 1 ?_;simp only[pZ,zZ];refine uZ 2 ?_;simp only[pZ,zZ];refine vZ 3 ?_;simp only[pZ,zZ];refine vZ 4 ?_;simp only[pZ,zZ];refine vZ 5 ?_;simp only[pZ,zZ];refine vZ 6 ?_;simp only[pZ,zZ];refine vZ 7 ?_;simp only[pZ,zZ];refine vZ 8 ?_;simp only[pZ,zZ];refine vZ 9 ?_;simp only[pZ,zZ];refine vZ 10 ?_;simp only[pZ,zZ];refine vZ 11 ?_;simp only[pZ,zZ];refine vZ 12 ?_;simp only[pZ,zZ];refine vZ 13 ?_;simp only[pZ,zZ];refine vZ 14 ?_;simp only[pZ,zZ];refine vZ 15 ?_;simp only[pZ,zZ];refine vZ 16 ?_;simp only[pZ,zZ];refine uZ 17 ?_;simp only[pZ,zZ];refine dZ ?_;clear hK1;have hK1:=zH;clear zH;have hK2:=hK1.2;go_wp2_with fail
      clear hK2;refine wp_region_held_drew (S:=fun w'=>Kp wr w') (by kernel_rfl) ?_ (fun zH=>?_)
      ·exact kp_drew hK1
      refine uZ 0 ?_;simp only[pZ,zZ];refine uZ 1 ?_;simp only[pZ,zZ];refine uZ 2 ?_;simp only[pZ,zZ];refine uZ 3 ?_;simp only[pZ,zZ];refine uZ 4 ?_;simp only[pZ,zZ];refine uZ 5 ?_;simp only[pZ,zZ];refine uZ 6 ?_;simp only[pZ,zZ];refine uZ 7 ?_;simp only[pZ,zZ];refine uZ 8 ?_;simp only[pZ,zZ];refine vZ 9 ?_;simp only[pZ,zZ];refine vZ 10 ?_;simp only[pZ,zZ];refine vZ 11 ?_;simp only[pZ,zZ];refine vZ 12 ?_;simp only[pZ,zZ];refine vZ 13 ?_;simp only[pZ,zZ];refine vZ 14 ?_;simp only[pZ,zZ];refine vZ 15 ?_;simp only[pZ,zZ];refine vZ 16 ?_;simp only[pZ,zZ];refine vZ 17 ?_;simp only[pZ,zZ];refine vZ 18 ?_;simp only[pZ,zZ];refine vZ 19 ?_;simp only[pZ,zZ];refine vZ 20 ?_;simp only[pZ,zZ];refine vZ 21 ?_;simp only[pZ,zZ];refine vZ 22 ?_;simp only[pZ,zZ];refine vZ 23 ?_;simp only[pZ,zZ];refine vZ 24 ?_;simp only[pZ,zZ];refine vZ 25 ?_;simp only[pZ,zZ];refine uZ 26 ?_;simp only[pZ,zZ];refine dZ ?_;clear hK1;have hK1:=zH;clear zH;have hK2:=hK1.2;go_wp2_with fail
      clear hK2;go_ret
      exact ⟨by rw [HQ.out];rfl,hB.trans (hK1.1.mono hB.size)⟩
    ·obtain ⟨p0,p1,p2,p3,p4,p5,p6,p7,p8,p9,p10,p11,p12⟩:=hc (k-1) (by omega)
     have i6:(1:Int)≤(k:Int):=by omega
     have i2:(0:Int)<(k:Int):=by omega
     have hkb:decide ((0:Int)<(k:Int))=true:=by simp;omega
     have hkb2:decide (0<k)=true:=by simp;omega
     have i3:(0:Int)≤(k:Int)-1:=by omega
     have i5:IntKind.i64.wrap ((k:Int)-1)=(k:Int)-1:=IntWalk.i64_in _ (by omega);have i4:(k:Int)-1<(n:Int):=by omega
     obtain ⟨_,_,q3,q4⟩:=M1.okU_dot (M1.okAt_ok (hall.out (k-1) (by omega)));have i7:IntKind.i64.wrap ((M1.up us (k-1)).dn+1)=(M1.up us (k-1)).dn+1:=IntWalk.i64_in _ (by omega);clear hc g1;by_cases hr:(M1.up us k).dr=(M1.up us (k-1)).dr
     ·have hrb:((M1.up us (k-1)).dr==(M1.up us k).dr)=true:=by simp [hr]
      by_cases ha:M1.aheadB (M1.up us (k-1)).sw (M1.up us (k-1)).sc (M1.up us (k-1)).sr (M1.up us k).sw (M1.up us k).sc (M1.up us k).sr=true
      ·by_cases hd:(M1.up us k).dn=(M1.up us (k-1)).dn+1
       ·have hda:M1.dahead (M1.up us (k-1)).dr (M1.up us (k-1)).dn (M1.up us k).dr (M1.up us k).dn=true:=by simp [M1.dahead,hr,hd];omega
        have hdb:((M1.up us k).dn != (M1.up us (k-1)).dn+1)=false:=by simp [hd]
        have HQ:Hid (∀ j,j<k+1→M1.okAt us j=true):=fun j hj=>by
         by_cases e:j=k
         ·rw [e];exact (by unfold M1.okAt M1.fol;rw [hu,if_neg hk0,if_pos hr,decide_eq_true hd,ha];rfl)
         ·exact hall.out j (by omega)
        clear hall;clear hd hu hk0 hr;go_wp2_with fail
        refine (updateOk_spec _ _ _ _ _ _ _ _ _ _ _ _ _ _ hs).mono ?_;rw [hok];rintro e w1 ⟨rfl,hb1⟩;have hK1:Kp wr w1:=kp_of hb1;clear hb1;go_wp2_with fail
        refine wp_region_held_drew (S:=fun w'=>Kp wr w') (by kernel_rfl) ?_ (fun zH=>?_)
        ·exact kp_drew hK1
        refine uZ 0 ?_;simp only[pZ,zZ];refine uZ 1 ?_;simp only[pZ,zZ];refine uZ 2 ?_;simp only[pZ,zZ];refine uZ 3 ?_;simp only[pZ,zZ];refine uZ 4 ?_;simp only[pZ,zZ];refine uZ 5 ?_;simp only[pZ,zZ];refine uZ 6 ?_;simp only[pZ,zZ];refine uZ 7 ?_;simp only[pZ,zZ];refine uZ 8 ?_;simp only[pZ,zZ];refine uZ 9 ?_;simp only[pZ,zZ];refine uZ 10 ?_;simp only[pZ,zZ];refine uZ 11 ?_;simp only[pZ,zZ];refine uZ 12 ?_;simp only[pZ,zZ];refine uZ 13 ?_;simp only[pZ,zZ];refine uZ 14 ?_;simp only[pZ,zZ];refine uZ 15 ?_;simp only[pZ,zZ];refine uZ 16 ?_;simp only[pZ,zZ];refine uZ 17 ?_;simp only[pZ,zZ];refine dZ ?_;clear hK1;have hK1:=zH;clear zH;have hK2:=hK1.2;go_wp2_with fail
        clear hK2;refine wp_region_held_drew (S:=fun w'=>Kp wr w') (by kernel_rfl) ?_ (fun zH=>?_)
        ·exact kp_drew hK1
        refine uZ 0 ?_;simp only[pZ,zZ];refine uZ 1 ?_;simp only[pZ,zZ];refine uZ 2 ?_;simp only[pZ,zZ];refine uZ 3 ?_;simp only[pZ,zZ];refine uZ 4 ?_;simp only[pZ,zZ];refine uZ 5 ?_;simp only[pZ,zZ];refine uZ 6 ?_;simp only[pZ,zZ];refine uZ 7 ?_;simp only[pZ,zZ];refine uZ 8 ?_;simp only[pZ,zZ];refine uZ 9 ?_;simp only[pZ,zZ];refine uZ 10 ?_;simp only[pZ,zZ];refine sZ 11 fun K hK=>?_;go_simp
        (refine (ahead_spec _ _ _ _ _ _ _).mono ?_;rw [ha];rintro e w' ⟨rfl,hb⟩;go_wp2_with fail)
        refine hK.out _ _ ?_ (fun zH2=>?_)
        ·exact kp_step zH hb
        clear hK K zH;have zH:=zH2;clear zH2;(try simp only[pZ,zZ]);refine uZ 12 ?_;simp only[pZ,zZ];refine dZ ?_;clear hK1;have hK1:=zH;clear zH;have hK2:=hK1.2;go_wp2_with fail
        clear hK2;refine wp_region_held_drew (S:=fun w'=>Kp wr w') (by kernel_rfl) ?_ (fun zH=>?_)
        ·exact kp_drew hK1
        refine uZ 0 ?_;simp only[pZ,zZ];refine uZ 1 ?_;simp only[pZ,zZ];refine uZ 2 ?_;simp only[pZ,zZ];refine uZ 3 ?_;simp only[pZ,zZ];refine uZ 4 ?_;simp only[pZ,zZ];refine uZ 5 ?_;simp only[pZ,zZ];refine uZ 6 ?_;simp only[pZ,zZ];refine uZ 7 ?_;simp only[pZ,zZ];refine uZ 8 ?_;simp only[pZ,zZ];refine uZ 9 ?_;simp only[pZ,zZ];refine uZ 10 ?_;simp only[pZ,zZ];refine uZ 11 ?_;simp only[pZ,zZ];refine uZ 12 ?_;simp only[pZ,zZ];refine uZ 13 ?_;simp only[pZ,zZ];refine uZ 14 ?_;simp only[pZ,zZ];refine uZ 15 ?_;simp only[pZ,zZ];refine uZ 16 ?_;simp only[pZ,zZ];refine uZ 17 ?_;simp only[pZ,zZ];refine uZ 18 ?_;simp only[pZ,zZ];refine uZ 19 ?_;simp only[pZ,zZ];refine uZ 20 ?_;simp only[pZ,zZ];refine uZ 21 ?_;simp only[pZ,zZ];refine uZ 22 ?_;simp only[pZ,zZ];refine sZ 23 fun K hK=>?_;go_simp
        (refine (dahead_spec _ _ _ _ _).mono ?_;rw [hda];rintro e w' ⟨rfl,hb⟩;go_wp2_with fail)
        refine hK.out _ _ ?_ (fun zH2=>?_)
        ·exact kp_step zH hb
        clear hK K zH;have zH:=zH2;clear zH2;(try simp only[pZ,zZ]);refine uZ 24 ?_;simp only[pZ,zZ];refine uZ 25 ?_;simp only[pZ,zZ];refine uZ 26 ?_;simp only[pZ,zZ];refine dZ ?_;clear hK1;have hK1:=zH;clear zH;have hK2:=hK1.2;go_wp2_with fail
        clear hK2;exact ⟨⟨k+1,by omega,by go_num,hB.trans (hK1.1.mono hB.size),HQ⟩,by simp [intOf];omega⟩
       ·have hdb:((M1.up us k).dn != (M1.up us (k-1)).dn+1)=true:=by simp [hd]
        have HQ:Hid (M1.setOk us=false):=M1.setOk_no (j:=k) (by have:=hl1.out;omega) (by unfold M1.okAt M1.fol;rw [hu,if_neg hk0,if_pos hr,decide_eq_false hd];rfl);clear hall;clear hd hu hk0 hr;go_wp2_with fail
        refine (updateOk_spec _ _ _ _ _ _ _ _ _ _ _ _ _ _ hs).mono ?_;rw [hok];rintro e w1 ⟨rfl,hb1⟩;have hK1:Kp wr w1:=kp_of hb1;clear hb1;go_wp2_with fail
        refine wp_region_held_drew (S:=fun w'=>Kp wr w') (by kernel_rfl) ?_ (fun zH=>?_)
        ·exact kp_drew hK1
        refine uZ 0 ?_;simp only[pZ,zZ];refine uZ 1 ?_;simp only[pZ,zZ];refine uZ 2 ?_;simp only[pZ,zZ];refine uZ 3 ?_;simp only[pZ,zZ];refine uZ 4 ?_;simp only[pZ,zZ];refine uZ 5 ?_;simp only[pZ,zZ];refine uZ 6 ?_;simp only[pZ,zZ];refine uZ 7 ?_;simp only[pZ,zZ];refine uZ 8 ?_;simp only[pZ,zZ];refine uZ 9 ?_;simp only[pZ,zZ];refine uZ 10 ?_;simp only[pZ,zZ];refine uZ 11 ?_;simp only[pZ,zZ];refine uZ 12 ?_;simp only[pZ,zZ];refine uZ 13 ?_;simp only[pZ,zZ];refine uZ 14 ?_;simp only[pZ,zZ];refine uZ 15 ?_;simp only[pZ,zZ];refine uZ 16 ?_;simp only[pZ,zZ];refine uZ 17 ?_;simp only[pZ,zZ];refine dZ ?_;clear hK1;have hK1:=zH;clear zH;have hK2:=hK1.2;go_wp2_with fail
        clear hK2;refine wp_region_held_drew (S:=fun w'=>Kp wr w') (by kernel_rfl) ?_ (fun zH=>?_)
        ·exact kp_drew hK1
        refine uZ 0 ?_;simp only[pZ,zZ];refine uZ 1 ?_;simp only[pZ,zZ];refine uZ 2 ?_;simp only[pZ,zZ];refine uZ 3 ?_;simp only[pZ,zZ];refine uZ 4 ?_;simp only[pZ,zZ];refine uZ 5 ?_;simp only[pZ,zZ];refine uZ 6 ?_;simp only[pZ,zZ];refine uZ 7 ?_;simp only[pZ,zZ];refine uZ 8 ?_;simp only[pZ,zZ];refine uZ 9 ?_;simp only[pZ,zZ];refine uZ 10 ?_;simp only[pZ,zZ];refine sZ 11 fun K hK=>?_;go_simp
        (refine (ahead_spec _ _ _ _ _ _ _).mono ?_;rw [ha];rintro e w' ⟨rfl,hb⟩;go_wp2_with fail)
        refine hK.out _ _ ?_ (fun zH2=>?_)
        ·exact kp_step zH hb
        clear hK K zH;have zH:=zH2;clear zH2;(try simp only[pZ,zZ]);refine uZ 12 ?_;simp only[pZ,zZ];refine dZ ?_;clear hK1;have hK1:=zH;clear zH;have hK2:=hK1.2;go_wp2_with fail
        clear hK2;refine wp_region_held_drew (S:=fun w'=>Kp wr w') (by kernel_rfl) ?_ (fun zH=>?_)
        ·exact kp_drew hK1
        refine uZ 0 ?_;simp only[pZ,zZ];refine uZ 1 ?_;simp only[pZ,zZ];refine uZ 2 ?_;simp only[pZ,zZ];refine uZ 3 ?_;simp only[pZ,zZ];refine uZ 4 ?_;simp only[pZ,zZ];refine uZ 5 ?_;simp only[pZ,zZ];refine uZ 6 ?_;simp only[pZ,zZ];refine uZ 7 ?_;simp only[pZ,zZ];refine uZ 8 ?_;simp only[pZ,zZ];refine vZ 9 ?_;simp only[pZ,zZ];refine vZ 10 ?_;simp only[pZ,zZ];refine vZ 11 ?_;simp only[pZ,zZ];refine vZ 12 ?_;simp only[pZ,zZ];refine vZ 13 ?_;simp only[pZ,zZ];refine vZ 14 ?_;simp only[pZ,zZ];refine vZ 15 ?_;simp only[pZ,zZ];refine vZ 16 ?_;simp only[pZ,zZ];refine vZ 17 ?_;simp only[pZ,zZ];refine vZ 18 ?_;simp only[pZ,zZ];refine vZ 19 ?_;simp only[pZ,zZ];refine vZ 20 ?_;simp only[pZ,zZ];refine vZ 21 ?_;simp only[pZ,zZ];refine vZ 22 ?_;simp only[pZ,zZ];refine vZ 23 ?_;simp only[pZ,zZ];refine vZ 24 ?_;simp only[pZ,zZ];refine vZ 25 ?_;simp only[pZ,zZ];refine uZ 26 ?_;simp only[pZ,zZ];refine dZ ?_;clear hK1;have hK1:=zH;clear zH;have hK2:=hK1.2;go_wp2_with fail
        clear hK2;go_ret
        exact ⟨by rw [HQ.out];rfl,hB.trans (hK1.1.mono hB.size)⟩
      ·replace ha:M1.aheadB (M1.up us (k-1)).sw (M1.up us (k-1)).sc (M1.up us (k-1)).sr (M1.up us k).sw (M1.up us k).sc (M1.up us k).sr=false:=by simpa using ha
       have HQ:Hid (M1.setOk us=false):=M1.setOk_no (j:=k) (by have:=hl1.out;omega) (by unfold M1.okAt M1.fol;rw [hu,if_neg hk0,if_pos hr,ha];simp);clear hall;clear hu hk0 hr;go_wp2_with fail
       refine (updateOk_spec _ _ _ _ _ _ _ _ _ _ _ _ _ _ hs).mono ?_;rw [hok];rintro e w1 ⟨rfl,hb1⟩;have hK1:Kp wr w1:=kp_of hb1;clear hb1;go_wp2_with fail
       refine wp_region_held_drew (S:=fun w'=>Kp wr w') (by kernel_rfl) ?_ (fun zH=>?_)
       ·exact kp_drew hK1
       refine uZ 0 ?_;simp only[pZ,zZ];refine uZ 1 ?_;simp only[pZ,zZ];refine uZ 2 ?_;simp only[pZ,zZ];refine uZ 3 ?_;simp only[pZ,zZ];refine uZ 4 ?_;simp only[pZ,zZ];refine uZ 5 ?_;simp only[pZ,zZ];refine uZ 6 ?_;simp only[pZ,zZ];refine uZ 7 ?_;simp only[pZ,zZ];refine uZ 8 ?_;simp only[pZ,zZ];refine uZ 9 ?_;simp only[pZ,zZ];refine uZ 10 ?_;simp only[pZ,zZ];refine uZ 11 ?_;simp only[pZ,zZ];refine uZ 12 ?_;simp only[pZ,zZ];refine uZ 13 ?_;simp only[pZ,zZ];refine uZ 14 ?_;simp only[pZ,zZ];refine uZ 15 ?_;simp only[pZ,zZ];refine uZ 16 ?_;simp only[pZ,zZ];refine uZ 17 ?_;simp only[pZ,zZ];refine dZ ?_;clear hK1;have hK1:=zH;clear zH;have hK2:=hK1.2;go_wp2_with fail
       clear hK2;refine wp_region_held_drew (S:=fun w'=>Kp wr w') (by kernel_rfl) ?_ (fun zH=>?_)
       ·exact kp_drew hK1
       refine uZ 0 ?_;simp only[pZ,zZ];refine uZ 1 ?_;simp only[pZ,zZ];refine uZ 2 ?_;simp only[pZ,zZ];refine uZ 3 ?_;simp only[pZ,zZ];refine uZ 4 ?_;simp only[pZ,zZ];refine uZ 5 ?_;simp only[pZ,zZ];refine uZ 6 ?_;simp only[pZ,zZ];refine uZ 7 ?_;simp only[pZ,zZ];refine uZ 8 ?_;simp only[pZ,zZ];refine uZ 9 ?_;simp only[pZ,zZ];refine uZ 10 ?_;simp only[pZ,zZ];refine sZ 11 fun K hK=>?_;go_simp
       (refine (ahead_spec _ _ _ _ _ _ _).mono ?_;rw [ha];rintro e w' ⟨rfl,hb⟩;go_wp2_with fail)
       refine hK.out _ _ ?_ (fun zH2=>?_)
       ·exact kp_step zH hb
       clear hK K zH;have zH:=zH2;clear zH2;(try simp only[pZ,zZ]);refine uZ 12 ?_;simp only[pZ,zZ];refine dZ ?_;clear hK1;have hK1:=zH;clear zH;have hK2:=hK1.2;go_wp2_with fail
       clear hK2;go_ret
       exact ⟨by rw [HQ.out];rfl,hB.trans (hK1.1.mono hB.size)⟩
     ·have hrb:((M1.up us (k-1)).dr==(M1.up us k).dr)=false:=by simp;exact fun e=>hr e.symm
      by_cases hd:(M1.up us k).dn=1
      ·have hdb:((M1.up us k).dn != 1)=false:=by simp [hd]
       by_cases hlr:(M1.up us (k-1)).dr<(M1.up us k).dr
       ·have hda:M1.dahead (M1.up us (k-1)).dr (M1.up us (k-1)).dn (M1.up us k).dr (M1.up us k).dn=true:=by simp [M1.dahead,hlr]
        have HQ:Hid (∀ j,j<k+1→M1.okAt us j=true):=fun j hj=>by
         by_cases e:j=k
         ·rw [e];exact (by unfold M1.okAt M1.fol;rw [hu,if_neg hk0,if_neg hr,decide_eq_true hd,decide_eq_true hlr];rfl)
         ·exact hall.out j (by omega)
        clear hall;clear hd hu hk0 hr hlr;go_wp2_with fail
        refine (updateOk_spec _ _ _ _ _ _ _ _ _ _ _ _ _ _ hs).mono ?_;rw [hok];rintro e w1 ⟨rfl,hb1⟩;have hK1:Kp wr w1:=kp_of hb1;clear hb1;go_wp2_with fail
        refine wp_region_held_drew (S:=fun w'=>Kp wr w') (by kernel_rfl) ?_ (fun zH=>?_)
        ·exact kp_drew hK1
        refine uZ 0 ?_;simp only[pZ,zZ];refine uZ 1 ?_;simp only[pZ,zZ];refine uZ 2 ?_;simp only[pZ,zZ];refine uZ 3 ?_;simp only[pZ,zZ];refine uZ 4 ?_;simp only[pZ,zZ];refine uZ 5 ?_;simp only[pZ,zZ];refine uZ 6 ?_;simp only[pZ,zZ];refine uZ 7 ?_;simp only[pZ,zZ];refine uZ 8 ?_;simp only[pZ,zZ];refine uZ 9 ?_;simp only[pZ,zZ];refine uZ 10 ?_;simp only[pZ,zZ];refine uZ 11 ?_;simp only[pZ,zZ];refine uZ 12 ?_;simp only[pZ,zZ];refine uZ 13 ?_;simp only[pZ,zZ];refine uZ 14 ?_;simp only[pZ,zZ];refine uZ 15 ?_;simp only[pZ,zZ];refine uZ 16 ?_;simp only[pZ,zZ];refine uZ 17 ?_;simp only[pZ,zZ];refine dZ ?_;clear hK1;have hK1:=zH;clear zH;have hK2:=hK1.2;go_wp2_with fail
        clear hK2;refine wp_region_held_drew (S:=fun w'=>Kp wr w') (by kernel_rfl) ?_ (fun zH=>?_)
        ·exact kp_drew hK1
        refine uZ 0 ?_;simp only[pZ,zZ];refine uZ 1 ?_;simp only[pZ,zZ];refine uZ 2 ?_;simp only[pZ,zZ];refine uZ 3 ?_;simp only[pZ,zZ];refine uZ 4 ?_;simp only[pZ,zZ];refine uZ 5 ?_;simp only[pZ,zZ];refine uZ 6 ?_;simp only[pZ,zZ];refine uZ 7 ?_;simp only[pZ,zZ];refine uZ 8 ?_;simp only[pZ,zZ];refine uZ 9 ?_;simp only[pZ,zZ];refine uZ 10 ?_;simp only[pZ,zZ];refine uZ 11 ?_;simp only[pZ,zZ];refine uZ 12 ?_;simp only[pZ,zZ];refine uZ 13 ?_;simp only[pZ,zZ];refine uZ 14 ?_;simp only[pZ,zZ];refine uZ 15 ?_;simp only[pZ,zZ];refine uZ 16 ?_;simp only[pZ,zZ];refine uZ 17 ?_;simp only[pZ,zZ];refine uZ 18 ?_;simp only[pZ,zZ];refine uZ 19 ?_;simp only[pZ,zZ];refine uZ 20 ?_;simp only[pZ,zZ];refine uZ 21 ?_;simp only[pZ,zZ];refine uZ 22 ?_;simp only[pZ,zZ];refine sZ 23 fun K hK=>?_;go_simp
        (refine (dahead_spec _ _ _ _ _).mono ?_;rw [hda];rintro e w' ⟨rfl,hb⟩;go_wp2_with fail)
        refine hK.out _ _ ?_ (fun zH2=>?_)
        ·exact kp_step zH hb
        clear hK K zH;have zH:=zH2;clear zH2;(try simp only[pZ,zZ]);refine uZ 24 ?_;simp only[pZ,zZ];refine uZ 25 ?_;simp only[pZ,zZ];refine uZ 26 ?_;simp only[pZ,zZ];refine dZ ?_;clear hK1;have hK1:=zH;clear zH;have hK2:=hK1.2;go_wp2_with fail
        clear hK2;exact ⟨⟨k+1,by omega,by go_num,hB.trans (hK1.1.mono hB.size),HQ⟩,by simp [intOf];omega⟩
       ·have hda:M1.dahead (M1.up us (k-1)).dr (M1.up us (k-1)).dn (M1.up us k).dr (M1.up us k).dn=false:=by simp [M1.dahead,hlr];exact fun e=>absurd e.symm hr
        have HQ:Hid (M1.setOk us=false):=M1.setOk_no (j:=k) (by have:=hl1.out;omega) (by unfold M1.okAt M1.fol;rw [hu,if_neg hk0,if_neg hr,decide_eq_false hlr];rfl);clear hall;clear hd hu hk0 hr hlr;go_wp2_with fail
        refine (updateOk_spec _ _ _ _ _ _ _ _ _ _ _ _ _ _ hs).mono ?_;rw [hok];rintro e w1 ⟨rfl,hb1⟩;have hK1:Kp wr w1:=kp_of hb1;clear hb1;go_wp2_with fail
        refine wp_region_held_drew (S:=fun w'=>Kp wr w') (by kernel_rfl) ?_ (fun zH=>?_)
        ·exact kp_drew hK1
        refine uZ 0 ?_;simp only[pZ,zZ];refine uZ 1 ?_;simp only[pZ,zZ];refine uZ 2 ?_;simp only[pZ,zZ];refine uZ 3 ?_;simp only[pZ,zZ];refine uZ 4 ?_;simp only[pZ,zZ];refine uZ 5 ?_;simp only[pZ,zZ];refine uZ 6 ?_;simp only[pZ,zZ];refine uZ 7 ?_;simp only[pZ,zZ];refine uZ 8 ?_;simp only[pZ,zZ];refine uZ 9 ?_;simp only[pZ,zZ];refine uZ 10 ?_;simp only[pZ,zZ];refine uZ 11 ?_;simp only[pZ,zZ];refine uZ 12 ?_;simp only[pZ,zZ];refine uZ 13 ?_;simp only[pZ,zZ];refine uZ 14 ?_;simp only[pZ,zZ];refine uZ 15 ?_;simp only[pZ,zZ];refine uZ 16 ?_;simp only[pZ,zZ];refine uZ 17 ?_;simp only[pZ,zZ];refine dZ ?_;clear hK1;have hK1:=zH;clear zH;have hK2:=hK1.2;go_wp2_with fail
        clear hK2;refine wp_region_held_drew (S:=fun w'=>Kp wr w') (by kernel_rfl) ?_ (fun zH=>?_)
        ·exact kp_drew hK1
        refine uZ 0 ?_;simp only[pZ,zZ];refine uZ 1 ?_;simp only[pZ,zZ];refine uZ 2 ?_;simp only[pZ,zZ];refine uZ 3 ?_;simp only[pZ,zZ];refine uZ 4 ?_;simp only[pZ,zZ];refine uZ 5 ?_;simp only[pZ,zZ];refine uZ 6 ?_;simp only[pZ,zZ];refine uZ 7 ?_;simp only[pZ,zZ];refine uZ 8 ?_;simp only[pZ,zZ];refine uZ 9 ?_;simp only[pZ,zZ];refine uZ 10 ?_;simp only[pZ,zZ];refine uZ 11 ?_;simp only[pZ,zZ];refine uZ 12 ?_;simp only[pZ,zZ];refine uZ 13 ?_;simp only[pZ,zZ];refine uZ 14 ?_;simp only[pZ,zZ];refine uZ 15 ?_;simp only[pZ,zZ];refine uZ 16 ?_;simp only[pZ,zZ];refine uZ 17 ?_;simp only[pZ,zZ];refine uZ 18 ?_;simp only[pZ,zZ];refine uZ 19 ?_;simp only[pZ,zZ];refine uZ 20 ?_;simp only[pZ,zZ];refine uZ 21 ?_;simp only[pZ,zZ];refine uZ 22 ?_;simp only[pZ,zZ];refine sZ 23 fun K hK=>?_;go_simp
        (refine (dahead_spec _ _ _ _ _).mono ?_;rw [hda];rintro e w' ⟨rfl,hb⟩;go_wp2_with fail)
        refine hK.out _ _ ?_ (fun zH2=>?_)
        ·exact kp_step zH hb
        clear hK K zH;have zH:=zH2;clear zH2;(try simp only[pZ,zZ]);refine uZ 24 ?_;simp only[pZ,zZ];refine uZ 25 ?_;simp only[pZ,zZ];refine uZ 26 ?_;simp only[pZ,zZ];refine dZ ?_;clear hK1;have hK1:=zH;clear zH;have hK2:=hK1.2;go_wp2_with fail
        clear hK2;go_ret
        exact ⟨by rw [HQ.out];rfl,hB.trans (hK1.1.mono hB.size)⟩
      ·have hdb:((M1.up us k).dn != 1)=true:=by simp [hd]
       have HQ:Hid (M1.setOk us=false):=M1.setOk_no (j:=k) (by have:=hl1.out;omega) (by unfold M1.okAt M1.fol;rw [hu,if_neg hk0,if_neg hr,decide_eq_false hd];simp);clear hall;clear hd hu hk0 hr;go_wp2_with fail
       refine (updateOk_spec _ _ _ _ _ _ _ _ _ _ _ _ _ _ hs).mono ?_;rw [hok];rintro e w1 ⟨rfl,hb1⟩;have hK1:Kp wr w1:=kp_of hb1;clear hb1;go_wp2_with fail
       refine wp_region_held_drew (S:=fun w'=>Kp wr w') (by kernel_rfl) ?_ (fun zH=>?_)
       ·exact kp_drew hK1
       refine uZ 0 ?_;simp only[pZ,zZ];refine uZ 1 ?_;simp only[pZ,zZ];refine uZ 2 ?_;simp only[pZ,zZ];refine uZ 3 ?_;simp only[pZ,zZ];refine uZ 4 ?_;simp only[pZ,zZ];refine uZ 5 ?_;simp only[pZ,zZ];refine uZ 6 ?_;simp only[pZ,zZ];refine uZ 7 ?_;simp only[pZ,zZ];refine uZ 8 ?_;simp only[pZ,zZ];refine uZ 9 ?_;simp only[pZ,zZ];refine uZ 10 ?_;simp only[pZ,zZ];refine uZ 11 ?_;simp only[pZ,zZ];refine uZ 12 ?_;simp only[pZ,zZ];refine uZ 13 ?_;simp only[pZ,zZ];refine uZ 14 ?_;simp only[pZ,zZ];refine uZ 15 ?_;simp only[pZ,zZ];refine uZ 16 ?_;simp only[pZ,zZ];refine uZ 17 ?_;simp only[pZ,zZ];refine dZ ?_;clear hK1;have hK1:=zH;clear zH;have hK2:=hK1.2;go_wp2_with fail
       clear hK2;refine wp_region_held_drew (S:=fun w'=>Kp wr w') (by kernel_rfl) ?_ (fun zH=>?_)
       ·exact kp_drew hK1
       refine uZ 0 ?_;simp only[pZ,zZ];refine uZ 1 ?_;simp only[pZ,zZ];refine uZ 2 ?_;simp only[pZ,zZ];refine uZ 3 ?_;simp only[pZ,zZ];refine uZ 4 ?_;simp only[pZ,zZ];refine uZ 5 ?_;simp only[pZ,zZ];refine uZ 6 ?_;simp only[pZ,zZ];refine uZ 7 ?_;simp only[pZ,zZ];refine uZ 8 ?_;simp only[pZ,zZ];refine vZ 9 ?_;simp only[pZ,zZ];refine vZ 10 ?_;simp only[pZ,zZ];refine vZ 11 ?_;simp only[pZ,zZ];refine vZ 12 ?_;simp only[pZ,zZ];refine vZ 13 ?_;simp only[pZ,zZ];refine vZ 14 ?_;simp only[pZ,zZ];refine vZ 15 ?_;simp only[pZ,zZ];refine vZ 16 ?_;simp only[pZ,zZ];refine vZ 17 ?_;simp only[pZ,zZ];refine vZ 18 ?_;simp only[pZ,zZ];refine vZ 19 ?_;simp only[pZ,zZ];refine vZ 20 ?_;simp only[pZ,zZ];refine vZ 21 ?_;simp only[pZ,zZ];refine vZ 22 ?_;simp only[pZ,zZ];refine vZ 23 ?_;simp only[pZ,zZ];refine vZ 24 ?_;simp only[pZ,zZ];refine vZ 25 ?_;simp only[pZ,zZ];refine uZ 26 ?_;simp only[pZ,zZ];refine dZ ?_;clear hK1;have hK1:=zH;clear zH;have hK2:=hK1.2;go_wp2_with fail
       clear hK2;go_ret
       exact ⟨by rw [HQ.out];rfl,hB.trans (hK1.1.mono hB.size)⟩
   ·replace hu:M1.okU (M1.up us k)=false:=by simpa using hu
    have hok:M1.updB (M1.up us k).dr (M1.up us k).dn (M1.up us k).sw (M1.up us k).sc (M1.up us k).sr (M1.up us k).k (M1.up us k).tr (M1.up us k).id (M1.up us k).pa (M1.up us k).s (M1.up us k).st (M1.up us k).en (M1.up us k).lv=false:=hu;have HQ:Hid (M1.setOk us=false):=M1.setOk_no (j:=k) (by have:=hl1.out;omega) (by unfold M1.okAt;rw [hu];rfl);clear hall;clear hu hc g1;go_wp2_with fail
    refine (updateOk_spec _ _ _ _ _ _ _ _ _ _ _ _ _ _ hs).mono ?_;rw [hok];rintro e w1 ⟨rfl,hb1⟩;have hK1:Kp wr w1:=kp_of hb1;clear hb1;go_wp2_with fail
    go_ret
    exact ⟨by rw [HQ.out];rfl,hB.trans (hK1.1.mono hB.size)⟩
  ·have HQ:Hid (M1.setOk us=decide ((n:Int)≤60)):=by
    show M1.setOk us=_
    have:=hl1.out;rw [M1.setOk_yes (fun j hj=>hall.out j (by omega)),this]
    simp;omega
   clear hall;go_wp2_with fail
   all_goals (go_ret)
   all_goals (exact ⟨by rw [HQ.out];rfl,hB⟩)
end Go.Proofs.YtgcinolbkllkkaaGreat
