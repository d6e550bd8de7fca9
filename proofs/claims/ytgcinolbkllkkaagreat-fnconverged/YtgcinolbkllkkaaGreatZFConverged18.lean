/-
  Texts of one proof, joined: TkS.
-/
import Derived.Test.YtgcinolbkllkkaaGreatZFConverged17
set_option linter.unusedSimpArgs false
set_option linter.unusedVariables false
namespace Go.Proofs.YtgcinolbkllkkaaGreat
open Go.ChangeShapes Go.WideShapes Go.ChangeAt Go.RowKit
theorem tk_txts {xs ys:List M1.Upd}(h:M1.tpre xs ys=true){k:Nat}(hk:k≤ys.length):∀ i,i<(M1.tkO xs ys k).length→(M1.up (M1.tkO xs ys k) i).s.size≤maxLen:=fun i hi=>by
 have hm:M1.up (M1.tkO xs ys k) i∈M1.tkO xs ys k:=by rw [up_get hi];exact List.getElem_mem hi
 have:=M1.tk_txt h hk hm;unfold maxLen;omega
theorem tk_len {xs ys:List M1.Upd}(h:M1.tpre xs ys=true){k:Nat}(hk:k≤ys.length):(M1.tkO xs ys k).length≤60+k:=by
 obtain ⟨h1,h2,h3⟩:=M1.tpre_true h;have hp:=(M1.tk_all (M1.setOk_all h1) (M1.allR_all h3) k hk).2.1.length_eq;have:=M1.tkM_len (xs:=xs) (ys:=ys) k;have:=M1.setOk_len h1;omega
set_option maxHeartbeats 160000000 in
set_option maxRecDepth 100000 in
theorem l3Taken_any (av bv:Option Addr)(n cn m cm:Nat)(xs ys:List M1.Upd)(w:World)(h1:IsUpds w av n cn xs)(h2:IsUpds w bv m cm ys)(HP:Hid (M1.tpre xs ys=true)) :
  Calls Tryz.prog 171 #[.slice av n cn,.slice bv m cm] w fun e w'=>(∃ a c,e=.returned (.tuple #[.slice a (M1.tO xs ys).length c,.bool (M1.setOk (M1.tO xs ys))])∧MU w' a (M1.tO xs ys).length c w.heap.size w'.heap.size (ucell (M1.tO xs ys)))∧Below w.heap.size w w':=by
 have hl2:Hid (ys.length=m):=h2.hlen;have hl1:Hid (xs.length=n):=h1.hlen;have hm1:=h1.hcap;have hm2:=h1.hmost;have hm3:=h2.hcap;have hm4:=h2.hmost;unfold maxLen at hm4 hm2;obtain ⟨ti,hi1,hi2,hi3,hi4⟩:=infoUpd;have hi4':Hid (ti.bytes=112):=hi4;have hi2':Hid (ti.zero=some (.agg #[.int .i64 0,.int .i64 0,.int .i64 0,.int .i64 0,.int .i64 0,.int .i64 0,.int .i64 0,.int .i64 0,.int .i64 0,.string ByteArray.empty,.int .i64 0,.int .i64 0,.int .i64 0])):=hi2;have hi3':Hid (ti.size=13):=hi3;have hi1':Hid (Tryz.prog.info? 72=some ti):=hi1;clear hi1 hi2 hi3 hi4;have hn60:n≤60:=by have:=M1.setOk_len (M1.tpre_true HP.out).1;have:=hl1.out;omega
 have hm60:m≤60:=by have:=(M1.tpre_true HP.out).2.1;have:=hl2.out;omega
 have HX:Hid (∀ j,j<xs.length→M1.okAt xs j=true):=M1.setOk_all (M1.tpre_true HP.out).1;have HY:Hid (∀ j,j<ys.length→M1.okU (M1.up ys j)=true):=M1.allR_all (M1.tpre_true HP.out).2.2;obtain ⟨w1,hw1⟩:∃ x,x=w:=⟨_,rfl⟩
 have hb1:Below w.heap.size w w1:=by rw [hw1];exact Below.refl _ _
 rw [show Calls Tryz.prog 171 #[.slice av n cn,.slice bv m cm] w=Calls Tryz.prog 171 #[.slice av n cn,.slice bv m cm] w1 from by rw [hw1]];go_enter Tryz.func171,Tryz.ntmps171
 have g1:=h1.below hb1;have hs1:=hb1.size;clear hw1;have own0:=ownsU_empty w1 72;have hA:Below w1.heap.size w1 (w1.alloc (.cells #[] 72)):=(Below.refl _ _).alloc (Nat.le_refl _) _;rcases g1.hlies with h0 | ⟨b,off,rfl,hb,hc⟩
 ·have hx:xs=[]:=List.eq_nil_of_length_eq_zero (by have:=hl1.out;omega)
  subst hx;subst h0;obtain ⟨a,c,he,mu0⟩:=MU.of_owns own0;injection he with e1 e2 e3;(try clear e2);subst e1;subst e3;have mu:=mu0.widen (lo':=w.heap.size) (by omega) (Nat.le_refl _);clear mu0;go_wp2_with (at_builtin;(refine wpList_append_zero rfl _ _ _ rfl w1.heap.size 72 ti 13 Tryz.underlying32 hi1'.out _ 0 (ucL []) rfl own0 _ _ rfl ?_))
  obtain ⟨W,hWm,hWb⟩:∃ W,W=(w1.alloc (.cells #[] 72))∧Below w.heap.size w W:=⟨_,rfl,hb1.trans (hA.mono hs1)⟩
  rw [←hWm] at mu ⊢;clear hWm;go_wp2_with fail
  go_loopw [6,7] (fun v i wr=>∃ (k:Nat) (a:Option Addr) (c:Nat),k≤m∧i=.int .i64 k∧v=.slice a (M1.tkO ([]:List M1.Upd) ys k).length c∧MU wr a (M1.tkO ([]:List M1.Upd) ys k).length c w.heap.size wr.heap.size (ucell (M1.tkO ([]:List M1.Upd) ys k))∧Below w.heap.size w wr) (fun _ i _=>m-(intOf i).toNat)
  case atStart=>exact ⟨0,_,_,Nat.zero_le _,rfl,rfl,mu,hWb⟩
  case round =>
   clear mu hWb;obtain ⟨k,a,c,hk,rfl,rfl,mu,hB⟩:=hrel;have hsz:=hB.size;have hjn:=tk_len HP.out (k:=k) (by rw [hl2.out];exact hk);have uq:=mu.upds rfl (tk_txts HP.out (by rw [hl2.out];exact hk));by_cases hlt:k<m
   ·have g2:=h2.below hB
    rcases g2.hlies with h0 | ⟨b2,off2,rfl,hb2,hc2⟩
    ·omega
    obtain ⟨c0,c1,c2,c3,c4,c5,c6,c7,c8,c9,c10,c11,c12⟩:=hc2 k hlt;have i0:(0:Int)≤(k:Int):=by omega
    have i1:(k:Int)<(m:Int):=by omega
    clear hc2 g2;have hky:k<ys.length:=by rw [hl2.out];exact hlt
    obtain ⟨d1,d5,_,_⟩:=M1.okU_dot (HY.out k hky);have T:=M1.tk_all HX.out HY.out k (by omega);obtain ⟨y,hy⟩:∃ y,Hid (M1.fm (M1.l3v (M1.tkO ([]:List M1.Upd) ys k)) (M1.up ys k).dr=y):=⟨_,rfl⟩
    have hyL:Hid (M1.tkL ([]:List M1.Upd) ys k (M1.up ys k).dr=y):=(T.2.2.fm T.1 d1 d5).symm.trans hy.out;have LB:=T.2.2.bd (M1.up ys k).dr;rw [hyL.out] at LB;have j3:IntKind.i64.wrap (y+1)=y+1:=IntWalk.i64_in _ (by omega);clear T;by_cases hq:(M1.up ys k).dn=y+1
    ·have hqH:Hid ((M1.up ys k).dn=y+1):=hq
     clear hq;have HK:Hid (M1.tkO ([]:List M1.Upd) ys (k+1)=M1.insD (M1.tkO ([]:List M1.Upd) ys k) (M1.up ys k)):=(by rw [M1.tkO,hyL.out,if_pos hqH.out]:M1.tkO ([]:List M1.Upd) ys (k+1)=_)
     go_wp2_with fail
     refine wp_region_held_drew (S:=fun w'=>Kp wr w') (by kernel_rfl) ?_ (fun zH=>?_)
     ·exact kp_zero _
     refine uZ 0 ?_;simp only[pZ,zZ];refine uZ 1 ?_;simp only[pZ,zZ];refine uZ 2 ?_;simp only[pZ,zZ];refine uZ 3 ?_;simp only[pZ,zZ];refine uZ 4 ?_;simp only[pZ,zZ];refine uZ 5 ?_;simp only[pZ,zZ];refine uZ 6 ?_;simp only[pZ,zZ];refine uZ 8 ?_;simp only[pZ,zZ];refine uZ 9 ?_;simp only[pZ,zZ];refine uZ 10 ?_;simp only[pZ,zZ];refine uZ 11 ?_;simp only[pZ,zZ];refine uZ 12 ?_;simp only[pZ,zZ];refine uZ 13 ?_;simp only[pZ,zZ];refine sZ 7 fun K hK=>?_;go_simp
     (refine (l3Vector_gen _ _ _ _ _ (uq.below zH.1) (by omega)).mono ?_;rintro e w5 ⟨⟨v5,rfl,own5⟩,hb5⟩;obtain ⟨dv,dc,rfl,mv5⟩:=MV.of_owns own5;go_wp2_with fail)
     refine hK.out _ _ ?_ (fun zH2=>?_)
     ·exact kp_step zH hb5
     clear hK K zH;have zH:=zH2;clear zH2;(try simp only[pZ,zZ]);refine sZ 14 fun K hK=>?_;go_simp
     (refine (l1Of_gen _ _ _ _ _ _ (mv5.vec rfl)).mono ?_;rw [hy.out];rintro e w6 ⟨rfl,rfl⟩;go_wp2_with fail)
     refine hK.out _ _ ?_ (fun zH2=>?_)
     ·exact zH
     clear hK K zH;have zH:=zH2;clear zH2;(try simp only[pZ,zZ]);refine tZ (i:=15) (v:=.int .i64 (y+1)) rfl (.inl ⟨by rfl,?_⟩) zH ?_
     ·(intro w hSw;(try dsimp only at hSw);go_simp;skip)
     (try simp only[pZ,zZ]);refine tZ (i:=16) (v:=.bool true) rfl (.inl ⟨by rfl,?_⟩) zH ?_
     ·(intro w hSw;(try dsimp only at hSw);go_simp;(first | exact hqH.out | simp [hqH.out]))
     (try simp only[pZ,zZ]);refine dZ ?_;have hK1:=zH.1;clear zH;have hB1:=hB.trans (hK1.mono hB.size);have uq1:=uq.below hK1;have hs1':=hB1.size;have g3:=h2.below hB1;have bb1:=hK1.size;clear c0 c1 c2 c3 c4 c5 c6 c7 c8 c9 c10 c11 c12 mv5 own5 hb5 mu uq;rcases g3.hlies with h0 | ⟨b3,off3,e3,hb3,hc3⟩
     ·omega
     injection e3 with e3;injection e3 with e3 e4 e5;subst e3;subst e4;obtain ⟨c0,c1,c2,c3,c4,c5,c6,c7,c8,c9,c10,c11,c12⟩:=hc3 k hlt;clear hc3 g3 hK1;go_wp2_with fail
     refine (l3Put_any _ _ _ _ (M1.up ys k) _ uq1 (by omega)).mono ?_;rintro e w7 ⟨⟨v4,ns,rfl,hput,own4⟩,hb4⟩;have hns:ns=M1.tkO ([]:List M1.Upd) ys (k+1):=(M1.putR_ins hput).trans HK.out.symm;subst hns;obtain ⟨a4,c4',rfl,mu4⟩:=MU.of_owns own4;have hB4:=hB1.trans (hb4.mono hB1.size);clear hput own4 uq1;go_wp2_with fail
     exact ⟨⟨k+1,a4,c4',by omega,by go_num,rfl,mu4.widen (by omega) (Nat.le_refl _),hB4⟩,by simp [intOf];omega⟩
    ·have hqH:Hid (¬(M1.up ys k).dn=y+1):=hq
     clear hq;have HK:Hid (M1.tkO ([]:List M1.Upd) ys (k+1)=M1.tkO ([]:List M1.Upd) ys k):=(by rw [M1.tkO,hyL.out,if_neg hqH.out]:M1.tkO ([]:List M1.Upd) ys (k+1)=_)
     go_wp2_with fail
     refine wp_region_held_drew (S:=fun w'=>Kp wr w') (by kernel_rfl) ?_ (fun zH=>?_)
     ·exact kp_zero _
     refine uZ 0 ?_;simp only[pZ,zZ];refine uZ 1 ?_;simp only[pZ,zZ];refine uZ 2 ?_;simp only[pZ,zZ];refine uZ 3 ?_;simp only[pZ,zZ];refine uZ 4 ?_;simp only[pZ,zZ];refine uZ 5 ?_;simp only[pZ,zZ];refine uZ 6 ?_;simp only[pZ,zZ];refine uZ 8 ?_;simp only[pZ,zZ];refine uZ 9 ?_;simp only[pZ,zZ];refine uZ 10 ?_;simp only[pZ,zZ];refine uZ 11 ?_;simp only[pZ,zZ];refine uZ 12 ?_;simp only[pZ,zZ];refine uZ 13 ?_;simp only[pZ,zZ];refine sZ 7 fun K hK=>?_;go_simp
     (refine (l3Vector_gen _ _ _ _ _ (uq.below zH.1) (by omega)).mono ?_;rintro e w5 ⟨⟨v5,rfl,own5⟩,hb5⟩;obtain ⟨dv,dc,rfl,mv5⟩:=MV.of_owns own5;go_wp2_with fail)
     refine hK.out _ _ ?_ (fun zH2=>?_)
     ·exact kp_step zH hb5
     clear hK K zH;have zH:=zH2;clear zH2;(try simp only[pZ,zZ]);refine sZ 14 fun K hK=>?_;go_simp
     (refine (l1Of_gen _ _ _ _ _ _ (mv5.vec rfl)).mono ?_;rw [hy.out];rintro e w6 ⟨rfl,rfl⟩;go_wp2_with fail)
     refine hK.out _ _ ?_ (fun zH2=>?_)
     ·exact zH
     clear hK K zH;have zH:=zH2;clear zH2;(try simp only[pZ,zZ]);refine tZ (i:=15) (v:=.int .i64 (y+1)) rfl (.inl ⟨by rfl,?_⟩) zH ?_
     ·(intro w hSw;(try dsimp only at hSw);go_simp;skip)
     (try simp only[pZ,zZ]);refine tZ (i:=16) (v:=.bool false) rfl (.inl ⟨by rfl,?_⟩) zH ?_
     ·(intro w hSw;(try dsimp only at hSw);go_simp;(first | exact hqH.out | simp [hqH.out]))
     (try simp only[pZ,zZ]);refine dZ ?_;have hK1:=zH.1;clear zH;have hB1:=hB.trans (hK1.mono hB.size);have mu1:=mu.below hK1;have bb1:=hK1.size;go_wp2_with fail
     exact ⟨⟨k+1,a,c,by omega,by go_num,by rw [HK.out],by rw [HK.out];exact mu1.widen (Nat.le_refl _) bb1,hB1⟩,by simp [intOf];omega⟩
   ·have hkm:Hid (M1.tkO ([]:List M1.Upd) ys k=M1.tO ([]:List M1.Upd) ys):=(by unfold M1.tO;rw [show k=ys.length from by have:=hl2.out;omega]:M1.tkO ([]:List M1.Upd) ys k=M1.tO ([]:List M1.Upd) ys)
    rw [hkm.out] at mu uq ⊢;go_wp2_with fail
    refine (setOk_spec _ _ _ _ _ uq).mono ?_;rintro e w4 ⟨rfl,hb4⟩;have hB4:=hB.trans (hb4.mono hB.size);have mu4:=mu.below hb4;have hs4:=hb4.size;go_wp2_with fail
    refine bodyPost_ret (v:=.tuple #[.slice a (M1.tO ([]:List M1.Upd) ys).length c,.bool (M1.setOk (M1.tO ([]:List M1.Upd) ys))]) (by simp [results,Tryz.results171,go_sem]) rfl ⟨?_,hB4⟩;exact ⟨a,c,rfl,mu4.widen (Nat.le_refl _) hs4⟩
 ·have hnews:∀ j u,(ucL xs)[j]?=some u→(w1.alloc (.cells #[] 72)).cell? ((⟨b,off,none⟩:Addr).add j)=some u:=by
   have:=ucL_take_cells (w:=w1.alloc (.cells #[] 72)) (b:=b) (off:=off) (n:=n) (us:=xs) (fun i hi=>(hc i hi).below hA hb) hl1.out 0 n (by omega);have e:(xs.drop 0).take n=xs:=by rw [List.drop_zero,←hl1.out,List.take_length]
   rw [e] at this
   simpa using this
  by_cases hn0:n=0
  ·have hx:xs=[]:=List.eq_nil_of_length_eq_zero (by have:=hl1.out;omega)
   subst hx;subst hn0;clear hnews;obtain ⟨a,c,he,mu0⟩:=MU.of_owns own0;injection he with e1 e2 e3;(try clear e2);subst e1;subst e3;have mu:=mu0.widen (lo':=w.heap.size) (by omega) (Nat.le_refl _);clear mu0;go_wp2_with (at_builtin;(refine wpList_append_zero rfl _ _ _ rfl w1.heap.size 72 ti 13 Tryz.underlying32 hi1'.out _ 0 (ucL []) rfl own0 _ _ rfl ?_))
   obtain ⟨W,hWm,hWb⟩:∃ W,W=(w1.alloc (.cells #[] 72))∧Below w.heap.size w W:=⟨_,rfl,hb1.trans (hA.mono hs1)⟩
   rw [←hWm] at mu ⊢;clear hWm;go_wp2_with fail
   go_loopw [6,7] (fun v i wr=>∃ (k:Nat) (a:Option Addr) (c:Nat),k≤m∧i=.int .i64 k∧v=.slice a (M1.tkO ([]:List M1.Upd) ys k).length c∧MU wr a (M1.tkO ([]:List M1.Upd) ys k).length c w.heap.size wr.heap.size (ucell (M1.tkO ([]:List M1.Upd) ys k))∧Below w.heap.size w wr) (fun _ i _=>m-(intOf i).toNat)
   case atStart=>exact ⟨0,_,_,Nat.zero_le _,rfl,rfl,mu,hWb⟩
   case round =>
    clear mu hWb;obtain ⟨k,a,c,hk,rfl,rfl,mu,hB⟩:=hrel;have hsz:=hB.size;have hjn:=tk_len HP.out (k:=k) (by rw [hl2.out];exact hk);have uq:=mu.upds rfl (tk_txts HP.out (by rw [hl2.out];exact hk));by_cases hlt:k<m
    ·have g2:=h2.below hB
     rcases g2.hlies with h0 | ⟨b2,off2,rfl,hb2,hc2⟩
     ·omega
     obtain ⟨c0,c1,c2,c3,c4,c5,c6,c7,c8,c9,c10,c11,c12⟩:=hc2 k hlt;have i0:(0:Int)≤(k:Int):=by omega
     have i1:(k:Int)<(m:Int):=by omega
     clear hc2 g2;have hky:k<ys.length:=by rw [hl2.out];exact hlt
     obtain ⟨d1,d5,_,_⟩:=M1.okU_dot (HY.out k hky);have T:=M1.tk_all HX.out HY.out k (by omega);obtain ⟨y,hy⟩:∃ y,Hid (M1.fm (M1.l3v (M1.tkO ([]:List M1.Upd) ys k)) (M1.up ys k).dr=y):=⟨_,rfl⟩
     have hyL:Hid (M1.tkL ([]:List M1.Upd) ys k (M1.up ys k).dr=y):=(T.2.2.fm T.1 d1 d5).symm.trans hy.out;have LB:=T.2.2.bd (M1.up ys k).dr;rw [hyL.out] at LB;have j3:IntKind.i64.wrap (y+1)=y+1:=IntWalk.i64_in _ (by omega);clear T;by_cases hq:(M1.up ys k).dn=y+1
     ·have hqH:Hid ((M1.up ys k).dn=y+1):=hq
      clear hq;have HK:Hid (M1.tkO ([]:List M1.Upd) ys (k+1)=M1.insD (M1.tkO ([]:List M1.Upd) ys k) (M1.up ys k)):=(by rw [M1.tkO,hyL.out,if_pos hqH.out]:M1.tkO ([]:List M1.Upd) ys (k+1)=_)
      go_wp2_with fail
      refine wp_region_held_drew (S:=fun w'=>Kp wr w') (by kernel_rfl) ?_ (fun zH=>?_)
      ·exact kp_zero _
      refine uZ 0 ?_;simp only[pZ,zZ];refine uZ 1 ?_;simp only[pZ,zZ];refine uZ 2 ?_;simp only[pZ,zZ];refine uZ 3 ?_;simp only[pZ,zZ];refine uZ 4 ?_;simp only[pZ,zZ];refine uZ 5 ?_;simp only[pZ,zZ];refine uZ 6 ?_;simp only[pZ,zZ];refine uZ 8 ?_;simp only[pZ,zZ];refine uZ 9 ?_;simp only[pZ,zZ];refine uZ 10 ?_;simp only[pZ,zZ];refine uZ 11 ?_;simp only[pZ,zZ];refine uZ 12 ?_;simp only[pZ,zZ];refine uZ 13 ?_;simp only[pZ,zZ];refine sZ 7 fun K hK=>?_;go_simp
      (refine (l3Vector_gen _ _ _ _ _ (uq.below zH.1) (by omega)).mono ?_;rintro e w5 ⟨⟨v5,rfl,own5⟩,hb5⟩;obtain ⟨dv,dc,rfl,mv5⟩:=MV.of_owns own5;go_wp2_with fail)
      refine hK.out _ _ ?_ (fun zH2=>?_)
      ·exact kp_step zH hb5
      clear hK K zH;have zH:=zH2;clear zH2;(try simp only[pZ,zZ]);refine sZ 14 fun K hK=>?_;go_simp
      (refine (l1Of_gen _ _ _ _ _ _ (mv5.vec rfl)).mono ?_;rw [hy.out];rintro e w6 ⟨rfl,rfl⟩;go_wp2_with fail)
      refine hK.out _ _ ?_ (fun zH2=>?_)
      ·exact zH
      clear hK K zH;have zH:=zH2;clear zH2;(try simp only[pZ,zZ]);refine tZ (i:=15) (v:=.int .i64 (y+1)) rfl (.inl ⟨by rfl,?_⟩) zH ?_
      ·(intro w hSw;(try dsimp only at hSw);go_simp;skip)
      (try simp only[pZ,zZ]);refine tZ (i:=16) (v:=.bool true) rfl (.inl ⟨by rfl,?_⟩) zH ?_
      ·(intro w hSw;(try dsimp only at hSw);go_simp;(first | exact hqH.out | simp [hqH.out]))
      (try simp only[pZ,zZ]);refine dZ ?_;have hK1:=zH.1;clear zH;have hB1:=hB.trans (hK1.mono hB.size);have uq1:=uq.below hK1;have hs1':=hB1.size;have g3:=h2.below hB1;have bb1:=hK1.size;clear c0 c1 c2 c3 c4 c5 c6 c7 c8 c9 c10 c11 c12 mv5 own5 hb5 mu uq;rcases g3.hlies with h0 | ⟨b3,off3,e3,hb3,hc3⟩
      ·omega
      injection e3 with e3;injection e3 with e3 e4 e5;subst e3;subst e4;obtain ⟨c0,c1,c2,c3,c4,c5,c6,c7,c8,c9,c10,c11,c12⟩:=hc3 k hlt;clear hc3 g3 hK1;go_wp2_with fail
      refine (l3Put_any _ _ _ _ (M1.up ys k) _ uq1 (by omega)).mono ?_;rintro e w7 ⟨⟨v4,ns,rfl,hput,own4⟩,hb4⟩;have hns:ns=M1.tkO ([]:List M1.Upd) ys (k+1):=(M1.putR_ins hput).trans HK.out.symm;subst hns;obtain ⟨a4,c4',rfl,mu4⟩:=MU.of_owns own4;have hB4:=hB1.trans (hb4.mono hB1.size);clear hput own4 uq1;go_wp2_with fail
      exact ⟨⟨k+1,a4,c4',by omega,by go_num,rfl,mu4.widen (by omega) (Nat.le_refl _),hB4⟩,by simp [intOf];omega⟩
     ·have hqH:Hid (¬(M1.up ys k).dn=y+1):=hq
      clear hq;have HK:Hid (M1.tkO ([]:List M1.Upd) ys (k+1)=M1.tkO ([]:List M1.Upd) ys k):=(by rw [M1.tkO,hyL.out,if_neg hqH.out]:M1.tkO ([]:List M1.Upd) ys (k+1)=_)
      go_wp2_with fail
      refine wp_region_held_drew (S:=fun w'=>Kp wr w') (by kernel_rfl) ?_ (fun zH=>?_)
      ·exact kp_zero _
      refine uZ 0 ?_;simp only[pZ,zZ];refine uZ 1 ?_;simp only[pZ,zZ];refine uZ 2 ?_;simp only[pZ,zZ];refine uZ 3 ?_;simp only[pZ,zZ];refine uZ 4 ?_;simp only[pZ,zZ];refine uZ 5 ?_;simp only[pZ,zZ];refine uZ 6 ?_;simp only[pZ,zZ];refine uZ 8 ?_;simp only[pZ,zZ];refine uZ 9 ?_;simp only[pZ,zZ];refine uZ 10 ?_;simp only[pZ,zZ];refine uZ 11 ?_;simp only[pZ,zZ];refine uZ 12 ?_;simp only[pZ,zZ];refine uZ 13 ?_;simp only[pZ,zZ];refine sZ 7 fun K hK=>?_;go_simp
      (refine (l3Vector_gen _ _ _ _ _ (uq.below zH.1) (by omega)).mono ?_;rintro e w5 ⟨⟨v5,rfl,own5⟩,hb5⟩;obtain ⟨dv,dc,rfl,mv5⟩:=MV.of_owns own5;go_wp2_with fail)
      refine hK.out _ _ ?_ (fun zH2=>?_)
      ·exact kp_step zH hb5
      clear hK K zH;have zH:=zH2;clear zH2;(try simp only[pZ,zZ]);refine sZ 14 fun K hK=>?_;go_simp
      (refine (l1Of_gen _ _ _ _ _ _ (mv5.vec rfl)).mono ?_;rw [hy.out];rintro e w6 ⟨rfl,rfl⟩;go_wp2_with fail)
      refine hK.out _ _ ?_ (fun zH2=>?_)
      ·exact zH
      clear hK K zH;have zH:=zH2;clear zH2;(try simp only[pZ,zZ]);refine tZ (i:=15) (v:=.int .i64 (y+1)) rfl (.inl ⟨by rfl,?_⟩) zH ?_
      ·(intro w hSw;(try dsimp only at hSw);go_simp;skip)
      (try simp only[pZ,zZ]);refine tZ (i:=16) (v:=.bool false) rfl (.inl ⟨by rfl,?_⟩) zH ?_
      ·(intro w hSw;(try dsimp only at hSw);go_simp;(first | exact hqH.out | simp [hqH.out]))
      (try simp only[pZ,zZ]);refine dZ ?_;have hK1:=zH.1;clear zH;have hB1:=hB.trans (hK1.mono hB.size);have mu1:=mu.below hK1;have bb1:=hK1.size;go_wp2_with fail
      exact ⟨⟨k+1,a,c,by omega,by go_num,by rw [HK.out],by rw [HK.out];exact mu1.widen (Nat.le_refl _) bb1,hB1⟩,by simp [intOf];omega⟩
    ·have hkm:Hid (M1.tkO ([]:List M1.Upd) ys k=M1.tO ([]:List M1.Upd) ys):=(by unfold M1.tO;rw [show k=ys.length from by have:=hl2.out;omega]:M1.tkO ([]:List M1.Upd) ys k=M1.tO ([]:List M1.Upd) ys)
     rw [hkm.out] at mu uq ⊢;go_wp2_with fail
     refine (setOk_spec _ _ _ _ _ uq).mono ?_;rintro e w4 ⟨rfl,hb4⟩;have hB4:=hB.trans (hb4.mono hB.size);have mu4:=mu.below hb4;have hs4:=hb4.size;go_wp2_with fail
     refine bodyPost_ret (v:=.tuple #[.slice a (M1.tO ([]:List M1.Upd) ys).length c,.bool (M1.setOk (M1.tO ([]:List M1.Upd) ys))]) (by simp [results,Tryz.results171,go_sem]) rfl ⟨?_,hB4⟩;exact ⟨a,c,rfl,mu4.widen (Nat.le_refl _) hs4⟩
  ·go_wp2_with (at_builtin;refine wpList_append_lies _ rfl _ _ _ rfl w1.heap.size 72 ti _ 13 112 Tryz.underlying32 hi1'.out hi2'.out hi3'.out hi4'.out rfl (by omega) _ 0 (ucL []) rfl own0 ⟨b,off,none⟩ n cn (ucL xs) rfl (by rw [ucL_len,hl1.out]) hnews (ucL_one xs) (by omega) (by unfold maxLen;omega) (by omega) (by simp) _ rfl ?_;intro g4 cap4 w4 hown4 hgrow4 hat4 hlt4)
   have own4:w4.ownsRow w1.heap.size 72 13 (.slice (some ⟨g4,0,none⟩) xs.length cap4) xs.length (ucL xs):=by
    have q:=hown4;rw [Nat.zero_add,←hl1.out] at q;exact q
   obtain ⟨a,c,he,mu0⟩:=MU.of_owns own4;injection he with e1 e2 e3;(try clear e2);subst e1;subst e3;have mu:=mu0.widen (lo':=w.heap.size) (by omega) (Nat.le_refl _);have hB4:Below w.heap.size w w4:=(hb1.trans (hA.mono hs1)).grown hgrow4 (by simp;omega) (fun k e=>by have:=owns_base own0 k e;omega);rw [←hl1.out];clear mu0 hown4 own4 hnews;obtain ⟨W,hWm,hWb⟩:∃ W,W=w4∧Below w.heap.size w W:=⟨_,rfl,hB4⟩
   rw [←hWm] at mu ⊢;clear hWm;go_wp2_with fail
   go_loopw [6,7] (fun v i wr=>∃ (k:Nat) (a:Option Addr) (c:Nat),k≤m∧i=.int .i64 k∧v=.slice a (M1.tkO xs ys k).length c∧MU wr a (M1.tkO xs ys k).length c w.heap.size wr.heap.size (ucell (M1.tkO xs ys k))∧Below w.heap.size w wr) (fun _ i _=>m-(intOf i).toNat)
   case atStart=>exact ⟨0,_,_,Nat.zero_le _,rfl,rfl,mu,hWb⟩
   case round =>
    clear mu hWb;obtain ⟨k,a,c,hk,rfl,rfl,mu,hB⟩:=hrel;have hsz:=hB.size;have hjn:=tk_len HP.out (k:=k) (by rw [hl2.out];exact hk);have uq:=mu.upds rfl (tk_txts HP.out (by rw [hl2.out];exact hk));by_cases hlt:k<m
    ·have g2:=h2.below hB
     rcases g2.hlies with h0 | ⟨b2,off2,rfl,hb2,hc2⟩
     ·omega
     obtain ⟨c0,c1,c2,c3,c4,c5,c6,c7,c8,c9,c10,c11,c12⟩:=hc2 k hlt;have i0:(0:Int)≤(k:Int):=by omega
     have i1:(k:Int)<(m:Int):=by omega
     clear hc2 g2;have hky:k<ys.length:=by rw [hl2.out];exact hlt
     obtain ⟨d1,d5,_,_⟩:=M1.okU_dot (HY.out k hky);have T:=M1.tk_all HX.out HY.out k (by omega);obtain ⟨y,hy⟩:∃ y,Hid (M1.fm (M1.l3v (M1.tkO xs ys k)) (M1.up ys k).dr=y):=⟨_,rfl⟩
     have hyL:Hid (M1.tkL xs ys k (M1.up ys k).dr=y):=(T.2.2.fm T.1 d1 d5).symm.trans hy.out;have LB:=T.2.2.bd (M1.up ys k).dr;rw [hyL.out] at LB;have j3:IntKind.i64.wrap (y+1)=y+1:=IntWalk.i64_in _ (by omega);clear T;by_cases hq:(M1.up ys k).dn=y+1
     ·have hqH:Hid ((M1.up ys k).dn=y+1):=hq
      clear hq;have HK:Hid (M1.tkO xs ys (k+1)=M1.insD (M1.tkO xs ys k) (M1.up ys k)):=(by rw [M1.tkO,hyL.out,if_pos hqH.out]:M1.tkO xs ys (k+1)=_)
      go_wp2_with fail
      refine wp_region_held_drew (S:=fun w'=>Kp wr w') (by kernel_rfl) ?_ (fun zH=>?_)
      ·exact kp_zero _
      refine uZ 0 ?_;simp only[pZ,zZ];refine uZ 1 ?_;simp only[pZ,zZ];refine uZ 2 ?_;simp only[pZ,zZ];refine uZ 3 ?_;simp only[pZ,zZ];refine uZ 4 ?_;simp only[pZ,zZ];refine uZ 5 ?_;simp only[pZ,zZ];refine uZ 6 ?_;simp only[pZ,zZ];refine uZ 8 ?_;simp only[pZ,zZ];refine uZ 9 ?_;simp only[pZ,zZ];refine uZ 10 ?_;simp only[pZ,zZ];refine uZ 11 ?_;simp only[pZ,zZ];refine uZ 12 ?_;simp only[pZ,zZ];refine uZ 13 ?_;simp only[pZ,zZ];refine sZ 7 fun K hK=>?_;go_simp
      (refine (l3Vector_gen _ _ _ _ _ (uq.below zH.1) (by omega)).mono ?_;rintro e w5 ⟨⟨v5,rfl,own5⟩,hb5⟩;obtain ⟨dv,dc,rfl,mv5⟩:=MV.of_owns own5;go_wp2_with fail)
      refine hK.out _ _ ?_ (fun zH2=>?_)
      ·exact kp_step zH hb5
      clear hK K zH;have zH:=zH2;clear zH2;(try simp only[pZ,zZ]);refine sZ 14 fun K hK=>?_;go_simp
      (refine (l1Of_gen _ _ _ _ _ _ (mv5.vec rfl)).mono ?_;rw [hy.out];rintro e w6 ⟨rfl,rfl⟩;go_wp2_with fail)
      refine hK.out _ _ ?_ (fun zH2=>?_)
      ·exact zH
      clear hK K zH;have zH:=zH2;clear zH2;(try simp only[pZ,zZ]);refine tZ (i:=15) (v:=.int .i64 (y+1)) rfl (.inl ⟨by rfl,?_⟩) zH ?_
      ·(intro w hSw;(try dsimp only at hSw);go_simp;skip)
      (try simp only[pZ,zZ]);refine tZ (i:=16) (v:=.bool true) rfl (.inl ⟨by rfl,?_⟩) zH ?_
      ·(intro w hSw;(try dsimp only at hSw);go_simp;(first | exact hqH.out | simp [hqH.out]))
      (try simp only[pZ,zZ]);refine dZ ?_;have hK1:=zH.1;clear zH;have hB1:=hB.trans (hK1.mono hB.size);have uq1:=uq.below hK1;have hs1':=hB1.size;have g3:=h2.below hB1;have bb1:=hK1.size;clear c0 c1 c2 c3 c4 c5 c6 c7 c8 c9 c10 c11 c12 mv5 own5 hb5 mu uq;rcases g3.hlies with h0 | ⟨b3,off3,e3,hb3,hc3⟩
      ·omega
      injection e3 with e3;injection e3 with e3 e4 e5;subst e3;subst e4;obtain ⟨c0,c1,c2,c3,c4,c5,c6,c7,c8,c9,c10,c11,c12⟩:=hc3 k hlt;clear hc3 g3 hK1;go_wp2_with fail
      refine (l3Put_any _ _ _ _ (M1.up ys k) _ uq1 (by omega)).mono ?_;rintro e w7 ⟨⟨v4,ns,rfl,hput,own4⟩,hb4⟩;have hns:ns=M1.tkO xs ys (k+1):=(M1.putR_ins hput).trans HK.out.symm;subst hns;obtain ⟨a4,c4',rfl,mu4⟩:=MU.of_owns own4;have hB4:=hB1.trans (hb4.mono hB1.size);clear hput own4 uq1;go_wp2_with fail
      exact ⟨⟨k+1,a4,c4',by omega,by go_num,rfl,mu4.widen (by omega) (Nat.le_refl _),hB4⟩,by simp [intOf];omega⟩
     ·have hqH:Hid (¬(M1.up ys k).dn=y+1):=hq
      clear hq;have HK:Hid (M1.tkO xs ys (k+1)=M1.tkO xs ys k):=(by rw [M1.tkO,hyL.out,if_neg hqH.out]:M1.tkO xs ys (k+1)=_)
      go_wp2_with fail
      refine wp_region_held_drew (S:=fun w'=>Kp wr w') (by kernel_rfl) ?_ (fun zH=>?_)
      ·exact kp_zero _
      refine uZ 0 ?_;simp only[pZ,zZ];refine uZ 1 ?_;simp only[pZ,zZ];refine uZ 2 ?_;simp only[pZ,zZ];refine uZ 3 ?_;simp only[pZ,zZ];refine uZ 4 ?_;simp only[pZ,zZ];refine uZ 5 ?_;simp only[pZ,zZ];refine uZ 6 ?_;simp only[pZ,zZ];refine uZ 8 ?_;simp only[pZ,zZ];refine uZ 9 ?_;simp only[pZ,zZ];refine uZ 10 ?_;simp only[pZ,zZ];refine uZ 11 ?_;simp only[pZ,zZ];refine uZ 12 ?_;simp only[pZ,zZ];refine uZ 13 ?_;simp only[pZ,zZ];refine sZ 7 fun K hK=>?_;go_simp
      (refine (l3Vector_gen _ _ _ _ _ (uq.below zH.1) (by omega)).mono ?_;rintro e w5 ⟨⟨v5,rfl,own5⟩,hb5⟩;obtain ⟨dv,dc,rfl,mv5⟩:=MV.of_owns own5;go_wp2_with fail)
      refine hK.out _ _ ?_ (fun zH2=>?_)
      ·exact kp_step zH hb5
      clear hK K zH;have zH:=zH2;clear zH2;(try simp only[pZ,zZ]);refine sZ 14 fun K hK=>?_;go_simp
      (refine (l1Of_gen _ _ _ _ _ _ (mv5.vec rfl)).mono ?_;rw [hy.out];rintro e w6 ⟨rfl,rfl⟩;go_wp2_with fail)
      refine hK.out _ _ ?_ (fun zH2=>?_)
      ·exact zH
      clear hK K zH;have zH:=zH2;clear zH2;(try simp only[pZ,zZ]);refine tZ (i:=15) (v:=.int .i64 (y+1)) rfl (.inl ⟨by rfl,?_⟩) zH ?_
      ·(intro w hSw;(try dsimp only at hSw);go_simp;skip)
      (try simp only[pZ,zZ]);refine tZ (i:=16) (v:=.bool false) rfl (.inl ⟨by rfl,?_⟩) zH ?_
      ·(intro w hSw;(try dsimp only at hSw);go_simp;(first | exact hqH.out | simp [hqH.out]))
      (try simp only[pZ,zZ]);refine dZ ?_;have hK1:=zH.1;clear zH;have hB1:=hB.trans (hK1.mono hB.size);have mu1:=mu.below hK1;have bb1:=hK1.size;go_wp2_with fail
      exact ⟨⟨k+1,a,c,by omega,by go_num,by rw [HK.out],by rw [HK.out];exact mu1.widen (Nat.le_refl _) bb1,hB1⟩,by simp [intOf];omega⟩
    ·have hkm:Hid (M1.tkO xs ys k=M1.tO xs ys):=(by unfold M1.tO;rw [show k=ys.length from by have:=hl2.out;omega]:M1.tkO xs ys k=M1.tO xs ys)
     rw [hkm.out] at mu uq ⊢;go_wp2_with fail
     refine (setOk_spec _ _ _ _ _ uq).mono ?_;rintro e w4 ⟨rfl,hb4⟩;have hB4:=hB.trans (hb4.mono hB.size);have mu4:=mu.below hb4;have hs4:=hb4.size;go_wp2_with fail
     refine bodyPost_ret (v:=.tuple #[.slice a (M1.tO xs ys).length c,.bool (M1.setOk (M1.tO xs ys))]) (by simp [results,Tryz.results171,go_sem]) rfl ⟨?_,hB4⟩;exact ⟨a,c,rfl,mu4.widen (Nat.le_refl _) hs4⟩
end Go.Proofs.YtgcinolbkllkkaaGreat
