/-
  Texts of one proof, joined: Wk5.
-/
import Derived.Test.YtgcinolbkllkkaaGreatZFConverged33b
import Derived.Test.YtgcinolbkllkkaaGreatZFConverged19
set_option linter.unusedSimpArgs false
set_option linter.unusedVariables false
namespace Go.Proofs.YtgcinolbkllkkaaGreat
open Go.ChangeShapes Go.WideShapes Go.ChangeAt Go.RowKit
theorem allIn_one (u:M1.Upd)(us:List M1.Upd):M1.allIn [u] us=M1.inU us u:=by
 unfold M1.allIn;show ([0].all fun i=>M1.inU us (M1.up [u] i))=_
 simp
 rfl
theorem isUpds_one {w:World}{b off m c:Nat}{l:List M1.Upd}{j:Nat}(h:IsUpds w (some ⟨b,off,none⟩) m c l)(hj:j<m):IsUpds w (some ⟨b,off+j*13,none⟩) 1 (c-j) [M1.up l j]:=by
 have h1:=h.hcap;have h2:=h.hmost;rcases h.hlies with h0 | ⟨b',off',e,hb,hc⟩
 ·omega
 injection e with e;injection e with e1 e2;subst e1 e2;exact ⟨rfl,by omega,by omega,fun i hi=>(by rw [show i=0 by omega];exact h.htxt j hj),Or.inr ⟨_,_,rfl,hb,fun i hi=>(by rw [show i=0 by omega,show off+j*13+0*13=off+j*13 by omega];exact hc j hj)⟩⟩
set_option maxHeartbeats 32000000 in
set_option maxRecDepth 100000 in
theorem worldOk_spec (now:Int)(v:Option Addr)(n c:Nat)(rs:List M1.Rg)(v2:Option Addr)(n2 c2:Nat)(ms:List M1.Ml)(w:World)(hr:IsRgs w v n c rs)(hm:IsMls w v2 n2 c2 ms) :
  Calls Tryz.prog 8 #[.agg #[.int .i64 now,.slice v n c,.slice v2 n2 c2]] w fun e w'=>e=.returned (.bool (M1.wOk now rs ms))∧Below w.heap.size w w':=by
 have hm1:=hr.hcap;have hm2:=hr.hmost;have hm3:=hm.hcap;have hm4:=hm.hmost;unfold maxLen at hm2 hm4;have hl1:Hid (rs.length=n):=hr.hlen;have hl2:Hid (ms.length=n2):=hm.hlen;have hA:Below w.heap.size w (w.alloc (.cells #[.int .i64 now,.slice v n c,.slice v2 n2 c2] 27)):=(Below.refl _ _).alloc (Nat.le_refl _) _;have P:=r3_new w (.int .i64 now) (.slice v n c) (.slice v2 n2 c2) 27;go_enter Tryz.func8,Tryz.ntmps8
 go_upto_region 1 with fail
 obtain ⟨W0,hW0⟩:∃ W,w.alloc (.cells #[.int .i64 now,.slice v n c,.slice v2 n2 c2] 27)=W:=⟨_,rfl⟩
 rw [hW0] at hA P ⊢;clear hW0;obtain ⟨p,hp⟩:∃ p,Hid (w.heap.size=p):=⟨_,rfl⟩
 rw [hp.out] at P ⊢;obtain ⟨d0,d1,d2⟩:=r3_cells P;have pl:=P.lt;obtain ⟨q,hq⟩:∃ q,Hid (M1.inB now 0 1000000000=q):=⟨_,rfl⟩
 obtain ⟨z,hz⟩:∃ z,Hid (M1.inB (n:Int) 2 5=z):=⟨_,rfl⟩
 go_wp2_with fail
 refine (l1In_any _ _ _ _).mono ?_;rw [hq.out];rintro e w1 ⟨rfl,hw1⟩;obtain rfl:=hw1.symm
 cases q with
 | false =>
  have HF:Hid (M1.wOk now rs ms=false):=M1.wOk_1 (by unfold M1.wHead;rw [hq.out];rfl);go_wp2_with fail
  go_ret
  exact ⟨by rw [HF.out];rfl,hA⟩
 | true =>
 go_wp2_with fail
 refine (l1In_any _ _ _ _).mono ?_;rw [hz.out];rintro e w1 ⟨rfl,hw1⟩;obtain rfl:=hw1.symm
 cases z with
 | false =>
  have HF:Hid (M1.wOk now rs ms=false):=M1.wOk_1 (by unfold M1.wHead;rw [hl1.out,hz.out];simp);go_wp2_with fail
  go_ret
  exact ⟨by rw [HF.out];rfl,hA⟩
 | true =>
 by_cases h40:n2≤40
 case neg =>
  have hgt:(40:Int)<(n2:Int):=by omega
  have hgt2:40<n2:=by omega
  have HF:Hid (M1.wOk now rs ms=false):=M1.wOk_1 (by unfold M1.wHead;rw [hl1.out,hl2.out,decide_eq_false h40];simp);go_wp2_with fail
  go_ret
  exact ⟨by rw [HF.out];rfl,hA⟩
 have hng:¬(40:Int)<(n2:Int):=by omega
 have hng2:¬40<n2:=by omega
 have HD:Hid (M1.wHead now rs.length ms.length=true):=(by unfold M1.wHead;rw [hl1.out,hl2.out,hq.out,hz.out,decide_eq_true h40];rfl:_=_)
 obtain ⟨hn2,hn5⟩:(n:Int)≤5∧(2:Int)≤n:=(by have:=M1.inB_true hz.out;omega)
 go_wp2_with fail
 go_loopw [4] (fun i wr=>∃ k:Nat,k≤n∧i=.int .i64 k∧Below W0.heap.size W0 wr∧Hid (M1.regsB rs k=true)) (fun i _=>n-(intOf i).toNat)
 case atStart=>exact ⟨0,Nat.zero_le _,rfl,Below.refl _ _,rfl⟩
 case round =>
  obtain ⟨k,hk,rfl,hB,hall⟩:=hrel;have B:=hA.trans (hB.mono hA.size);have Pk:=RowAt.below P hB;clear d0 d1 d2 pl;obtain ⟨d0,d1,d2⟩:=r3_cells Pk;have pl:=Pk.lt;by_cases hlt:k<n
  ·have g1:=hr.below B
   rcases g1.hlies with h0 | ⟨b,off,rfl,hb,hc⟩
   ·omega
   obtain ⟨v1,m1,n1,c0,c1,c2',c3,c4,hu⟩:=hc k hlt;have g2:=hc k hlt;clear hc g1;have i0:(0:Int)≤(k:Int):=by omega
   have i1:(k:Int)<(n:Int):=by omega
   obtain ⟨r,hr'⟩:∃ r,Hid (M1.rgA rs k=r):=⟨_,rfl⟩
   rw [hr'.out] at c0 c1 c2' c3 hu;clear g2;obtain ⟨a,ha⟩:∃ a,Hid (M1.regOk r.id r.a r.b r.c r.us=a):=⟨_,rfl⟩
   go_wp2_with fail
   refine (regionOk_spec _ _ _ _ _ _ _ r.us _ hu).mono ?_;rw [ha.out];rintro e w1 ⟨rfl,hb1⟩;have hB1:=hB.trans (hb1.mono hB.size);have B1:=hA.trans (hB1.mono hA.size);have P1:=RowAt.below Pk hb1;have f0:=(hb1.cell (p:=⟨b,off+k*5,none⟩) hb).trans c0;clear d0 d1 d2 pl c0 c1 c2' c3 c4;obtain ⟨d0,d1,d2⟩:=r3_cells P1;have pl:=P1.lt;have hb':b<w1.heap.size:=Nat.lt_of_lt_of_le hb hb1.size
   cases a with
   | false =>
    have HF:Hid (M1.wOk now rs ms=false):=M1.wOk_2 HD.out (by rw [hl1.out];exact M1.wAll_1 (M1.regsB_fail (k:=k+1) (by unfold M1.regsB M1.rOk;rw [hr'.out,ha.out];simp) (by omega)));go_wp2_with fail
    go_ret
    exact ⟨by rw [HF.out];rfl,B1⟩
   | true =>
    by_cases hid:r.id=(k:Int)+1
    ·have HR:Hid (M1.regsB rs (k+1)=true):=(by unfold M1.regsB M1.rOk;rw [hall.out,hr'.out,ha.out];simp [hid]:_=_)
     go_wp2_with fail
     exact ⟨⟨k+1,by omega,by go_num,hB1,HR⟩,by simp [intOf];omega⟩
    ·have HF:Hid (M1.wOk now rs ms=false):=M1.wOk_2 HD.out (by rw [hl1.out];exact M1.wAll_1 (M1.regsB_fail (k:=k+1) (by unfold M1.regsB;rw [hr'.out];simp [hid]) (by omega)))
     have hne:(r.id != (k:Int)+1)=true:=by simp [hid]
     go_wp2_with fail
     go_ret
     exact ⟨by rw [HF.out];rfl,B1⟩
  have HR:Hid (M1.regsB rs n=true):=(by rw [show n=k by omega];exact hall.out:_=_)
  obtain ⟨o,ho⟩:∃ o,Hid (M1.uni rs n=o):=⟨_,rfl⟩
  go_wp2_with fail
  refine (l6Union_any _ _ _ _ rs _ _ (hr.below B)).mono ?_;rw [ho.out];rintro e w1 ⟨hO,hb1⟩;have hB1:=hB.trans (hb1.mono hB.size);have B1:=hA.trans (hB1.mono hA.size);have P1:=RowAt.below Pk hb1;clear d0 d1 d2 pl
  cases o with
  | none =>
   have HF:Hid (M1.wOk now rs ms=false):=M1.wOk_2 HD.out (by rw [hl1.out];exact M1.wAll_2 ho.out);have hO':e=.returned (.tuple #[.slice none 0 0,.bool false]):=hO;clear hO;subst hO';go_wp2_with fail
   go_ret
   exact ⟨by rw [HF.out];rfl,B1⟩
  | some l =>
  obtain ⟨v3,c3,rfl,hl⟩:=hO;have hs:Hid (M1.setOk l=true):=M1.uni_set ho.out;have hm5:=hl.hcap;have hm6:=hl.hmost;unfold maxLen at hm6;obtain ⟨m,hll⟩:∃ m,Hid (l.length=m):=⟨_,rfl⟩
  rw [hll.out] at hl hm5 ⊢;clear hb1 hB hB1 hall hk hlt B Pk wr;go_wp2_with fail
  go_loopw [7] (fun i wr=>∃ j:Nat,j≤m∧i=.int .i64 j∧Below w1.heap.size w1 wr∧Hid (∀ i,i<j→M1.ownB rs n (M1.up l i)=true)) (fun i _=>m-(intOf i).toNat)
  case atStart=>exact ⟨0,Nat.zero_le _,rfl,Below.refl _ _,fun j hj=>absurd hj (Nat.not_lt_zero _)⟩
  case round =>
   obtain ⟨j,hj,rfl,hB,hown⟩:=hrel;have B:=B1.trans (hB.mono B1.size);have Pk:=RowAt.below P1 hB;obtain ⟨d0,d1,d2⟩:=r3_cells Pk;have pl:=Pk.lt;by_cases hlt:j<m
   ·have gl:=hl.below hB
    have hg:=gl;rcases gl.hlies with h0 | ⟨b,off,rfl,hb,hc⟩
    ·omega
    obtain ⟨c0,c1,c2',c3',c4,c5,c6,c7,c8,c9,c10,c11,c12⟩:=hc j hlt;have ho1:=isUpds_one hg hlt;clear hc gl hg c1 c2' c3' c4 c5 c6 c7 c8 c9 c10 c11 c12;have j0:(0:Int)≤(j:Int):=by omega
    have j1:(j:Int)<(m:Int):=by omega
    have j2:(j:Int)+1≤(c3:Int):=by omega
    obtain ⟨u,hu⟩:∃ u,Hid (M1.up l j=u):=⟨_,rfl⟩
    rw [hu.out] at c0 ho1;obtain ⟨ur0,ur1⟩:1≤u.dr∧u.dr≤5:=(by have:=M1.ok_rg (M1.setOk_all hs.out) (j:=j) (by rw [hll.out];exact hlt);rw [hu.out] at this;exact ⟨this.1,this.2.1⟩)
    by_cases hd:u.dr≤(n:Int)
    ·have g1:=hr.below B
     rcases g1.hlies with h0 | ⟨b1,off1,rfl,hb1,hc1⟩
     ·omega
     obtain ⟨v4,m4,n4,x0,x1,x2,x3,x4,hus⟩:=hc1 (u.dr.toNat-1) (by omega);clear hc1 g1 x0 x1 x2 x3;have e0:(0:Int)≤u.dr-1:=by omega
     have e1:u.dr-1<(n:Int):=by omega
     have hng3:¬(n:Int)<u.dr:=by omega
     obtain ⟨q,hq4⟩:∃ q,Hid (M1.inU (M1.rgA rs (u.dr.toNat-1)).us u=q):=⟨_,rfl⟩
     have hE:Hid ((u.dr-1).toNat=u.dr.toNat-1):=by show (u.dr-1).toNat=u.dr.toNat-1;omega
     go_wp2_with fail
     refine wp_region_held_drew (S:=fun w'=>Kp wr w') (by kernel_rfl) ?_ (fun zH=>?_)
     ·exact kp_zero _
     refine uZ 0 ?_;simp only[pZ,zZ];refine uZ 1 ?_;simp only[pZ,zZ];refine uZ 2 ?_;simp only[pZ,zZ];refine uZ 3 ?_;simp only[pZ,zZ];refine uZ 4 ?_;simp only[pZ,zZ];refine uZ 5 ?_;simp only[pZ,zZ];refine uZ 6 ?_;simp only[pZ,zZ];refine tZ (i:=7) (v:=.bool false) rfl (.inl ⟨by rfl,?_⟩) zH ?_
     ·(intro w hSw;(try dsimp only at hSw);go_simp;skip)
     (try simp only[pZ,zZ]);refine uZ 8 ?_;simp only[pZ,zZ];refine uZ 9 ?_;simp only[pZ,zZ];refine uZ 10 ?_;simp only[pZ,zZ];refine uZ 11 ?_;simp only[pZ,zZ];refine tZ (i:=12) (v:=.int .i64 ((j:Int)+1)) rfl (.inl ⟨by rfl,?_⟩) zH ?_
     ·(intro w hSw;(try dsimp only at hSw);go_simp;(try exact IntWalk.i64_in _ (by omega)))
     (try simp only[pZ,zZ]);refine tZ (i:=13) (v:=.slice (some ⟨b,off+j*13,none⟩) 1 (c3-j)) rfl (.inl ⟨by rfl,?_⟩) zH ?_
     ·(intro w hSw;(try dsimp only at hSw);go_simp;(rw [if_pos (show (0:Int)≤(j:Int)+1 by omega),if_neg (show ¬c3=j by omega)]))
     (try simp only[pZ,zZ]);refine uZ 14 ?_;simp only[pZ,zZ];refine uZ 15 ?_;simp only[pZ,zZ];refine uZ 16 ?_;simp only[pZ,zZ];refine uZ 17 ?_;simp only[pZ,zZ];refine uZ 18 ?_;simp only[pZ,zZ];refine uZ 19 ?_;simp only[pZ,zZ];refine uZ 20 ?_;simp only[pZ,zZ];refine uZ 21 ?_;simp only[pZ,zZ];refine tZ (i:=22) (v:=.int .i64 (u.dr-1)) rfl (.inl ⟨by rfl,?_⟩) zH ?_
     ·(intro w hSw;(try dsimp only at hSw);go_simp;(try exact IntWalk.i64_in _ (by omega)))
     (try simp only[pZ,zZ]);refine uZ 23 ?_;simp only[pZ,zZ];refine uZ 24 ?_;simp only[pZ,zZ];refine uZ 25 ?_;simp only[pZ,zZ];refine sZ 26 fun K hK=>?_;go_simp
     (refine (l6In_any _ _ _ _ _ _ [u] _ _ (ho1.below zH.1) (hus.below zH.1)).mono ?_;rw [allIn_one,hq4.out];rintro e wc ⟨rfl,hbw⟩;go_wp2_with fail)
     refine hK.out _ _ ?_ (fun zH2=>?_)
     ·exact kp_step zH hbw
     clear hK K zH;have zH:=zH2;clear zH2;(try simp only[pZ,zZ]);refine uZ 27 ?_;simp only[pZ,zZ];refine uZ 28 ?_;simp only[pZ,zZ];refine dZ ?_;have hB4:=hB.trans (zH.1.mono hB.size);have B4:=B1.trans (hB4.mono B1.size);clear zH
     cases q with
     | true =>
      have HA:Hid (∀ i,i<j+1→M1.ownB rs n (M1.up l i)=true):=fun i hi=>by
       by_cases e:i=j
       ·rw [e,hu.out];unfold M1.ownB;rw [hE.out,hq4.out,decide_eq_true hd];rfl
       ·exact hown.out i (by omega)
      go_wp2_with fail
      exact ⟨⟨j+1,by omega,by go_num,hB4,HA⟩,by simp [intOf];omega⟩
     | false =>
      have HF:Hid (M1.wOk now rs ms=false):=M1.wOk_2 HD.out (by rw [hl1.out];exact M1.wAll_3 ho.out (M1.ownsB_no (i:=j) (by rw [hll.out];exact hlt) (by rw [hu.out];unfold M1.ownB;rw [hE.out,hq4.out];simp)));go_wp2_with fail
      go_ret
      exact ⟨by rw [HF.out];rfl,B4⟩
    ·have hgt:(n:Int)<u.dr:=by omega
     have HF:Hid (M1.wOk now rs ms=false):=M1.wOk_2 HD.out (by rw [hl1.out];exact M1.wAll_3 ho.out (M1.ownsB_no (i:=j) (by rw [hll.out];exact hlt) (by rw [hu.out];unfold M1.ownB;rw [decide_eq_false hd];rfl)));go_wp2_with fail
     refine wp_region_held_drew (S:=fun w'=>Kp wr w') (by kernel_rfl) ?_ (fun zH=>?_)
     ·exact kp_zero _
     refine uZ 0 ?_;simp only[pZ,zZ];refine uZ 1 ?_;simp only[pZ,zZ];refine uZ 2 ?_;simp only[pZ,zZ];refine uZ 3 ?_;simp only[pZ,zZ];refine uZ 4 ?_;simp only[pZ,zZ];refine uZ 5 ?_;simp only[pZ,zZ];refine uZ 6 ?_;simp only[pZ,zZ];refine tZ (i:=7) (v:=.bool true) rfl (.inl ⟨by rfl,?_⟩) zH ?_
     ·(intro w hSw;(try dsimp only at hSw);go_simp;skip)
     (try simp only[pZ,zZ]);refine uZ 8 ?_;simp only[pZ,zZ];refine vZ 9 ?_;simp only[pZ,zZ];refine vZ 10 ?_;simp only[pZ,zZ];refine vZ 11 ?_;simp only[pZ,zZ];refine vZ 12 ?_;simp only[pZ,zZ];refine vZ 13 ?_;simp only[pZ,zZ];refine vZ 14 ?_;simp only[pZ,zZ];refine vZ 15 ?_;simp only[pZ,zZ];refine vZ 16 ?_;simp only[pZ,zZ];refine vZ 17 ?_;simp only[pZ,zZ];refine vZ 18 ?_;simp only[pZ,zZ];refine vZ 19 ?_;simp only[pZ,zZ];refine vZ 20 ?_;simp only[pZ,zZ];refine vZ 21 ?_;simp only[pZ,zZ];refine vZ 22 ?_;simp only[pZ,zZ];refine vZ 23 ?_;simp only[pZ,zZ];refine vZ 24 ?_;simp only[pZ,zZ];refine vZ 25 ?_;simp only[pZ,zZ];refine vZ 26 ?_;simp only[pZ,zZ];refine vZ 27 ?_;simp only[pZ,zZ];refine uZ 28 ?_;simp only[pZ,zZ];refine dZ ?_;have B4:=B.trans (zH.1.mono B.size);clear zH;go_wp2_with fail
     go_ret
     exact ⟨by rw [HF.out];rfl,B4⟩
   have HO:Hid (M1.wAll rs n=some l):=M1.wAll_0 HR.out ho.out (M1.ownsB_yes fun i hi=>hown.out i (by rw [hll.out] at hi;omega));have HC:Hid (M1.wOk now rs ms=M1.mailsB n l ms):=(by rw [M1.wOk_3 HD.out (by rw [hl1.out];exact HO.out),hl1.out]:_=_)
   have hl':=hl.below hB;obtain ⟨W2,hW2⟩:∃ W,W=wr:=⟨_,rfl⟩
   rw [←hW2] at B Pk hl' ⊢;clear d0 d1 d2 pl hB hW2;go_wp2_with fail
   go_loopw [8] (fun i wr=>∃ k:Nat,k≤n2∧i=.int .i64 k∧Below W2.heap.size W2 wr∧Hid (∀ j,j<k→M1.mailB n l (M1.mlA ms j)=true)) (fun i _=>n2-(intOf i).toNat)
   case atStart=>exact ⟨0,Nat.zero_le _,rfl,Below.refl _ _,fun j hj=>absurd hj (Nat.not_lt_zero _)⟩
   case round =>
    obtain ⟨k,hk,rfl,hB,hall⟩:=hrel;have B2:=B.trans (hB.mono B.size);have P2:=RowAt.below Pk hB;obtain ⟨d0,d1,d2⟩:=r3_cells P2;have pl:=P2.lt;by_cases hlt:k<n2
    ·have g2:=hm.below B2
     rcases g2.hlies with h0 | ⟨b,off,rfl,hb,hc⟩
     ·omega
     obtain ⟨v5,n5,c5,v6,n6,c6,e0,e1,e2,e3,e4,hv,hu⟩:=hc k hlt;clear hc g2;have i0:(0:Int)≤(k:Int):=by omega
     have i1:(k:Int)<(n2:Int):=by omega
     obtain ⟨t,hm'⟩:∃ m,Hid (M1.mlA ms k=m):=⟨_,rfl⟩
     rw [hm'.out] at e0 e1 e2 hv hu;obtain ⟨a,ha⟩:∃ a,Hid (M1.mailB n l t=a):=⟨_,rfl⟩
     go_wp2_with fail
     refine wp_region_held_drew (S:=fun w'=>Kp wr w') (by kernel_rfl) ?_ (fun zH=>?_)
     ·exact kp_zero _
     refine uZ 0 ?_;simp only[pZ,zZ];refine uZ 1 ?_;simp only[pZ,zZ];refine uZ 2 ?_;simp only[pZ,zZ];refine uZ 3 ?_;simp only[pZ,zZ];refine uZ 4 ?_;simp only[pZ,zZ];refine uZ 5 ?_;simp only[pZ,zZ];refine uZ 6 ?_;simp only[pZ,zZ];refine sZ 7 fun K hK=>?_;go_simp
     (refine (l6Mail_any _ _ _ _ _ t _ _ _ _ _ _ _ _ _ l _ (hv.below zH.1) (hu.below zH.1) ((hl'.below hB).below zH.1) (by omega)).mono ?_;rw [ha.out];rintro e wc ⟨rfl,hbw⟩;go_wp2_with fail)
     refine hK.out _ _ ?_ (fun zH2=>?_)
     ·exact kp_step zH hbw
     clear hK K zH;have zH:=zH2;clear zH2;(try simp only[pZ,zZ]);refine uZ 8 ?_;simp only[pZ,zZ];refine dZ ?_;have hB4:=hB.trans (zH.1.mono hB.size);have B4:=B.trans (hB4.mono B.size);clear zH
     cases a with
     | true =>
      have HA:Hid (∀ j,j<k+1→M1.mailB n l (M1.mlA ms j)=true):=fun j hj=>by
       by_cases e:j=k
       ·rw [e,hm'.out];exact ha.out
       ·exact hall.out j (by omega)
      go_wp2_with fail
      exact ⟨⟨k+1,by omega,by go_num,hB4,HA⟩,by simp [intOf];omega⟩
     | false =>
      have HF:Hid (M1.wOk now rs ms=false):=(by rw [HC.out];exact M1.mailsB_no (i:=k) (by rw [hl2.out];exact hlt) (by rw [hm'.out];exact ha.out):_=_)
      go_wp2_with fail
      go_ret
      exact ⟨by rw [HF.out];rfl,B4⟩
    ·have HT:Hid (M1.wOk now rs ms=true):=(by rw [HC.out];exact M1.mailsB_yes fun i hi=>hall.out i (by rw [hl2.out] at hi;omega):_=_)
     go_wp2_with fail
     go_ret
     exact ⟨by rw [HT.out];rfl,B2⟩
end Go.Proofs.YtgcinolbkllkkaaGreat
