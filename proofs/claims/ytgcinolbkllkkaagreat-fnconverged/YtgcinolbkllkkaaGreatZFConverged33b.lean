/-
  Texts of one proof, joined: Wk1, Wk4.
-/
import Derived.Test.YtgcinolbkllkkaaGreatZFConverged23
import Derived.Test.YtgcinolbkllkkaaGreatZFConverged17
set_option linter.unusedSimpArgs false
set_option linter.unusedVariables false
namespace Go.Proofs.YtgcinolbkllkkaaGreat
open Go.ChangeShapes Go.WideShapes Go.ChangeAt Go.RowKit
attribute [local go_sem high] eqU
theorem ueq_comm (a b:M1.Upd):M1.ueq a b=M1.ueq b a:=by
 unfold M1.ueq
 congr 1
 apply propext
 constructor <;> (rintro ⟨h0,h1,h2,h3,h4,h5,h6,h7,h8,h9,h10,h11,h12⟩;exact ⟨h0.symm,h1.symm,h2.symm,h3.symm,h4.symm,h5.symm,h6.symm,h7.symm,h8.symm,h9.symm,h10.symm,h11.symm,h12.symm⟩)
set_option maxHeartbeats 16000000 in
set_option maxRecDepth 100000 in
theorem index_any (av:Option Addr)(n cn:Nat)(us:List M1.Upd)(u:M1.Upd)(w:World)(h1:IsUpds w av n cn us) :
  Calls Tryz.prog 89 #[.slice av n cn,.agg #[.int .i64 u.dr,.int .i64 u.dn,.int .i64 u.sw,.int .i64 u.sc,.int .i64 u.sr,.int .i64 u.k,.int .i64 u.tr,.int .i64 u.id,.int .i64 u.pa,.string u.s,.int .i64 u.st,.int .i64 u.en,.int .i64 u.lv]] w fun e w'=>(∃ i:Int,e=.returned (.int .i64 i)∧Hid (M1.inU us u=decide (0≤i)))∧Below w.heap.size w w':=by
 have hm1:=h1.hcap;have hm2:=h1.hmost;unfold maxLen at hm2;have hl1:Hid (us.length=n):=h1.hlen;have hA:Below w.heap.size w (w.alloc (.cells #[.int .i64 u.dr,.int .i64 u.dn,.int .i64 u.sw,.int .i64 u.sc,.int .i64 u.sr,.int .i64 u.k,.int .i64 u.tr,.int .i64 u.id,.int .i64 u.pa,.string u.s,.int .i64 u.st,.int .i64 u.en,.int .i64 u.lv] 72)):=(Below.refl _ _).alloc (Nat.le_refl _) _;have U0:=uq_new w u 72;go_enter Tryz.func89,Tryz.ntmps89
 go_upto_region 1 with fail
 obtain ⟨W0,hW0⟩:∃ W,w.alloc (.cells #[.int .i64 u.dr,.int .i64 u.dn,.int .i64 u.sw,.int .i64 u.sc,.int .i64 u.sr,.int .i64 u.k,.int .i64 u.tr,.int .i64 u.id,.int .i64 u.pa,.string u.s,.int .i64 u.st,.int .i64 u.en,.int .i64 u.lv] 72)=W:=⟨_,rfl⟩
 rw [hW0] at hA U0 ⊢;clear hW0;obtain ⟨p,hp⟩:∃ p,Hid (w.heap.size=p):=⟨_,rfl⟩
 rw [hp.out] at U0 ⊢;have g1:=h1.below hA;go_wp2_with fail
 go_loopw [8] (fun i wr=>∃ k:Nat,k≤n∧i=.int .i64 k∧Below W0.heap.size W0 wr∧Hid (∀ j,j<k→M1.ueq (M1.up us j) u=false)) (fun i _=>n-(intOf i).toNat)
 case atStart=>exact ⟨0,Nat.zero_le _,rfl,Below.refl _ _,fun j hj=>absurd hj (Nat.not_lt_zero _)⟩
 case round =>
  obtain ⟨k,hk,rfl,hB,hall⟩:=hrel;have B:=hA.trans (hB.mono hA.size);by_cases hlt:k<n
  ·have g2:=g1.below hB
   rcases g2.hlies with h0 | ⟨b,off,rfl,hb,hc⟩
   ·omega
   obtain ⟨c0,c1,c2,c3,c4,c5,c6,c7,c8,c9,c10,c11,c12⟩:=hc k hlt;clear hc g2;have i0:(0:Int)≤(k:Int):=by omega
   have i1:(k:Int)<(n:Int):=by omega
   obtain ⟨t,ht⟩:∃ t,Hid (M1.up us k=t):=⟨_,rfl⟩
   rw [ht.out] at c0 c1 c2 c3 c4 c5 c6 c7 c8 c9 c10 c11 c12;have Ur:=RowAt.below U0 hB;obtain ⟨ca0,ca1,ca2,ca3,ca4,ca5,ca6,ca7,ca8,ca9,ca10,ca11,ca12⟩:=uq_cells Ur;have ul:=Ur.lt;obtain ⟨q,hq⟩:∃ q,Hid (M1.ueq u t=q):=⟨_,rfl⟩
   go_wp2_with fail
   refine wp_region_held_drew (S:=fun w'=>Kp wr w') (by kernel_rfl) ?_ (fun zH=>?_)
   ·exact kp_zero _
   refine uZ 0 ?_;simp only[pZ,zZ];refine uZ 1 ?_;simp only[pZ,zZ];refine uZ 2 ?_;simp only[pZ,zZ];refine uZ 3 ?_;simp only[pZ,zZ];refine uZ 4 ?_;simp only[pZ,zZ];refine tZ (i:=5) (v:=.bool q) rfl (.inl ⟨by rfl,?_⟩) zH ?_
   ·(intro w hSw;(try dsimp only at hSw);go_simp;(try (first | exact congrArg Value.bool hq.out | simp [hq.out])))
   (try simp only[pZ,zZ]);refine dZ ?_;have hB':=hB.trans (zH.1.mono hB.size);have BB:=hA.trans (hB'.mono hA.size);clear zH
   cases q with
   | true =>
    have HY:Hid (M1.inU us u=decide (0≤(k:Int))):=(by rw [M1.inU_yes (j:=k) (by rw [hl1.out];exact hlt) (by rw [ht.out,ueq_comm];exact hq.out),decide_eq_true i0]:_=_)
    go_wp2_with fail
    go_ret
    exact ⟨⟨k,rfl,HY⟩,BB⟩
   | false =>
    have HA:Hid (∀ j,j<k+1→M1.ueq (M1.up us j) u=false):=fun j hj=>by
     by_cases e:j=k
     ·rw [e,ht.out,ueq_comm];exact hq.out
     ·exact hall.out j (by omega)
    go_wp2_with fail
    exact ⟨⟨k+1,by omega,by go_num,hB',HA⟩,by simp [intOf];omega⟩
  ·have HN:Hid (M1.inU us u=decide (0≤(-1:Int))):=(by rw [M1.inU_no (fun j hj=>hall.out j (by rw [hl1.out] at hj;omega))];rfl:_=_)
   go_wp2_with fail
   go_ret
   exact ⟨⟨-1,rfl,HN⟩,B⟩
set_option maxHeartbeats 8000000 in
theorem contains_any (av:Option Addr)(n cn:Nat)(us:List M1.Upd)(u:M1.Upd)(w:World)(h1:IsUpds w av n cn us) :
  Calls Tryz.prog 56 #[.slice av n cn,.agg #[.int .i64 u.dr,.int .i64 u.dn,.int .i64 u.sw,.int .i64 u.sc,.int .i64 u.sr,.int .i64 u.k,.int .i64 u.tr,.int .i64 u.id,.int .i64 u.pa,.string u.s,.int .i64 u.st,.int .i64 u.en,.int .i64 u.lv]] w fun e w'=>e=.returned (.bool (M1.inU us u))∧Below w.heap.size w w':=by
 have hA:Below w.heap.size w (w.alloc (.cells #[.int .i64 u.dr,.int .i64 u.dn,.int .i64 u.sw,.int .i64 u.sc,.int .i64 u.sr,.int .i64 u.k,.int .i64 u.tr,.int .i64 u.id,.int .i64 u.pa,.string u.s,.int .i64 u.st,.int .i64 u.en,.int .i64 u.lv] 72)):=(Below.refl _ _).alloc (Nat.le_refl _) _;have U0:=uq_new w u 72;go_enter Tryz.func56,Tryz.ntmps56
 go_upto_region 1 with fail
 obtain ⟨W0,hW0⟩:∃ W,w.alloc (.cells #[.int .i64 u.dr,.int .i64 u.dn,.int .i64 u.sw,.int .i64 u.sc,.int .i64 u.sr,.int .i64 u.k,.int .i64 u.tr,.int .i64 u.id,.int .i64 u.pa,.string u.s,.int .i64 u.st,.int .i64 u.en,.int .i64 u.lv] 72)=W:=⟨_,rfl⟩
 rw [hW0] at hA U0 ⊢;clear hW0;obtain ⟨ca0,ca1,ca2,ca3,ca4,ca5,ca6,ca7,ca8,ca9,ca10,ca11,ca12⟩:=uq_cells U0;have ul:=U0.lt;go_wp2_with fail
 refine (index_any _ _ _ us u _ (h1.below hA)).mono ?_;rintro e w1 ⟨⟨i,rfl,hi⟩,hb1⟩;have B1:=hA.trans (hb1.mono hA.size);go_wp2_with fail
 go_ret
 exact ⟨by rw [hi.out];rfl,B1⟩
def thereTo (us:List M1.Upd)(u:M1.Upd)(k:Nat):Bool:=(List.range k).any fun j=>M1.ueq (M1.up us j) u
theorem thereTo_succ (us:List M1.Upd)(u:M1.Upd)(k:Nat):thereTo us u (k+1)=(thereTo us u k || M1.ueq (M1.up us k) u):=by
 unfold thereTo;rw [List.range_succ,List.any_append];simp
set_option maxHeartbeats 16000000 in
set_option maxRecDepth 100000 in
theorem l6In_any (av bv:Option Addr)(n cn m cm:Nat)(l us:List M1.Upd)(w:World)(h1:IsUpds w av n cn l)(h2:IsUpds w bv m cm us) :
  Calls Tryz.prog 30 #[.slice av n cn,.slice bv m cm] w fun e w'=>e=.returned (.bool (M1.allIn l us))∧Below w.heap.size w w':=by
 have hm1:=h1.hcap;have hm2:=h1.hmost;have hm3:=h2.hcap;have hm4:=h2.hmost;unfold maxLen at hm2 hm4;have hl1:Hid (l.length=n):=h1.hlen;have hl2:Hid (us.length=m):=h2.hlen;go_enter Tryz.func30,Tryz.ntmps30
 go_wp2_with fail
 go_loopw [5] (fun i wr=>∃ k:Nat,k≤n∧i=.int .i64 k∧Below w.heap.size w wr∧Hid (∀ j,j<k→M1.inU us (M1.up l j)=true)) (fun i _=>n-(intOf i).toNat)
 case atStart=>exact ⟨0,Nat.zero_le _,rfl,Below.refl _ _,fun j hj=>absurd hj (Nat.not_lt_zero _)⟩
 case round =>
  obtain ⟨k,hk,rfl,hB,hall⟩:=hrel;by_cases hlt:k<n
  ·have i0:(0:Int)≤(k:Int):=by omega
   have i1:(k:Int)<(n:Int):=by omega
   obtain ⟨Wo,hWo⟩:∃ W,W=wr:=⟨_,rfl⟩
   rw [←hWo] at hB ⊢;clear hWo;obtain ⟨t,ht⟩:∃ t,Hid (M1.up l k=t):=⟨_,rfl⟩
   go_wp2_with fail
   go_loopw [6,7] (fun b i wr=>∃ (j:Nat) (q:Bool),j≤m∧i=.int .i64 j∧b=.bool q∧Hid (thereTo us t j=q)∧Below w.heap.size w wr) (fun _ i _=>m-(intOf i).toNat)
   case atStart=>exact ⟨0,false,Nat.zero_le _,rfl,rfl,rfl,hB⟩
   case round =>
    obtain ⟨j,q,hj,rfl,rfl,hq,hB2⟩:=hrel;by_cases hlt2:j<m
    ·have g1:=h1.below hB2
     have g2:=h2.below hB2;rcases g1.hlies with h0 | ⟨b,off,rfl,hb,hc⟩
     ·omega
     rcases g2.hlies with h0 | ⟨b2,off2,rfl,hb2,hc2⟩
     ·omega
     obtain ⟨c0,c1,c2,c3,c4,c5,c6,c7,c8,c9,c10,c11,c12⟩:=hc k hlt;obtain ⟨d0,d1,d2,d3,d4,d5,d6,d7,d8,d9,d10,d11,d12⟩:=hc2 j hlt2;clear hc hc2 g1 g2;rw [ht.out] at c0 c1 c2 c3 c4 c5 c6 c7 c8 c9 c10 c11 c12;have j0:(0:Int)≤(j:Int):=by omega
     have j1:(j:Int)<(m:Int):=by omega
     obtain ⟨u,hu⟩:∃ u,Hid (M1.up us j=u):=⟨_,rfl⟩
     rw [hu.out] at d0 d1 d2 d3 d4 d5 d6 d7 d8 d9 d10 d11 d12
     cases q with
     | true =>
      have HT:Hid (thereTo us t (j+1)=true):=(by rw [thereTo_succ,hq.out];rfl:_=_)
      go_wp2_with fail
      refine wp_region_held_drew (S:=fun w'=>Kp wr w') (by kernel_rfl) ?_ (fun zH=>?_)
      ·exact kp_zero _
      refine uZ 0 ?_;simp only[pZ,zZ];refine uZ 1 ?_;simp only[pZ,zZ];refine vZ 2 ?_;simp only[pZ,zZ];refine vZ 3 ?_;simp only[pZ,zZ];refine vZ 4 ?_;simp only[pZ,zZ];refine vZ 5 ?_;simp only[pZ,zZ];refine vZ 6 ?_;simp only[pZ,zZ];refine vZ 7 ?_;simp only[pZ,zZ];refine vZ 8 ?_;simp only[pZ,zZ];refine vZ 9 ?_;simp only[pZ,zZ];refine vZ 10 ?_;simp only[pZ,zZ];refine uZ 11 ?_;simp only[pZ,zZ];refine uZ 12 ?_;simp only[pZ,zZ];refine dZ ?_;have hB3:=hB2.trans (zH.1.mono hB2.size);clear zH;go_wp2_with fail
      exact ⟨⟨j+1,true,by omega,by go_num,rfl,HT,hB3⟩,by simp [intOf];omega⟩
     | false =>
      obtain ⟨z,hz⟩:∃ z,Hid (M1.ueq u t=z):=⟨_,rfl⟩
      have HT:Hid (thereTo us t (j+1)=z):=(by rw [thereTo_succ,hq.out,hu.out,hz.out];rfl:_=_)
      go_wp2_with fail
      refine wp_region_held_drew (S:=fun w'=>Kp wr w') (by kernel_rfl) ?_ (fun zH=>?_)
      ·exact kp_zero _
      refine uZ 0 ?_;simp only[pZ,zZ];refine uZ 1 ?_;simp only[pZ,zZ];refine uZ 2 ?_;simp only[pZ,zZ];refine uZ 3 ?_;simp only[pZ,zZ];refine uZ 4 ?_;simp only[pZ,zZ];refine uZ 5 ?_;simp only[pZ,zZ];refine uZ 6 ?_;simp only[pZ,zZ];refine uZ 7 ?_;simp only[pZ,zZ];refine uZ 8 ?_;simp only[pZ,zZ];refine uZ 9 ?_;simp only[pZ,zZ];refine tZ (i:=10) (v:=.bool z) rfl (.inl ⟨by rfl,?_⟩) zH ?_
      ·(intro w hSw;(try dsimp only at hSw);go_simp;(try (first | exact congrArg Value.bool hz.out | simp [hz.out])))
      (try simp only[pZ,zZ]);refine uZ 11 ?_;simp only[pZ,zZ];refine uZ 12 ?_;simp only[pZ,zZ];refine dZ ?_;have hB3:=hB2.trans (zH.1.mono hB2.size);clear zH;go_wp2_with fail
      exact ⟨⟨j+1,z,by omega,by go_num,rfl,HT,hB3⟩,by simp [intOf];omega⟩
    ·have hjm:Hid (j=m):=by show j=m;omega
     have HI:Hid (M1.inU us (M1.up l k)=q):=(by rw [ht.out];unfold M1.inU;have:=hq.out;unfold thereTo at this;rw [hl2.out,←hjm.out];exact this:_=_)
     cases q with
     | true =>
      have HA:Hid (∀ j,j<k+1→M1.inU us (M1.up l j)=true):=fun j hj=>by
       by_cases e:j=k
       ·rw [e];exact HI.out
       ·exact hall.out j (by omega)
      go_wp2_with fail
      exact ⟨⟨k+1,by omega,by go_num,hB2,HA⟩,by simp [intOf];omega⟩
     | false =>
      have HF:Hid (M1.allIn l us=false):=M1.allIn_no (i:=k) (by rw [hl1.out];exact hlt) HI.out;go_wp2_with fail
      go_ret
      exact ⟨by rw [HF.out];rfl,hB2⟩
  ·have HT:Hid (M1.allIn l us=true):=M1.allIn_yes fun i hi=>hall.out i (by rw [hl1.out] at hi;omega)
   go_wp2_with fail
   go_ret
   exact ⟨by rw [HT.out];rfl,hB⟩
end Go.Proofs.YtgcinolbkllkkaaGreat
namespace Go.Proofs.YtgcinolbkllkkaaGreat
open Go.ChangeShapes Go.WideShapes Go.ChangeAt Go.RowKit
def UniO (w':World)(e:Ending):Option (List M1.Upd)→Prop
  | none=>e=.returned (.tuple #[.slice none 0 0,.bool false])
  | some l=>∃ v c,e=.returned (.tuple #[.slice v l.length c,.bool true])∧IsUpds w' v l.length c l
theorem short_set4 {us:List M1.Upd}(h:M1.setOk us=true):∀ i,i<us.length→(M1.up us i).s.size≤maxLen:=fun i hi=>by
  have:=M1.ok_txt (M1.okAt_ok (M1.setOk_all h i hi));unfold maxLen;omega
set_option maxHeartbeats 32000000 in
set_option maxRecDepth 100000 in
theorem l6Union_any (now:Int)(av:Option Addr)(n cn:Nat)(rs:List M1.Rg)(x2:Value)(w:World)(h1:IsRgs w av n cn rs) :
    Calls Tryz.prog 29 #[.agg #[.int .i64 now,.slice av n cn,x2]] w fun e w'=>UniO w' e (M1.uni rs n)∧Below w.heap.size w w':=by
  have hm1:=h1.hcap;have hm2:=h1.hmost;unfold maxLen at hm2;have hA:Below w.heap.size w (w.alloc (.cells #[.int .i64 now,.slice av n cn,x2] 27)):=(Below.refl _ _).alloc (Nat.le_refl _) _;have P:=r3_new w (.int .i64 now) (.slice av n cn) x2 27;go_enter Tryz.func29,Tryz.ntmps29
  go_upto_region 1 with fail
  obtain ⟨W0,hW0⟩:∃ W,w.alloc (.cells #[.int .i64 now,.slice av n cn,x2] 27)=W:=⟨_,rfl⟩
  rw [hW0] at hA P ⊢;clear hW0;obtain ⟨p,hp⟩:∃ p,Hid (w.heap.size=p):=⟨_,rfl⟩
  rw [hp.out] at P ⊢;have hA1:Below W0.heap.size W0 (W0.alloc (.cells #[] 72)):=(Below.refl _ _).alloc (Nat.le_refl _) _;go_upto_region 2 with fail
  obtain ⟨W1,hW1⟩:∃ W,W0.alloc (.cells #[] 72)=W:=⟨_,rfl⟩
  rw [hW1] at hA1 ⊢;clear hW1;have B1:=hA.trans (hA1.mono hA.size);have P1:=RowAt.below P hA1;have hbl:W0.heap.size≤W1.heap.size:=hA1.size;go_wp2_with fail
  go_loopw [4,5] (fun a i wr=>∃ (k:Nat) (l:List M1.Upd) (m:Nat) (v:Option Addr) (c:Nat),k≤n∧i=.int .i64 k∧a=.slice v m c∧IsUpds wr v m c l∧Below W1.heap.size W1 wr∧Hid (M1.uni rs k=some l)) (fun _ i _=>n-(intOf i).toNat)
  case atStart=>exact ⟨0,[],0,_,0,Nat.zero_le _,rfl,rfl,⟨rfl,Nat.le_refl _,Nat.zero_le _,fun i hi=>absurd hi (Nat.not_lt_zero _),Or.inl rfl⟩,Below.refl _ _,rfl⟩
  case round =>
    obtain ⟨k,l,m,v,c,hk,rfl,rfl,hl,hB,hall⟩:=hrel;have B:=B1.trans (hB.mono B1.size);have P2:=RowAt.below P1 hB;obtain ⟨d0,d1,d2⟩:=r3_cells P2;have pl:=P2.lt;by_cases hlt:k<n
    · have g1:=h1.below B
      rcases g1.hlies with h0 | ⟨b,off,rfl,hb,hc⟩
      · omega
      obtain ⟨v1,m1,n1,c0,c1,c2,c3,c4,hu⟩:=hc k hlt;clear hc g1;have i0:(0:Int)≤(k:Int):=by omega
      have i1:(k:Int)<(n:Int):=by omega
      obtain ⟨r,hr⟩:∃ r,Hid (M1.rgA rs k=r):=⟨_,rfl⟩
      rw [hr.out] at c0 c1 c2 c3 hu;obtain ⟨z,hz⟩:∃ z,Hid (M1.jOk l r.us=z):=⟨_,rfl⟩
      go_wp2_with fail
      refine (joined_spec _ _ _ _ _ _ l r.us _ hl hu).mono ?_;rw [hz.out];rintro e w2 ⟨⟨v2,cap2,rfl,mu⟩,hb2⟩;have hB2:=hB.trans (hb2.mono hB.size);have B2:=B1.trans (hB2.mono B1.size)
      cases z with
      | false =>
        have HN:Hid (M1.uni rs n=none):=M1.uni_fail (k:=k+1) (M1.uni_no hall.out (by rw [hr.out];exact hz.out)) (by omega);go_wp2_with fail
        refine bodyPost_ret (v:=.tuple #[.slice none 0 0,.bool false]) (by simp [results,Tryz.results29,go_sem]) rfl ⟨by rw [HN.out];rfl,B2⟩
      | true =>
        have HU:Hid (M1.uni rs (k+1)=some (M1.jL l r.us)):=(by have:=M1.uni_yes hall.out (by rw [hr.out];exact hz.out);rw [hr.out] at this;exact this:_=_)
        have hs:Hid (M1.setOk (M1.jL l r.us)=true):=M1.uni_set HU.out;have hl2:IsUpds w2 v2 (M1.jL l r.us).length cap2 (M1.jL l r.us):=mu.upds rfl (short_set4 hs.out);go_wp2_with fail
        exact ⟨⟨k+1,M1.jL l r.us,_,v2,cap2,by omega,by go_num,rfl,hl2,hB2,HU⟩,by simp [intOf];omega⟩
    · have HU:Hid (M1.uni rs n=some l):=(by rw [show n=k by omega];exact hall.out:_=_)
      have hll:Hid (m=l.length):=hl.hlen.symm;go_wp2_with fail
      refine bodyPost_ret (v:=.tuple #[.slice v m c,.bool true]) (by simp [results,Tryz.results29,go_sem]) rfl ⟨by rw [HU.out];exact ⟨v,c,by rw [hll.out],by rw [←hll.out];exact hl⟩,B⟩
set_option maxHeartbeats 32000000 in
set_option maxRecDepth 100000 in
theorem l6Mail_any (now:Int)(w1:Option Addr)(n cn:Nat)(x2:Value)(m:M1.Ml)(v:Option Addr)(n1 c1:Nat)(v2:Option Addr)(n2 c2:Nat)(v3:Option Addr)(n3 c3:Nat)(all:List M1.Upd)(w:World)(hv:IsVec w v n1 c1 m.vec)(hu:IsUpds w v2 n2 c2 m.del)(ha:IsUpds w v3 n3 c3 all)(hn:(n:Int)≤9000000) :
    Calls Tryz.prog 31 #[.agg #[.int .i64 now,.slice w1 n cn,x2],.agg #[.int .i64 m.fr,.int .i64 m.tt,.bool m.ask,.slice v n1 c1,.slice v2 n2 c2],.slice v3 n3 c3] w fun e w'=>e=.returned (.bool (M1.mailB n all m))∧Below w.heap.size w w':=by
  have hm1:=hv.hcap;have hm2:=hv.hmost;have hm3:=hu.hcap;have hm4:=hu.hmost;unfold maxLen at hm2 hm4;have hl1:Hid (m.vec.length=n1):=hv.hlen;have hl2:Hid (m.del.length=n2):=hu.hlen;have hA:Below w.heap.size w ((w.alloc (.cells #[.int .i64 now,.slice w1 n cn,x2] 27)).alloc (.cells #[.int .i64 m.fr,.int .i64 m.tt,.bool m.ask,.slice v n1 c1,.slice v2 n2 c2] 62)):=((Below.refl _ _).alloc (Nat.le_refl _) _).alloc (by simp) _;have P:=(r3_new w (.int .i64 now) (.slice w1 n cn) x2 27).alloc (.cells #[.int .i64 m.fr,.int .i64 m.tt,.bool m.ask,.slice v n1 c1,.slice v2 n2 c2] 62);have Z:=r5_new (w.alloc (.cells #[.int .i64 now,.slice w1 n cn,x2] 27)) (.int .i64 m.fr) (.int .i64 m.tt) (.bool m.ask) (.slice v n1 c1) (.slice v2 n2 c2) 62;rw [show (w.alloc (.cells #[.int .i64 now,.slice w1 n cn,x2] 27)).heap.size=w.heap.size+1 by simp] at Z;go_enter Tryz.func31,Tryz.ntmps31
  go_upto_region 1 with fail
  obtain ⟨W0,hW0⟩:∃ W,(w.alloc (.cells #[.int .i64 now,.slice w1 n cn,x2] 27)).alloc (.cells #[.int .i64 m.fr,.int .i64 m.tt,.bool m.ask,.slice v n1 c1,.slice v2 n2 c2] 62)=W:=⟨_,rfl⟩
  rw [hW0] at hA P Z ⊢;clear hW0;obtain ⟨z,hz⟩:∃ z,Hid (w.heap.size+1=z):=⟨_,rfl⟩
  obtain ⟨p,hp⟩:∃ p,Hid (w.heap.size=p):=⟨_,rfl⟩
  rw [hz.out] at Z ⊢;rw [hp.out] at P ⊢;have hv0:=hv.below hA;have hu0:=hu.below hA;have ha0:=ha.below hA;obtain ⟨d0,d1,d2⟩:=r3_cells P;have pl:=P.lt;obtain ⟨e0,e1,e2,e3,e4⟩:=r5_cells Z;have zl:=Z.lt;obtain ⟨ask,hask⟩:∃ ask,Hid (m.ask=ask):=⟨_,rfl⟩
  obtain ⟨q1,hq1⟩:∃ q,Hid (M1.inB m.fr 1 n=q):=⟨_,rfl⟩
  obtain ⟨q2,hq2⟩:∃ q,Hid (M1.inB m.tt 1 n=q):=⟨_,rfl⟩
  obtain ⟨q3,hq3⟩:∃ q,Hid (M1.vecOk m.vec=q):=⟨_,rfl⟩
  go_wp2_with fail
  refine (l1In_any _ _ _ _).mono ?_;rw [hq1.out];rintro e wa ⟨rfl,hwa⟩;obtain rfl:=hwa.symm
  cases q1 with
  | false =>
    have HF:Hid (M1.mailB n all m=false):=(by unfold M1.mailB;rw [hq1.out];rfl:_=_)
    go_wp2_with fail
    go_ret
    exact ⟨by rw [HF.out];rfl,hA⟩
  | true =>
  go_wp2_with fail
  refine (l1In_any _ _ _ _).mono ?_;rw [hq2.out];rintro e wa ⟨rfl,hwa⟩;obtain rfl:=hwa.symm
  cases q2 with
  | false =>
    have HF:Hid (M1.mailB n all m=false):=(by unfold M1.mailB;rw [hq2.out];simp:_=_)
    go_wp2_with fail
    go_ret
    exact ⟨by rw [HF.out];rfl,hA⟩
  | true =>
  by_cases hft:m.fr=m.tt
  · have HF:Hid (M1.mailB n all m=false):=(by unfold M1.mailB;rw [hft];simp:_=_)
    go_wp2_with fail
    go_ret
    exact ⟨by rw [HF.out];rfl,hA⟩
  have HM:Hid (M1.mailB n all m=(if m.ask=true then M1.vecOk m.vec && decide (m.del.length=0) else decide (m.vec.length=0) && (decide (1≤m.del.length∧m.del.length≤3) && M1.allIn m.del all))):=(by unfold M1.mailB;rw [hq1.out,hq2.out];simp [hft]:_=_)
  have hbne:(m.fr==m.tt)=false:=by simp [hft]
  go_wp2_with fail
  refine (vecOk_spec _ _ _ _ _ hv0).mono ?_;rw [hq3.out];rintro e wb ⟨rfl,hb1⟩;have B1:=hA.trans (hb1.mono hA.size);have Z1:=RowAt.below Z hb1;clear e0 e1 e2 e3 e4 zl d0 d1 d2 pl;obtain ⟨e0,e1,e2,e3,e4⟩:=r5_cells Z1;have zl:=Z1.lt;have hu1:=hu0.below hb1;have ha1:=ha0.below hb1
  cases q3 with
  | false =>
    have HF:Hid (M1.mailB n all m=false):=(by
      rw [HM.out,hq3.out]
      cases ask with
      | true=>rw [hask.out];rfl
      | false =>
        rw [hask.out];have:¬m.vec.length=0:=fun h=>by
          have h2:=hq3.out;rw [List.length_eq_zero_iff.1 h] at h2
          revert h2;decide
        simp [this]:_=_)
    go_wp2_with fail
    go_ret
    exact ⟨by rw [HF.out];rfl,B1⟩
  | true =>
  by_cases h3:n2≤3
  · have hng:¬(3:Int)<(n2:Int):=by omega
    have hng2:¬3<n2:=by omega
    rw [hask.out] at e2
    cases ask with
    | true =>
      by_cases h0:n2=0
      · have HF:Hid (M1.mailB n all m=true):=(by rw [HM.out,hask.out,hq3.out,hl2.out,h0];rfl:_=_)
        go_wp2_with fail
        go_ret
        exact ⟨by rw [HF.out];simp [h0],B1⟩
      · have HF:Hid (M1.mailB n all m=false):=(by rw [HM.out,hask.out,hq3.out,hl2.out];simp [h0]:_=_)
        go_wp2_with fail
        go_ret
        exact ⟨by rw [HF.out];simp [h0],B1⟩
    | false =>
      by_cases h0:n1=0
      · by_cases h1:n2=0
        · have HF:Hid (M1.mailB n all m=false):=(by rw [HM.out,hask.out,hl2.out,h1];simp:_=_)
          have k0:((n1:Int)==0)=true:=by simp [h0]
          have k1:¬(0:Int)<(n2:Int):=by omega
          have k2:¬0<n2:=by omega
          go_wp2_with fail
          go_ret
          exact ⟨by rw [HF.out];rfl,B1⟩
        · obtain ⟨q,hq⟩:∃ q,Hid (M1.allIn m.del all=q):=⟨_,rfl⟩
          have HF : Hid (M1.mailB n all m = q) := (by rw [HM.out,hask.out,hl1.out,hl2.out,hq.out];have:1≤n2∧n2≤3:=by omega
                                                      simp [this,h0]:_=_)
          have k0:((n1:Int)==0)=true:=by simp [h0]
          have k1:(0:Int)<(n2:Int):=by omega
          have k2:0<n2:=by omega
          go_wp2_with fail
          refine (l6In_any _ _ _ _ _ _ m.del all _ hu1 ha1).mono ?_;rw [hq.out];rintro e wc ⟨rfl,hb2⟩;have B2:=B1.trans (hb2.mono B1.size);go_wp2_with fail
          go_ret
          exact ⟨by rw [HF.out];rfl,B2⟩
      · have HF:Hid (M1.mailB n all m=false):=(by rw [HM.out,hask.out,hl1.out];simp [h0]:_=_)
        have k0:((n1:Int)==0)=false:=by simp [h0]
        have k1:¬(n1:Int)=0:=by omega
        go_wp2_with fail
        go_ret
        exact ⟨by rw [HF.out];rfl,B1⟩
  · have hgt:(3:Int)<(n2:Int):=by omega
    have hgt2:3<n2:=by omega
    have HF:Hid (M1.mailB n all m=false):=(by
      rw [HM.out,hl2.out]
      cases ask with
      | true=>rw [hask.out,hq3.out];simp;omega
      | false => rw [hask.out];have:¬(1≤n2∧n2≤3):=by omega
                 simp [this]:_=_)
    go_wp2_with fail
    go_ret
    exact ⟨by rw [HF.out];rfl,B1⟩
end Go.Proofs.YtgcinolbkllkkaaGreat
