/-
  Texts of one proof, joined: Rv5.
-/
import Derived.Test.YtgcinolbkllkkaaGreatZFConverged19
set_option linter.unusedSimpArgs false
set_option linter.unusedVariables false
namespace Go.Proofs.YtgcinolbkllkkaaGreat
open Go.ChangeShapes Go.WideShapes Go.ChangeAt Go.RowKit
theorem mu_wid {w:World}{av:Option Addr}{n cap lo lo' hi:Nat}{f:Nat→Value}(h:MU w av n cap lo hi f)(hl:lo'≤lo):MU w av n cap lo' hi f :=
 ⟨h.1,h.2.1,h.2.2.imp (fun h=>h) fun ⟨g,e,h1,h2,r⟩=>⟨g,e,by omega,h2,r⟩⟩
theorem mu_up {w:World}{av:Option Addr}{n cap lo hi hi':Nat}{f:Nat→Value}(h:MU w av n cap lo hi f)(hl:hi≤hi'):MU w av n cap lo hi' f :=
 ⟨h.1,h.2.1,h.2.2.imp (fun h=>h) fun ⟨g,e,h1,h2,r⟩=>⟨g,e,h1,by omega,r⟩⟩
theorem rg_put3 {w:World}{p:Nat}{id a b c:Int}{av:Option Addr}{n cn:Nat}(h:RgAt w p id a b c av n cn)(x y z:Int):RgAt (((w.setCell ⟨p,1,none⟩ (.int .i64 x)).setCell ⟨p,2,none⟩ (.int .i64 y)).setCell ⟨p,3,none⟩ (.int .i64 z)) p id x y z av n cn :=
 RowAt.same (((h.set (o:=1) (by omega) (.int .i64 x)).set (o:=2) (by omega) (.int .i64 y)).set (o:=3) (by omega) (.int .i64 z)) fun o ho=>by
  match o,ho with
  | 0,_=>rfl
  | 1,_=>rfl
  | 2,_=>rfl
  | 3,_=>rfl
  | 4,_=>rfl
def RcS (w w':World)(e:Ending)(r:M1.Rg)(ys:List M1.Upd)(now:Int):Prop:=∃ v,e=.returned (.tuple #[v,.int .i64 (M1.rcC r ys now)])∧RgD w w' v (M1.rcR r ys now)
set_option maxHeartbeats 32000000 in
set_option maxRecDepth 100000 in
theorem l5Received_any (r:M1.Rg)(av bv:Option Addr)(n cn m cm:Nat)(ys:List M1.Upd)(now:Int)(w:World)(hU:IsUpds w av n cn r.us)(h2:IsUpds w bv m cm ys)(HO:Hid (M1.rOk r=true)) :
  Calls Tryz.prog 155 #[.agg #[.int .i64 r.id,.int .i64 r.a,.int .i64 r.b,.int .i64 r.c,.slice av n cn],.slice bv m cm,.int .i64 now] w fun e w'=>RcS w w' e r ys now∧Below w.heap.size w w':=by
 have hln:Hid (r.us.length=n):=hU.hlen;have hl2:Hid (ys.length=m):=h2.hlen;have hn60:n≤60:=by have:=(rOk_short HO.out).2;have:=hln.out;omega
 have hm3:=h2.hcap;have hm4:=h2.hmost;unfold maxLen at hm4;have hA:Below w.heap.size w ((w.alloc (.cells #[.int .i64 r.id,.int .i64 r.a,.int .i64 r.b,.int .i64 r.c,.slice av n cn] 34)).alloc (.cells #[.int .i64 0,.int .i64 0,.int .i64 0,.int .i64 0,.slice none 0 0] 34)):=((Below.refl _ _).alloc (Nat.le_refl _) _).alloc (by simp) _;have P0:RgAt ((w.alloc (.cells #[.int .i64 r.id,.int .i64 r.a,.int .i64 r.b,.int .i64 r.c,.slice av n cn] 34)).alloc (.cells #[.int .i64 0,.int .i64 0,.int .i64 0,.int .i64 0,.slice none 0 0] 34)) w.heap.size r.id r.a r.b r.c av n cn:=(rg_new w r.id r.a r.b r.c av n cn 34).alloc _;have z0:=rg_new (w.alloc (.cells #[.int .i64 r.id,.int .i64 r.a,.int .i64 r.b,.int .i64 r.c,.slice av n cn] 34)) 0 0 0 0 none 0 0 34;simp only [World.size_alloc] at z0;go_enter Tryz.func155,Tryz.ntmps155
 go_upto_region 1 with fail
 obtain ⟨W0,hW0⟩:∃ W,(w.alloc (.cells #[.int .i64 r.id,.int .i64 r.a,.int .i64 r.b,.int .i64 r.c,.slice av n cn] 34)).alloc (.cells #[.int .i64 0,.int .i64 0,.int .i64 0,.int .i64 0,.slice none 0 0] 34)=W:=⟨_,rfl⟩
 rw [hW0] at hA P0 z0 ⊢;clear hW0;obtain ⟨p,hp⟩:∃ p,Hid (w.heap.size=p):=⟨_,rfl⟩
 obtain ⟨z,hz⟩:∃ z,Hid (w.heap.size+1=z):=⟨_,rfl⟩
 have hzw:w.heap.size≤z:=by have:=hz.out;omega
 have hpw:w.heap.size≤p:=by have:=hp.out;omega
 rw [hz.out] at z0 ⊢;rw [hp.out] at P0 ⊢;obtain ⟨d0,d1,d2,d3,d4⟩:=P0.cells;have pl:=P0.lt;have zl:=z0.lt;have hpz:¬p=z:=by have:=hp.out;have:=hz.out;omega
 go_wp2_with fail
 refine (l5Copy_any r.id r.a r.b r.c r.us _ _ _ _ (hU.below hA) (by omega)).mono ?_;rintro e w1 ⟨⟨v1,c1,rfl,mu1⟩,hb1⟩;have B1:=hA.trans (hb1.mono hA.size);have P1:RgAt w1 p r.id r.a r.b r.c av n cn:=P0.below hb1;have z1:RgAt w1 z 0 0 0 0 none 0 0:=z0.below hb1;clear d0 d1 d2 d3 d4 P0 z0;have hA2:Below w1.heap.size w1 (w1.alloc (.cells #[.int .i64 r.id,.int .i64 r.a,.int .i64 r.b,.int .i64 r.c,.slice v1 n c1] 34)):=(Below.refl _ _).alloc (Nat.le_refl _) _;have o2:=rg_new w1 r.id r.a r.b r.c v1 n c1 34;go_upto_region 2 with fail
 obtain ⟨W2,hW2⟩:∃ W,w1.alloc (.cells #[.int .i64 r.id,.int .i64 r.a,.int .i64 r.b,.int .i64 r.c,.slice v1 n c1] 34)=W:=⟨_,rfl⟩
 rw [hW2] at hA2 o2 ⊢;clear hW2;have B2:=B1.trans (hA2.mono B1.size);have P2:RgAt W2 p r.id r.a r.b r.c av n cn:=P1.below hA2;have z2:RgAt W2 z 0 0 0 0 none 0 0:=z1.below hA2;have mu2:=mu1.below hA2;have hs0:=hA.size;have hs1:=hb1.size;have hs2:=hA2.size;obtain ⟨o,ho⟩:∃ o,Hid (w1.heap.size=o):=⟨_,rfl⟩
 have how:w.heap.size≤o:=by have:=ho.out;omega
 have hzo:z<o:=by have:=ho.out;omega
 have hpo:p<o:=by have:=ho.out;omega
 rw [ho.out] at o2 ⊢;obtain ⟨d0,d1,d2,d3,d4⟩:=P2.cells;have pl2:=P2.lt;clear P1 z1 mu1 hA2;obtain ⟨K,hK⟩:∃ K,Hid (M1.tOk r.us ys=K):=⟨_,rfl⟩
 obtain ⟨T,hT⟩:∃ T,Hid (M1.tL r.us ys=T):=⟨_,rfl⟩
 go_wp2_with fail
 refine (taken_spec _ _ _ _ _ _ _ _ _ (hU.below B2) (h2.below B2)).mono ?_;rw [hK.out,hT.out];rintro e w3 ⟨⟨v3,c3,rfl,mu3⟩,hb3⟩;have B3:=B2.trans (hb3.mono B2.size);have P3:RgAt w3 p r.id r.a r.b r.c av n cn:=P2.below hb3;have z3:RgAt w3 z 0 0 0 0 none 0 0:=z2.below hb3;have o3:RgAt w3 o r.id r.a r.b r.c v1 n c1:=o2.below hb3;have nu3:=mu2.below hb3;have hs3:=hb3.size;have o2l:=o2.lt;clear d0 d1 d2 d3 d4 P2 z2 o2 mu2 pl2;have l3:=o3.lt;have hzq:∀ q,v1=some q→¬q.block=z:=fun q hq=>by
  rcases nu3.2.2 with ⟨_,e⟩ | ⟨g,e,h1,_,_⟩
  ·rw [e] at hq;cases hq
  ·rw [e] at hq;cases hq;show ¬g=z;omega
 have nu4:MU w3 v1 n c1 W0.heap.size w3.heap.size (ucell r.us):=⟨nu3.1,nu3.2.1,nu3.2.2.imp (fun h=>h) fun ⟨g,e,h1,h2,r⟩=>⟨g,e,h1,by omega,r⟩⟩
 by_cases hm:m≤60
 ·have dm:decide ((60:Int)<(m:Int))=false:=decide_eq_false (by omega)
  have dm2:decide (60<m)=false:=decide_eq_false (by omega);obtain ⟨o2,ho2⟩:∃ o,Hid (M1.inB now 0 1000000000=o):=⟨_,rfl⟩
  go_wp2_with fail
  refine (l1In_any _ _ _ _).mono ?_;rw [ho2.out];rintro e w4 ⟨rfl,rfl⟩
  cases o2 with
  | false =>
   have HC:=M1.rc_2 HO.out (M1.rcF_2 (ys:=ys) ho2.out);obtain ⟨d0,d1,d2,d3,d4⟩:=o3.cells;obtain ⟨f0,f1,f2,f3,f4⟩:=z3.frees;obtain ⟨e0,e1,e2,e3,e4⟩:=z3.cells;have zl9:=z3.lt;have zf:=z3.put r.id r.a r.b r.c v1 n c1;have hBz:=bel_put5 B3 hzw (.int .i64 r.id) (.int .i64 r.a) (.int .i64 r.b) (.int .i64 r.c) (.slice v1 n c1);have hmz:=mu_put5 nu4 hzq (.int .i64 r.id) (.int .i64 r.a) (.int .i64 r.b) (.int .i64 r.c) (.slice v1 n c1);go_wp2_with fail
   obtain ⟨Wz,hWz⟩:∃ W,((((w4.setCell ⟨z,0,none⟩ (.int .i64 r.id)).setCell ⟨z,1,none⟩ (.int .i64 r.a)).setCell ⟨z,2,none⟩ (.int .i64 r.b)).setCell ⟨z,3,none⟩ (.int .i64 r.c)).setCell ⟨z,4,none⟩ (.slice v1 n c1)=W:=⟨_,rfl⟩
   rw [hWz] at zf hBz hmz ⊢;clear hWz f0 f1 f2 f3 f4 e0 e1 e2 e3 e4;obtain ⟨x0,x1,x2,x3,x4⟩:=zf.cells;refine bodyPost_ret (v:=.tuple #[.agg #[.int .i64 r.id,.int .i64 r.a,.int .i64 r.b,.int .i64 r.c,.slice v1 n c1],.int .i64 2]) (by simp [results,Tryz.results155,go_sem,x0,x1,x2,x3,x4]) rfl ?_;exact ⟨⟨_,by rw [HC.1],by rw [HC.2];exact ⟨v1,c1,by rw [hln.out],by rw [hln.out];exact mu_wid hmz (by omega)⟩⟩,hBz⟩
  | true =>
   cases K with
   | false =>
    go_wp2_with fail
    go_loopw [11] (fun i wr=>∃ k:Nat,k≤m∧i=.int .i64 k∧Below w.heap.size w wr∧RgAt wr z 0 0 0 0 none 0 0∧RgAt wr o r.id r.a r.b r.c v1 n c1∧MU wr v1 n c1 W0.heap.size wr.heap.size (ucell r.us)∧Hid (∀ j,j<k→M1.okU (M1.up ys j)=true)) (fun i _=>m-(intOf i).toNat)
    case atStart=>exact ⟨0,Nat.zero_le _,rfl,B3,z3,o3,nu4,fun j hj=>absurd hj (Nat.not_lt_zero _)⟩
    case round =>
     clear B3 z3 o3 nu4 nu3 P3 mu3 hs3 l3 hb3;obtain ⟨k,hk,rfl,hB,z5,o5,mu5,hall⟩:=hrel;have ol:=o5.lt;by_cases hlt:k<m
     ·have g1:=h2.below hB
      rcases g1.hlies with h0 | ⟨d,off,rfl,hb,hc⟩
      ·omega
      obtain ⟨c0,c1',c2,c3',c4,c5,c6,c7,c8,c9,c10,c11,c12⟩:=hc k hlt;have hs:=h2.htxt k hlt;clear hc g1;have i0:(0:Int)≤(k:Int):=by omega
      have i1:(k:Int)<(m:Int):=by omega
      obtain ⟨u,hu⟩:∃ u,Hid (M1.up ys k=u):=⟨_,rfl⟩
      rw [hu.out] at hs c0 c1' c2 c3' c4 c5 c6 c7 c8 c9 c10 c11 c12;obtain ⟨q,hq⟩:∃ q,Hid (M1.okU u=q):=⟨_,rfl⟩
      go_wp2_with fail
      refine (updateOk_spec u.dr u.dn u.sw u.sc u.sr u.k u.tr u.id u.pa u.st u.en u.lv u.s _ hs).mono ?_;rw [show M1.updB u.dr u.dn u.sw u.sc u.sr u.k u.tr u.id u.pa u.s u.st u.en u.lv=q from hq.out];rintro e w6 ⟨rfl,hb6⟩;have B6:=hB.trans (hb6.mono hB.size);have z6:RgAt w6 z 0 0 0 0 none 0 0:=z5.below hb6;have o6:RgAt w6 o r.id r.a r.b r.c v1 n c1:=o5.below hb6;have mu6:=mu_up (mu5.below hb6) hb6.size;clear c0 c1' c2 c3' c4 c5 c6 c7 c8 c9 c10 c11 c12 z5 o5 mu5 hB
      cases q with
      | false =>
       have HC:=M1.rc_2 (now:=now) HO.out (M1.rcF_3 (M1.allR_no (j:=k) (by rw [hl2.out];exact hlt) (by rw [hu.out];exact hq.out)));have HC:Hid (M1.rcC r ys now=2∧M1.rcR r ys now=r):=HC;obtain ⟨d0,d1,d2,d3,d4⟩:=o6.cells;have ol6:=o6.lt;obtain ⟨f0,f1,f2,f3,f4⟩:=z6.frees;obtain ⟨e0,e1,e2,e3,e4⟩:=z6.cells;have zl9:=z6.lt;have zf:=z6.put r.id r.a r.b r.c v1 n c1;have hBz:=bel_put5 B6 hzw (.int .i64 r.id) (.int .i64 r.a) (.int .i64 r.b) (.int .i64 r.c) (.slice v1 n c1);have hmz:=mu_put5 mu6 hzq (.int .i64 r.id) (.int .i64 r.a) (.int .i64 r.b) (.int .i64 r.c) (.slice v1 n c1);go_wp2_with fail
       obtain ⟨Wz,hWz⟩:∃ W,((((w6.setCell ⟨z,0,none⟩ (.int .i64 r.id)).setCell ⟨z,1,none⟩ (.int .i64 r.a)).setCell ⟨z,2,none⟩ (.int .i64 r.b)).setCell ⟨z,3,none⟩ (.int .i64 r.c)).setCell ⟨z,4,none⟩ (.slice v1 n c1)=W:=⟨_,rfl⟩
       rw [hWz] at zf hBz hmz ⊢;clear hWz f0 f1 f2 f3 f4 e0 e1 e2 e3 e4;obtain ⟨x0,x1,x2,x3,x4⟩:=zf.cells;refine bodyPost_ret (v:=.tuple #[.agg #[.int .i64 r.id,.int .i64 r.a,.int .i64 r.b,.int .i64 r.c,.slice v1 n c1],.int .i64 2]) (by simp [results,Tryz.results155,go_sem,x0,x1,x2,x3,x4]) rfl ?_;exact ⟨⟨_,by rw [HC.out.1],by rw [HC.out.2];exact ⟨v1,c1,by rw [hln.out],by rw [hln.out];exact mu_wid hmz (by omega)⟩⟩,hBz⟩
      | true =>
       have HQ:Hid (∀ j,j<k+1→M1.okU (M1.up ys j)=true):=fun j hj=>by
        by_cases e:j=k
        ·rw [e,hu.out];exact hq.out
        ·exact hall.out j (by omega)
       go_wp2_with fail
       exact ⟨⟨k+1,by omega,by go_num,B6,z6,o6,mu6,HQ⟩,by simp [intOf];omega⟩
     ·have hF:M1.rcF ys now=false:=M1.rcF_0 (by rw [hl2.out];exact hm) ho2.out (M1.allR_yes fun j hj=>hall.out j (by rw [hl2.out] at hj;omega))
      have HC:Hid (M1.rcC r ys now=3∧M1.rcR r ys now=r):=M1.rc_3 HO.out hF hK.out;obtain ⟨d0,d1,d2,d3,d4⟩:=o5.cells;obtain ⟨f0,f1,f2,f3,f4⟩:=z5.frees;obtain ⟨e0,e1,e2,e3,e4⟩:=z5.cells;have zl9:=z5.lt;have zf:=z5.put r.id r.a r.b r.c v1 n c1;have hBz:=bel_put5 hB hzw (.int .i64 r.id) (.int .i64 r.a) (.int .i64 r.b) (.int .i64 r.c) (.slice v1 n c1);have hmz:=mu_put5 mu5 hzq (.int .i64 r.id) (.int .i64 r.a) (.int .i64 r.b) (.int .i64 r.c) (.slice v1 n c1);go_wp2_with fail
      obtain ⟨Wz,hWz⟩:∃ W,((((wr.setCell ⟨z,0,none⟩ (.int .i64 r.id)).setCell ⟨z,1,none⟩ (.int .i64 r.a)).setCell ⟨z,2,none⟩ (.int .i64 r.b)).setCell ⟨z,3,none⟩ (.int .i64 r.c)).setCell ⟨z,4,none⟩ (.slice v1 n c1)=W:=⟨_,rfl⟩
      rw [hWz] at zf hBz hmz ⊢;clear hWz f0 f1 f2 f3 f4 e0 e1 e2 e3 e4;obtain ⟨x0,x1,x2,x3,x4⟩:=zf.cells;refine bodyPost_ret (v:=.tuple #[.agg #[.int .i64 r.id,.int .i64 r.a,.int .i64 r.b,.int .i64 r.c,.slice v1 n c1],.int .i64 3]) (by simp [results,Tryz.results155,go_sem,x0,x1,x2,x3,x4]) rfl ?_;exact ⟨⟨_,by rw [HC.out.1],by rw [HC.out.2];exact ⟨v1,c1,by rw [hln.out],by rw [hln.out];exact mu_wid hmz (by omega)⟩⟩,hBz⟩
   | true =>
    have HF:Hid (M1.rcF ys now=false):=M1.rcF_0 (by rw [hl2.out];exact hm) ho2.out (M1.tOk_all hK.out);obtain ⟨d0,d1,d2,d3,d4⟩:=o3.cells;obtain ⟨f0,f1,f2,f3,f4⟩:=o3.frees;have o4:RgAt (w4.setCell ⟨o,4,none⟩ (.slice v3 T.length c3)) o r.id r.a r.b r.c v3 T.length c3:=rg_set o3 _ _ _;have z4:RgAt (w4.setCell ⟨o,4,none⟩ (.slice v3 T.length c3)) z 0 0 0 0 none 0 0:=z3.far (p:=⟨o,4,none⟩) (by show o≠z;omega) _;have P4:RgAt (w4.setCell ⟨o,4,none⟩ (.slice v3 T.length c3)) p r.id r.a r.b r.c av n cn:=P3.far (p:=⟨o,4,none⟩) (by show o≠p;omega) _;have hoq:∀ q,v3=some q→¬q.block=o:=fun q hq=>by
     rcases mu3.2.2 with ⟨_,e⟩ | ⟨g,e,h1,_,_⟩
     ·rw [e] at hq;cases hq
     ·rw [e] at hq;cases hq;show ¬g=o;have:=ho.out;have:=o2l;omega
    have hzq3:∀ q,v3=some q→¬q.block=z:=fun q hq=>by
     rcases mu3.2.2 with ⟨_,e⟩ | ⟨g,e,h1,_,_⟩
     ·rw [e] at hq;cases hq
     ·rw [e] at hq;cases hq;show ¬g=z;omega
    have mu4:MU (w4.setCell ⟨o,4,none⟩ (.slice v3 T.length c3)) v3 T.length c3 W2.heap.size (w4.setCell ⟨o,4,none⟩ (.slice v3 T.length c3)).heap.size (ucell T):=by
     have e:(w4.setCell ⟨o,4,none⟩ (.slice v3 T.length c3)).heap.size=w4.heap.size:=by simp [World.setCell]
     rw [e];exact mu_far (p:=⟨o,4,none⟩) mu3 hoq _
    have B4:Below w.heap.size w (w4.setCell ⟨o,4,none⟩ (.slice v3 T.length c3)):=B3.setCell (p:=⟨o,4,none⟩) how _;go_upto_region 13 with fail
    obtain ⟨W4,hW4⟩:∃ W,w4.setCell ⟨o,4,none⟩ (.slice v3 T.length c3)=W:=⟨_,rfl⟩
    rw [hW4] at o4 z4 P4 mu4 B4 ⊢;clear hW4 d0 d1 d2 d3 d4 f0 f1 f2 f3 f4 o3 z3 P3 mu3 nu3 nu4 B3 l3;go_wp2_with fail
    go_loopw [12] (fun i wr=>∃ k:Nat,k≤m∧i=.int .i64 k∧Below w.heap.size w wr∧Hid ((M1.mtTo r.a r.b r.c now ys k).ok=true)∧RgAt wr z 0 0 0 0 none 0 0∧RgAt wr p r.id r.a r.b r.c av n cn∧RgAt wr o r.id (M1.mtTo r.a r.b r.c now ys k).a (M1.mtTo r.a r.b r.c now ys k).b (M1.mtTo r.a r.b r.c now ys k).c v3 T.length c3∧MU wr v3 T.length c3 W2.heap.size wr.heap.size (ucell T)) (fun i _=>m-(intOf i).toNat)
    case atStart=>exact ⟨0,Nat.zero_le _,rfl,B4,rfl,z4,P4,o4,mu4⟩
    case round =>
     clear B4 z4 o4 mu4 P4;obtain ⟨k,hk,rfl,hB,HM,z5,P5,o5,mu5⟩:=hrel;obtain ⟨s,hs⟩:∃ s,Hid (M1.mtTo r.a r.b r.c now ys k=s):=⟨_,rfl⟩
     rw [hs.out] at o5 HM;obtain ⟨d0,d1,d2,d3,d4⟩:=o5.cells;have ol:=o5.lt;by_cases hlt:k<m
     ·have g1:=h2.below hB
      rcases g1.hlies with h0 | ⟨d,off,rfl,hb,hc⟩
      ·omega
      obtain ⟨c0,c1',c2,c3',c4,c5,c6,c7,c8,c9,c10,c11,c12⟩:=hc k hlt;clear hc g1;have i0:(0:Int)≤(k:Int):=by omega
      have i1:(k:Int)<(m:Int):=by omega
      have HS:=M1.mt_step (a:=r.a) (b:=r.b) (c:=r.c) (now:=now) (us:=ys) (k:=k) (by rw [hs.out];exact HM.out);rw [hs.out] at HS;obtain ⟨u,hu⟩:∃ u,Hid (M1.up ys k=u):=⟨_,rfl⟩
      rw [hu.out] at HS c0 c1' c2 c3' c4 c5 c6 c7 c8 c9 c10 c11 c12;obtain ⟨t,ht⟩:∃ t,Hid (M1.metP s.a s.b s.c u.sw u.sc u.sr now=t):=⟨_,rfl⟩
      rw [ht.out] at HS;have HS:Hid (M1.mtTo r.a r.b r.c now ys (k+1)=t):=HS;have hdo:¬d=wr.heap.size:=by omega
      go_wp2_with fail
      refine wp_region_held_drew (S:=fun w'=>Kp wr w') (by kernel_rfl) ?_ (fun zH=>?_)
      ·exact kp_zero _
      refine uZ 0 ?_;simp only[pZ,zZ];refine uZ 1 ?_;simp only[pZ,zZ];refine uZ 2 ?_;simp only[pZ,zZ];refine uZ 3 ?_;simp only[pZ,zZ];refine tZ (i:=4) (v:=.pointer (some ⟨d,off+k*13,none⟩)) rfl (.inl ⟨by rfl,?_⟩) zH ?_
      ·(intro w hSw;(try dsimp only at hSw);go_simp;(try simp;try omega))
      (try simp only[pZ,zZ]);refine uZ 5 ?_;simp only[pZ,zZ];refine uZ 6 ?_;simp only[pZ,zZ];refine uZ 7 ?_;simp only[pZ,zZ];refine wpAnyH_ready (rs:=[8,12]) (by kernel_rfl) (by simp) ?_;refine AllReadyH.cons (o:=_) rfl (fun KK hKK=>?_) (AllReadyH.cons (o:=_) rfl (fun KK hKK=>?_) AllReadyH.nil)
      ·go_simp
       refine (met_spec s.a s.b s.c u.sw u.sc u.sr now _).mono ?_;rw [ht.out];rintro e w6 ⟨rfl,hb6⟩;go_wp2_with fail
       refine hKK.out _ _ (kp_step zH hb6) (fun zH2=>?_);clear hKK KK zH;have zH:=zH2;clear zH2;(try simp only[pZ,zZ]);refine uZ 9 ?_;simp only[pZ,zZ];refine uZ 10 ?_;simp only[pZ,zZ];refine uZ 11 ?_;simp only[pZ,zZ];refine sZ 12 fun K hK=>?_;go_simp
       skip
       refine hK.out _ _ ?_ (fun zH2=>?_)
       ·exact kp_alloc zH _
       clear hK K zH;have zH:=zH2;clear zH2;(try simp only[pZ,zZ]);refine sZ 13 fun K hK=>?_;go_simp
       skip
       refine hK.out _ _ ?_ (fun zH2=>?_)
       ·exact kp_realloc zH (by have:=hb6.size;simpa using this) _
       clear hK K zH;have zH:=zH2;clear zH2;(try simp only[pZ,zZ]);refine uZ 14 ?_;simp only[pZ,zZ];refine dZ ?_;have hb67:Below wr.heap.size wr (w6.alloc (.cells #[.int .i64 t.a,.int .i64 t.b,.int .i64 t.c] 31)):=zH.1;have B7:Below w.heap.size w (w6.alloc (.cells #[.int .i64 t.a,.int .i64 t.b,.int .i64 t.c] 31)):=hB.trans (zH.1.mono hB.size);have y7:StAt (w6.alloc (.cells #[.int .i64 t.a,.int .i64 t.b,.int .i64 t.c] 31)) w6.heap.size t.a t.b t.c:=st_new w6 t.a t.b t.c 31;have z7:RgAt (w6.alloc (.cells #[.int .i64 t.a,.int .i64 t.b,.int .i64 t.c] 31)) z 0 0 0 0 none 0 0:=z5.below hb67;have P7:RgAt (w6.alloc (.cells #[.int .i64 t.a,.int .i64 t.b,.int .i64 t.c] 31)) p r.id r.a r.b r.c av n cn:=P5.below hb67;have o7:RgAt (w6.alloc (.cells #[.int .i64 t.a,.int .i64 t.b,.int .i64 t.c] 31)) o r.id s.a s.b s.c v3 T.length c3:=o5.below hb67;have mu7:=mu_up (mu5.below hb67) (hb67).size;obtain ⟨W7,hW7⟩:∃ W,(w6.alloc (.cells #[.int .i64 t.a,.int .i64 t.b,.int .i64 t.c] 31))=W:=⟨_,rfl⟩
       rw [hW7] at B7 y7 z7 P7 o7 mu7 ⊢;clear hW7 zH z5 P5 o5 mu5 d0 d1 d2 d3 d4 c0 c1' c2 c3' c4 c5 c6 c7 c8 c9 c10 c11 c12;obtain ⟨y,hy⟩:∃ y,Hid (w6.heap.size=y):=⟨_,rfl⟩
       rw [hy.out] at y7 ⊢;obtain ⟨d0,d1,d2,d3,d4⟩:=P7.cells;obtain ⟨k0,k1,k2⟩:=y7.cells;obtain ⟨j0,j1,j2,j3,j4⟩:=o7.cells;obtain ⟨n0,n1,n2,n3,n4⟩:=o7.frees;have pl7:=P7.lt;have yl7:=y7.lt;have ol7:=o7.lt;obtain ⟨q,hq⟩:∃ q,Hid (t.ok=q):=⟨_,rfl⟩
       rw [hq.out]
       cases q with
       | false =>
        have HC:Hid (M1.rcC r ys now=4∧M1.rcR r ys now=r):=M1.rc_4 HO.out HF.out hK.out (by unfold M1.mt;rw [hl2.out];exact M1.mt_fail (k:=k+1) (by rw [HS.out];exact hq.out) (by omega));go_wp2_with fail
        refine (l5Copy_any r.id r.a r.b r.c r.us _ _ _ _ (hU.below B7) (by omega)).mono ?_;rintro e w8 ⟨⟨v8,c8,rfl,mu8⟩,hb8⟩;have B8:=B7.trans (hb8.mono B7.size);have z8:RgAt w8 z 0 0 0 0 none 0 0:=z7.below hb8;have zl7:=z7.lt;have hzq8:∀ q,v8=some q→¬q.block=z:=fun q hq=>by
         rcases mu8.2.2 with ⟨_,e⟩ | ⟨g,e,h1,_,_⟩
         ·rw [e] at hq;cases hq
         ·rw [e] at hq;cases hq;show ¬g=z;omega
        obtain ⟨f0,f1,f2,f3,f4⟩:=z8.frees;obtain ⟨e0,e1,e2,e3,e4⟩:=z8.cells;have zl9:=z8.lt;have zf:=z8.put r.id r.a r.b r.c v8 n c8;have hBz:=bel_put5 B8 hzw (.int .i64 r.id) (.int .i64 r.a) (.int .i64 r.b) (.int .i64 r.c) (.slice v8 n c8);have hmz:=mu_put5 mu8 hzq8 (.int .i64 r.id) (.int .i64 r.a) (.int .i64 r.b) (.int .i64 r.c) (.slice v8 n c8);go_wp2_with fail
        obtain ⟨Wz,hWz⟩:∃ W,((((w8.setCell ⟨z,0,none⟩ (.int .i64 r.id)).setCell ⟨z,1,none⟩ (.int .i64 r.a)).setCell ⟨z,2,none⟩ (.int .i64 r.b)).setCell ⟨z,3,none⟩ (.int .i64 r.c)).setCell ⟨z,4,none⟩ (.slice v8 n c8)=W:=⟨_,rfl⟩
        rw [hWz] at zf hBz hmz ⊢;clear hWz f0 f1 f2 f3 f4 e0 e1 e2 e3 e4;obtain ⟨x0,x1,x2,x3,x4⟩:=zf.cells;refine bodyPost_ret (v:=.tuple #[.agg #[.int .i64 r.id,.int .i64 r.a,.int .i64 r.b,.int .i64 r.c,.slice v8 n c8],.int .i64 4]) (by simp [results,Tryz.results155,go_sem,x0,x1,x2,x3,x4]) rfl ?_;have hs7:=B7.size;exact ⟨⟨_,by rw [HC.out.1],by rw [HC.out.2];exact ⟨v8,c8,by rw [hln.out],by rw [hln.out];exact mu_wid hmz (by omega)⟩⟩,hBz⟩
       | true =>
        have o8:=rg_put3 o7 t.a t.b t.c;have z8:RgAt (((W7.setCell ⟨o,1,none⟩ (.int .i64 t.a)).setCell ⟨o,2,none⟩ (.int .i64 t.b)).setCell ⟨o,3,none⟩ (.int .i64 t.c)) z 0 0 0 0 none 0 0:=((z7.far (p:=⟨o,1,none⟩) (by show o≠z;omega) _).far (p:=⟨o,2,none⟩) (by show o≠z;omega) _).far (p:=⟨o,3,none⟩) (by show o≠z;omega) _;have P8:RgAt (((W7.setCell ⟨o,1,none⟩ (.int .i64 t.a)).setCell ⟨o,2,none⟩ (.int .i64 t.b)).setCell ⟨o,3,none⟩ (.int .i64 t.c)) p r.id r.a r.b r.c av n cn:=((P7.far (p:=⟨o,1,none⟩) (by show o≠p;omega) _).far (p:=⟨o,2,none⟩) (by show o≠p;omega) _).far (p:=⟨o,3,none⟩) (by show o≠p;omega) _;have B8:Below w.heap.size w (((W7.setCell ⟨o,1,none⟩ (.int .i64 t.a)).setCell ⟨o,2,none⟩ (.int .i64 t.b)).setCell ⟨o,3,none⟩ (.int .i64 t.c)):=((B7.setCell (p:=⟨o,1,none⟩) how _).setCell (p:=⟨o,2,none⟩) how _).setCell (p:=⟨o,3,none⟩) how _;have mu8:MU (((W7.setCell ⟨o,1,none⟩ (.int .i64 t.a)).setCell ⟨o,2,none⟩ (.int .i64 t.b)).setCell ⟨o,3,none⟩ (.int .i64 t.c)) v3 T.length c3 W2.heap.size (((W7.setCell ⟨o,1,none⟩ (.int .i64 t.a)).setCell ⟨o,2,none⟩ (.int .i64 t.b)).setCell ⟨o,3,none⟩ (.int .i64 t.c)).heap.size (ucell T):=by
         have e:(((W7.setCell ⟨o,1,none⟩ (.int .i64 t.a)).setCell ⟨o,2,none⟩ (.int .i64 t.b)).setCell ⟨o,3,none⟩ (.int .i64 t.c)).heap.size=W7.heap.size:=by simp [World.setCell]
         rw [e];exact mu_far (p:=⟨o,3,none⟩) (mu_far (p:=⟨o,2,none⟩) (mu_far (p:=⟨o,1,none⟩) mu7 hoq _) hoq _) hoq _
        go_wp2_with fail
        exact ⟨⟨k+1,by omega,by go_num,B8,by rw [HS.out];exact hq,z8,P8,by rw [HS.out];exact o8,mu8⟩,by simp [intOf];omega⟩
      ·go_simp
       refine hKK.out _ _ (kp_alloc zH _) (fun zH2=>?_);clear hKK KK zH;have zH:=zH2;clear zH2;(try simp only[pZ,zZ]);refine sZ 8 fun K hK=>?_;go_simp
       (refine (met_spec s.a s.b s.c u.sw u.sc u.sr now _).mono ?_;rw [ht.out];rintro e w6 ⟨rfl,hb6⟩;go_wp2_with fail)
       refine hK.out _ _ ?_ (fun zH2=>?_)
       ·exact kp_step zH hb6
       clear hK K zH;have zH:=zH2;clear zH2;(try simp only[pZ,zZ]);have y6:StAt w6 wr.heap.size 0 0 0:=(st_new wr 0 0 0 31).drew.below hb6;obtain ⟨m0,m1,m2⟩:=y6.cells;obtain ⟨f0,f1,f2⟩:=y6.frees;have yl6:=y6.lt;refine uZ 9 ?_;simp only[pZ,zZ];refine uZ 10 ?_;simp only[pZ,zZ];refine uZ 11 ?_;simp only[pZ,zZ];refine sZ 13 fun K hK=>?_;go_simp
       skip
       refine hK.out _ _ ?_ (fun zH2=>?_)
       ·exact kp_set (kp_set (kp_set zH _ _ (Nat.le_refl _)) _ _ (Nat.le_refl _)) _ _ (Nat.le_refl _)
       clear hK K zH;have zH:=zH2;clear zH2;(try simp only[pZ,zZ]);refine uZ 14 ?_;simp only[pZ,zZ];refine dZ ?_;have hb67:Below wr.heap.size wr (((w6.setCell ⟨wr.heap.size,0,none⟩ (.int .i64 t.a)).setCell ⟨wr.heap.size,1,none⟩ (.int .i64 t.b)).setCell ⟨wr.heap.size,2,none⟩ (.int .i64 t.c)):=zH.1;have B7:Below w.heap.size w (((w6.setCell ⟨wr.heap.size,0,none⟩ (.int .i64 t.a)).setCell ⟨wr.heap.size,1,none⟩ (.int .i64 t.b)).setCell ⟨wr.heap.size,2,none⟩ (.int .i64 t.c)):=hB.trans (zH.1.mono hB.size);have y7:StAt (((w6.setCell ⟨wr.heap.size,0,none⟩ (.int .i64 t.a)).setCell ⟨wr.heap.size,1,none⟩ (.int .i64 t.b)).setCell ⟨wr.heap.size,2,none⟩ (.int .i64 t.c)) wr.heap.size t.a t.b t.c:=y6.put t.a t.b t.c;have z7:RgAt (((w6.setCell ⟨wr.heap.size,0,none⟩ (.int .i64 t.a)).setCell ⟨wr.heap.size,1,none⟩ (.int .i64 t.b)).setCell ⟨wr.heap.size,2,none⟩ (.int .i64 t.c)) z 0 0 0 0 none 0 0:=z5.below hb67;have P7:RgAt (((w6.setCell ⟨wr.heap.size,0,none⟩ (.int .i64 t.a)).setCell ⟨wr.heap.size,1,none⟩ (.int .i64 t.b)).setCell ⟨wr.heap.size,2,none⟩ (.int .i64 t.c)) p r.id r.a r.b r.c av n cn:=P5.below hb67;have o7:RgAt (((w6.setCell ⟨wr.heap.size,0,none⟩ (.int .i64 t.a)).setCell ⟨wr.heap.size,1,none⟩ (.int .i64 t.b)).setCell ⟨wr.heap.size,2,none⟩ (.int .i64 t.c)) o r.id s.a s.b s.c v3 T.length c3:=o5.below hb67;have mu7:=mu_up (mu5.below hb67) (hb67).size;obtain ⟨W7,hW7⟩:∃ W,(((w6.setCell ⟨wr.heap.size,0,none⟩ (.int .i64 t.a)).setCell ⟨wr.heap.size,1,none⟩ (.int .i64 t.b)).setCell ⟨wr.heap.size,2,none⟩ (.int .i64 t.c))=W:=⟨_,rfl⟩
       rw [hW7] at B7 y7 z7 P7 o7 mu7 ⊢;clear hW7 y6 m0 m1 m2 f0 f1 f2 yl6 zH z5 P5 o5 mu5 d0 d1 d2 d3 d4 c0 c1' c2 c3' c4 c5 c6 c7 c8 c9 c10 c11 c12;obtain ⟨y,hy⟩:∃ y,Hid (wr.heap.size=y):=⟨_,rfl⟩
       rw [hy.out] at y7 ⊢;obtain ⟨d0,d1,d2,d3,d4⟩:=P7.cells;obtain ⟨k0,k1,k2⟩:=y7.cells;obtain ⟨j0,j1,j2,j3,j4⟩:=o7.cells;obtain ⟨n0,n1,n2,n3,n4⟩:=o7.frees;have pl7:=P7.lt;have yl7:=y7.lt;have ol7:=o7.lt;obtain ⟨q,hq⟩:∃ q,Hid (t.ok=q):=⟨_,rfl⟩
       rw [hq.out]
       cases q with
       | false =>
        have HC:Hid (M1.rcC r ys now=4∧M1.rcR r ys now=r):=M1.rc_4 HO.out HF.out hK.out (by unfold M1.mt;rw [hl2.out];exact M1.mt_fail (k:=k+1) (by rw [HS.out];exact hq.out) (by omega));go_wp2_with fail
        refine (l5Copy_any r.id r.a r.b r.c r.us _ _ _ _ (hU.below B7) (by omega)).mono ?_;rintro e w8 ⟨⟨v8,c8,rfl,mu8⟩,hb8⟩;have B8:=B7.trans (hb8.mono B7.size);have z8:RgAt w8 z 0 0 0 0 none 0 0:=z7.below hb8;have zl7:=z7.lt;have hzq8:∀ q,v8=some q→¬q.block=z:=fun q hq=>by
         rcases mu8.2.2 with ⟨_,e⟩ | ⟨g,e,h1,_,_⟩
         ·rw [e] at hq;cases hq
         ·rw [e] at hq;cases hq;show ¬g=z;omega
        obtain ⟨f0,f1,f2,f3,f4⟩:=z8.frees;obtain ⟨e0,e1,e2,e3,e4⟩:=z8.cells;have zl9:=z8.lt;have zf:=z8.put r.id r.a r.b r.c v8 n c8;have hBz:=bel_put5 B8 hzw (.int .i64 r.id) (.int .i64 r.a) (.int .i64 r.b) (.int .i64 r.c) (.slice v8 n c8);have hmz:=mu_put5 mu8 hzq8 (.int .i64 r.id) (.int .i64 r.a) (.int .i64 r.b) (.int .i64 r.c) (.slice v8 n c8);go_wp2_with fail
        obtain ⟨Wz,hWz⟩:∃ W,((((w8.setCell ⟨z,0,none⟩ (.int .i64 r.id)).setCell ⟨z,1,none⟩ (.int .i64 r.a)).setCell ⟨z,2,none⟩ (.int .i64 r.b)).setCell ⟨z,3,none⟩ (.int .i64 r.c)).setCell ⟨z,4,none⟩ (.slice v8 n c8)=W:=⟨_,rfl⟩
        rw [hWz] at zf hBz hmz ⊢;clear hWz f0 f1 f2 f3 f4 e0 e1 e2 e3 e4;obtain ⟨x0,x1,x2,x3,x4⟩:=zf.cells;refine bodyPost_ret (v:=.tuple #[.agg #[.int .i64 r.id,.int .i64 r.a,.int .i64 r.b,.int .i64 r.c,.slice v8 n c8],.int .i64 4]) (by simp [results,Tryz.results155,go_sem,x0,x1,x2,x3,x4]) rfl ?_;have hs7:=B7.size;exact ⟨⟨_,by rw [HC.out.1],by rw [HC.out.2];exact ⟨v8,c8,by rw [hln.out],by rw [hln.out];exact mu_wid hmz (by omega)⟩⟩,hBz⟩
       | true =>
        have o8:=rg_put3 o7 t.a t.b t.c;have z8:RgAt (((W7.setCell ⟨o,1,none⟩ (.int .i64 t.a)).setCell ⟨o,2,none⟩ (.int .i64 t.b)).setCell ⟨o,3,none⟩ (.int .i64 t.c)) z 0 0 0 0 none 0 0:=((z7.far (p:=⟨o,1,none⟩) (by show o≠z;omega) _).far (p:=⟨o,2,none⟩) (by show o≠z;omega) _).far (p:=⟨o,3,none⟩) (by show o≠z;omega) _;have P8:RgAt (((W7.setCell ⟨o,1,none⟩ (.int .i64 t.a)).setCell ⟨o,2,none⟩ (.int .i64 t.b)).setCell ⟨o,3,none⟩ (.int .i64 t.c)) p r.id r.a r.b r.c av n cn:=((P7.far (p:=⟨o,1,none⟩) (by show o≠p;omega) _).far (p:=⟨o,2,none⟩) (by show o≠p;omega) _).far (p:=⟨o,3,none⟩) (by show o≠p;omega) _;have B8:Below w.heap.size w (((W7.setCell ⟨o,1,none⟩ (.int .i64 t.a)).setCell ⟨o,2,none⟩ (.int .i64 t.b)).setCell ⟨o,3,none⟩ (.int .i64 t.c)):=((B7.setCell (p:=⟨o,1,none⟩) how _).setCell (p:=⟨o,2,none⟩) how _).setCell (p:=⟨o,3,none⟩) how _;have mu8:MU (((W7.setCell ⟨o,1,none⟩ (.int .i64 t.a)).setCell ⟨o,2,none⟩ (.int .i64 t.b)).setCell ⟨o,3,none⟩ (.int .i64 t.c)) v3 T.length c3 W2.heap.size (((W7.setCell ⟨o,1,none⟩ (.int .i64 t.a)).setCell ⟨o,2,none⟩ (.int .i64 t.b)).setCell ⟨o,3,none⟩ (.int .i64 t.c)).heap.size (ucell T):=by
         have e:(((W7.setCell ⟨o,1,none⟩ (.int .i64 t.a)).setCell ⟨o,2,none⟩ (.int .i64 t.b)).setCell ⟨o,3,none⟩ (.int .i64 t.c)).heap.size=W7.heap.size:=by simp [World.setCell]
         rw [e];exact mu_far (p:=⟨o,3,none⟩) (mu_far (p:=⟨o,2,none⟩) (mu_far (p:=⟨o,1,none⟩) mu7 hoq _) hoq _) hoq _
        go_wp2_with fail
        exact ⟨⟨k+1,by omega,by go_num,B8,by rw [HS.out];exact hq,z8,P8,by rw [HS.out];exact o8,mu8⟩,by simp [intOf];omega⟩
     ·have hkm:k=m:=by omega
      subst hkm;have HC:Hid (M1.rcC r ys now=0∧M1.rcR r ys now=M1.rcN r ys now):=M1.rc_0 HO.out HF.out hK.out (by unfold M1.mt;rw [hl2.out,hs.out];exact HM.out);have HN:Hid (M1.rcN r ys now=⟨r.id,s.a,s.b,s.c,T⟩):=(by unfold M1.rcN M1.mt;rw [hl2.out,hs.out,hT.out]:_=_)
      obtain ⟨f0,f1,f2,f3,f4⟩:=z5.frees;obtain ⟨e0,e1,e2,e3,e4⟩:=z5.cells;have zl9:=z5.lt;have zf:=z5.put r.id s.a s.b s.c v3 T.length c3;have hBz:=bel_put5 hB hzw (.int .i64 r.id) (.int .i64 s.a) (.int .i64 s.b) (.int .i64 s.c) (.slice v3 T.length c3);have hmz:=mu_put5 mu5 hzq3 (.int .i64 r.id) (.int .i64 s.a) (.int .i64 s.b) (.int .i64 s.c) (.slice v3 T.length c3);go_wp2_with fail
      obtain ⟨Wz,hWz⟩:∃ W,((((wr.setCell ⟨z,0,none⟩ (.int .i64 r.id)).setCell ⟨z,1,none⟩ (.int .i64 s.a)).setCell ⟨z,2,none⟩ (.int .i64 s.b)).setCell ⟨z,3,none⟩ (.int .i64 s.c)).setCell ⟨z,4,none⟩ (.slice v3 T.length c3)=W:=⟨_,rfl⟩
      rw [hWz] at zf hBz hmz ⊢;clear hWz f0 f1 f2 f3 f4 e0 e1 e2 e3 e4;obtain ⟨x0,x1,x2,x3,x4⟩:=zf.cells;refine bodyPost_ret (v:=.tuple #[.agg #[.int .i64 r.id,.int .i64 s.a,.int .i64 s.b,.int .i64 s.c,.slice v3 T.length c3],.int .i64 0]) (by simp [results,Tryz.results155,go_sem,x0,x1,x2,x3,x4]) rfl ?_;exact ⟨⟨_,by rw [HC.out.1],by rw [HC.out.2,HN.out];exact ⟨v3,c3,rfl,mu_wid hmz (by omega)⟩⟩,hBz⟩
 ·have HC:=M1.rc_2 (now:=now) HO.out (M1.rcF_1 (ys:=ys) (by rw [hl2.out];exact hm))
  have HC:Hid (M1.rcC r ys now=2∧M1.rcR r ys now=r):=HC;have dm:decide ((60:Int)<(m:Int))=true:=decide_eq_true (by omega);have dm2:decide (60<m)=true:=decide_eq_true (by omega);obtain ⟨d0,d1,d2,d3,d4⟩:=o3.cells;obtain ⟨f0,f1,f2,f3,f4⟩:=z3.frees;obtain ⟨e0,e1,e2,e3,e4⟩:=z3.cells;have zl9:=z3.lt;have zf:=z3.put r.id r.a r.b r.c v1 n c1;have hBz:=bel_put5 B3 hzw (.int .i64 r.id) (.int .i64 r.a) (.int .i64 r.b) (.int .i64 r.c) (.slice v1 n c1);have hmz:=mu_put5 nu4 hzq (.int .i64 r.id) (.int .i64 r.a) (.int .i64 r.b) (.int .i64 r.c) (.slice v1 n c1);go_wp2_with fail
  obtain ⟨Wz,hWz⟩:∃ W,((((w3.setCell ⟨z,0,none⟩ (.int .i64 r.id)).setCell ⟨z,1,none⟩ (.int .i64 r.a)).setCell ⟨z,2,none⟩ (.int .i64 r.b)).setCell ⟨z,3,none⟩ (.int .i64 r.c)).setCell ⟨z,4,none⟩ (.slice v1 n c1)=W:=⟨_,rfl⟩
  rw [hWz] at zf hBz hmz ⊢;clear hWz f0 f1 f2 f3 f4 e0 e1 e2 e3 e4;obtain ⟨x0,x1,x2,x3,x4⟩:=zf.cells;refine bodyPost_ret (v:=.tuple #[.agg #[.int .i64 r.id,.int .i64 r.a,.int .i64 r.b,.int .i64 r.c,.slice v1 n c1],.int .i64 2]) (by simp [results,Tryz.results155,go_sem,x0,x1,x2,x3,x4]) rfl ?_;exact ⟨⟨_,by rw [HC.out.1],by rw [HC.out.2];exact ⟨v1,c1,by rw [hln.out],by rw [hln.out];exact mu_wid hmz (by omega)⟩⟩,hBz⟩
end Go.Proofs.YtgcinolbkllkkaaGreat
