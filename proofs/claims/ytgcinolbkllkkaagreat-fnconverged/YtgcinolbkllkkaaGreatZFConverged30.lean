/-
  Texts of one proof, joined: Cv4k3.
-/
import Derived.Test.YtgcinolbkllkkaaGreatZFConverged27
set_option linter.unusedSimpArgs false
set_option linter.unusedVariables false
namespace Go.Proofs.YtgcinolbkllkkaaGreat
open Go.ChangeShapes Go.WideShapes Go.ChangeAt Go.RowKit
attribute [local go_sem high] eqOp0
set_option maxHeartbeats 64000000 in
set_option maxRecDepth 100000 in
theorem l6Act_3 (now:Int)(a:Option Addr)(n c3:Nat)(a2:Option Addr)(n2 c4:Nat)(xs ys:List Value)(rs:List M1.Rg)(ms:List M1.Ml)(lo:Nat)(kd wh tt ta:Int)(x:M1.OpV)(w:World){T:Nat→Prop}(HT:WT w lo (.slice a n c3) (.slice a2 n2 c4) xs ys rs ms T)(hTl:∀ k,T k→k<w.heap.size)(hlo:lo≤w.heap.size)(hxs:x.s.size≤maxLen)(hwk:Hid (M1.wOk now rs ms=true))(hk:Hid (kd=3)) :
  Calls Tryz.prog 111 #[.agg #[.int .i64 now,.slice a n c3,.slice a2 n2 c4],.agg #[.int .i64 kd,.int .i64 wh,.int .i64 tt,.int .i64 ta,.int .i64 x.k,.int .i64 x.t,.int .i64 x.id,.int .i64 x.pa,.string x.s,.int .i64 x.st,.int .i64 x.en]] w fun e w'=>WA w w' (OB (.slice a n c3) (.slice a2 n2 c4)) T e now:=by
 have HW:=HT.c;have hrg:=HW.rgs;have hmg:=HW.mls;have hm1:=hrg.hcap;have hm2:=hrg.hmost;have hm3:=hmg.hcap;have hm4:=hmg.hmost;unfold maxLen at hm2 hm4;have hl1:Hid (rs.length=n):=hrg.hlen;have hl2:Hid (ms.length=n2):=hmg.hlen;obtain ⟨_,hn2',hn5',hn40',hok0,hml0,_,hbd0⟩:=M1.wOk_has hwk.out;have hok:Hid (∀ i,i<n→M1.rOk (M1.rgA rs i)=true):=fun i hi=>hok0 i (by rw [hl1.out];exact hi);have hml:Hid (∀ i,i<n2→1≤(M1.mlA ms i).tt∧(M1.mlA ms i).tt≤(n:Int)∧M1.vecOk (M1.mlA ms i).vec=true∧(M1.mlA ms i).del.length≤3):=fun i hi=>by
  have:=hml0 i (by rw [hl2.out];exact hi);rw [hl1.out] at this;exact this
 have hbd:Hid (M1.Bd rs ms):=hbd0;have hn2:2≤n:=by have:=hl1.out;omega
 have hn5:n≤5:=by have:=hl1.out;omega
 have hn40:n2≤40:=by have:=hl2.out;omega
 clear hn2' hn5' hn40' hok0 hml0 hbd0;have hA:Below w.heap.size w (((w.alloc (.cells #[.int .i64 now,.slice a n c3,.slice a2 n2 c4] 27)).alloc (.cells #[.int .i64 kd,.int .i64 wh,.int .i64 tt,.int .i64 ta,.int .i64 x.k,.int .i64 x.t,.int .i64 x.id,.int .i64 x.pa,.string x.s,.int .i64 x.st,.int .i64 x.en] 112)).alloc (.cells #[.int .i64 0,.slice none 0 0,.slice none 0 0] 27)):=(((Below.refl _ _).alloc (Nat.le_refl _) _).alloc (by simp) _).alloc (by simp <;> omega) _;have A0:R3 (((w.alloc (.cells #[.int .i64 now,.slice a n c3,.slice a2 n2 c4] 27)).alloc (.cells #[.int .i64 kd,.int .i64 wh,.int .i64 tt,.int .i64 ta,.int .i64 x.k,.int .i64 x.t,.int .i64 x.id,.int .i64 x.pa,.string x.s,.int .i64 x.st,.int .i64 x.en] 112)).alloc (.cells #[.int .i64 0,.slice none 0 0,.slice none 0 0] 27)) w.heap.size (.int .i64 now) (.slice a n c3) (.slice a2 n2 c4):=((r3_new w (.int .i64 now) (.slice a n c3) (.slice a2 n2 c4) 27).alloc _).alloc _;have C0:R11 (((w.alloc (.cells #[.int .i64 now,.slice a n c3,.slice a2 n2 c4] 27)).alloc (.cells #[.int .i64 kd,.int .i64 wh,.int .i64 tt,.int .i64 ta,.int .i64 x.k,.int .i64 x.t,.int .i64 x.id,.int .i64 x.pa,.string x.s,.int .i64 x.st,.int .i64 x.en] 112)).alloc (.cells #[.int .i64 0,.slice none 0 0,.slice none 0 0] 27)) (w.alloc (.cells #[.int .i64 now,.slice a n c3,.slice a2 n2 c4] 27)).heap.size kd wh tt ta x:=(r11_new (w.alloc (.cells #[.int .i64 now,.slice a n c3,.slice a2 n2 c4] 27)) kd wh tt ta x 112).alloc _;have Z0:R3 (((w.alloc (.cells #[.int .i64 now,.slice a n c3,.slice a2 n2 c4] 27)).alloc (.cells #[.int .i64 kd,.int .i64 wh,.int .i64 tt,.int .i64 ta,.int .i64 x.k,.int .i64 x.t,.int .i64 x.id,.int .i64 x.pa,.string x.s,.int .i64 x.st,.int .i64 x.en] 112)).alloc (.cells #[.int .i64 0,.slice none 0 0,.slice none 0 0] 27)) ((w.alloc (.cells #[.int .i64 now,.slice a n c3,.slice a2 n2 c4] 27)).alloc (.cells #[.int .i64 kd,.int .i64 wh,.int .i64 tt,.int .i64 ta,.int .i64 x.k,.int .i64 x.t,.int .i64 x.id,.int .i64 x.pa,.string x.s,.int .i64 x.st,.int .i64 x.en] 112)).heap.size (.int .i64 0) (.slice none 0 0) (.slice none 0 0):=r3_new ((w.alloc (.cells #[.int .i64 now,.slice a n c3,.slice a2 n2 c4] 27)).alloc (.cells #[.int .i64 kd,.int .i64 wh,.int .i64 tt,.int .i64 ta,.int .i64 x.k,.int .i64 x.t,.int .i64 x.id,.int .i64 x.pa,.string x.s,.int .i64 x.st,.int .i64 x.en] 112)) (.int .i64 0) (.slice none 0 0) (.slice none 0 0) 27;rw [show (w.alloc (.cells #[.int .i64 now,.slice a n c3,.slice a2 n2 c4] 27)).heap.size=w.heap.size+1 by simp] at C0;rw [show ((w.alloc (.cells #[.int .i64 now,.slice a n c3,.slice a2 n2 c4] 27)).alloc (.cells #[.int .i64 kd,.int .i64 wh,.int .i64 tt,.int .i64 ta,.int .i64 x.k,.int .i64 x.t,.int .i64 x.id,.int .i64 x.pa,.string x.s,.int .i64 x.st,.int .i64 x.en] 112)).heap.size=w.heap.size+1+1 by simp] at Z0;go_enter Tryz.func111,Tryz.ntmps111
 go_upto_region 1 with fail
 obtain ⟨w1,hw1⟩:∃ W,(((w.alloc (.cells #[.int .i64 now,.slice a n c3,.slice a2 n2 c4] 27)).alloc (.cells #[.int .i64 kd,.int .i64 wh,.int .i64 tt,.int .i64 ta,.int .i64 x.k,.int .i64 x.t,.int .i64 x.id,.int .i64 x.pa,.string x.s,.int .i64 x.st,.int .i64 x.en] 112)).alloc (.cells #[.int .i64 0,.slice none 0 0,.slice none 0 0] 27))=W:=⟨_,rfl⟩
 rw [hw1] at hA A0 C0 Z0 ⊢;clear hw1;obtain ⟨pz,hpz⟩:∃ z,Hid (w.heap.size+1+1=z):=⟨_,rfl⟩
 obtain ⟨pa,hpa⟩:∃ z,Hid (w.heap.size+1=z):=⟨_,rfl⟩
 obtain ⟨pw,hpw⟩:∃ z,Hid (w.heap.size=z):=⟨_,rfl⟩
 rw [hpz.out] at Z0 ⊢;rw [hpa.out] at C0 ⊢;rw [hpw.out] at A0 ⊢;have k1:w.heap.size≤pw:=by have:=hpw.out;omega
 have k2:w.heap.size≤pa:=by have:=hpa.out;omega
 have k3:w.heap.size≤pz:=by have:=hpz.out;omega
 have k4:¬pw=pz:=by have:=hpw.out;have:=hpz.out;omega
 have k5:¬pa=pz:=by have:=hpa.out;have:=hpz.out;omega
 have k6:¬pw=pa:=by have:=hpw.out;have:=hpa.out;omega
 have HW1:=HW.below hA;have hs1:=hA.size;have kz:pz<w1.heap.size:=Z0.lt;have kpw:pw<w1.heap.size:=A0.lt;have kpa:pa<w1.heap.size:=C0.lt;obtain ⟨d0,d1,d2⟩:=r3_cells A0;obtain ⟨e0,e1,e2,e3,e4,e5,e6,e7,e8,e9,e10⟩:=r11_cells C0;obtain ⟨z0,z1,z2⟩:=r3_cells Z0;obtain ⟨f0,f1,f2⟩:=r3_free Z0;have dl:=A0.lt;have el:=C0.lt;have zl:=Z0.lt;obtain ⟨qo,hqo⟩:∃ q,Hid (opq x ⟨0,0,0,0,⟨#[]⟩,0,0⟩=q):=⟨_,rfl⟩
 go_upto_region 3 with fail
 rw [hqo.out];have n1':(kd==1)=false:=by have:=hk.out;simp [this]
 have n2':(kd==2)=false:=by have:=hk.out;simp [this]
 have n3':(kd==3)=true:=by have:=hk.out;simp [this]
 have n4':(kd==4)=false:=by have:=hk.out;simp [this]
 have n5':(kd==5)=false:=by have:=hk.out;simp [this]
 cases qo with
 | false =>
  have Z9:=r3_set2 (r3_set1 (r3_set0 Z0 (.int .i64 now)) (.slice a n c3)) (.slice a2 n2 c4);have B9:=((hA.setCell (p:=⟨pz,0,none⟩) k3 (.int .i64 now)).setCell (p:=⟨pz,1,none⟩) k3 (.slice a n c3)).setCell (p:=⟨pz,2,none⟩) k3 (.slice a2 n2 c4);have HW9:=HW.below B9;go_wp2_with fail
  obtain ⟨Wz,hWz⟩:∃ W,((w1.setCell ⟨pz,0,none⟩ (.int .i64 now)).setCell ⟨pz,1,none⟩ (.slice a n c3)).setCell ⟨pz,2,none⟩ (.slice a2 n2 c4)=W:=⟨_,rfl⟩
  rw [hWz] at Z9 HW9 B9 ⊢;clear hWz z0 z1 z2 f0 f1 f2;obtain ⟨z0,z1,z2⟩:=r3_cells Z9;refine bodyPost_ret (v:=.tuple #[.agg #[.int .i64 now,.slice a n c3,.slice a2 n2 c4],.int .i64 2]) (by simp [results,Tryz.results111,go_sem,z0,z1,z2]) rfl ?_;exact ⟨_,_,_,_,_,_,rs,ms,2,rfl,fun wz hz=>HT.still (gs_trans (gs_below B9) hz),hbd.out,gs_below B9⟩
 | true =>
 by_cases hv0:wh=0
 case neg =>
  have bw:(wh != 0)=true:=by simp [hv0]
  clear hv0;have Z9:=r3_set2 (r3_set1 (r3_set0 Z0 (.int .i64 now)) (.slice a n c3)) (.slice a2 n2 c4);have B9:=((hA.setCell (p:=⟨pz,0,none⟩) k3 (.int .i64 now)).setCell (p:=⟨pz,1,none⟩) k3 (.slice a n c3)).setCell (p:=⟨pz,2,none⟩) k3 (.slice a2 n2 c4);have HW9:=HW.below B9;go_wp2_with fail
  obtain ⟨Wz,hWz⟩:∃ W,((w1.setCell ⟨pz,0,none⟩ (.int .i64 now)).setCell ⟨pz,1,none⟩ (.slice a n c3)).setCell ⟨pz,2,none⟩ (.slice a2 n2 c4)=W:=⟨_,rfl⟩
  rw [hWz] at Z9 HW9 B9 ⊢;clear hWz z0 z1 z2 f0 f1 f2;obtain ⟨z0,z1,z2⟩:=r3_cells Z9;refine bodyPost_ret (v:=.tuple #[.agg #[.int .i64 now,.slice a n c3,.slice a2 n2 c4],.int .i64 2]) (by simp [results,Tryz.results111,go_sem,z0,z1,z2]) rfl ?_;exact ⟨_,_,_,_,_,_,rs,ms,2,rfl,fun wz hz=>HT.still (gs_trans (gs_below B9) hz),hbd.out,gs_below B9⟩
 have bw:(wh != 0)=false:=by simp [hv0]
 clear hv0;by_cases hv0:tt=0
 case neg =>
  have bt:(tt != 0)=true:=by simp [hv0]
  clear hv0;have Z9:=r3_set2 (r3_set1 (r3_set0 Z0 (.int .i64 now)) (.slice a n c3)) (.slice a2 n2 c4);have B9:=((hA.setCell (p:=⟨pz,0,none⟩) k3 (.int .i64 now)).setCell (p:=⟨pz,1,none⟩) k3 (.slice a n c3)).setCell (p:=⟨pz,2,none⟩) k3 (.slice a2 n2 c4);have HW9:=HW.below B9;go_wp2_with fail
  obtain ⟨Wz,hWz⟩:∃ W,((w1.setCell ⟨pz,0,none⟩ (.int .i64 now)).setCell ⟨pz,1,none⟩ (.slice a n c3)).setCell ⟨pz,2,none⟩ (.slice a2 n2 c4)=W:=⟨_,rfl⟩
  rw [hWz] at Z9 HW9 B9 ⊢;clear hWz z0 z1 z2 f0 f1 f2;obtain ⟨z0,z1,z2⟩:=r3_cells Z9;refine bodyPost_ret (v:=.tuple #[.agg #[.int .i64 now,.slice a n c3,.slice a2 n2 c4],.int .i64 2]) (by simp [results,Tryz.results111,go_sem,z0,z1,z2]) rfl ?_;exact ⟨_,_,_,_,_,_,rs,ms,2,rfl,fun wz hz=>HT.still (gs_trans (gs_below B9) hz),hbd.out,gs_below B9⟩
 have bt:(tt != 0)=false:=by simp [hv0]
 clear hv0;obtain ⟨q3,hq3⟩:∃ q,Hid (M1.inB ta 0 ((n2:Int)-1)=q):=⟨_,rfl⟩
 go_wp2_with fail
 refine (l1In_any _ _ _ _).mono ?_;rw [hq3.out];rintro e wa ⟨rfl,hwa⟩;obtain rfl:=hwa.symm
 cases q3 with
 | false =>
  have Z9:=r3_set2 (r3_set1 (r3_set0 Z0 (.int .i64 now)) (.slice a n c3)) (.slice a2 n2 c4);have B9:=((hA.setCell (p:=⟨pz,0,none⟩) k3 (.int .i64 now)).setCell (p:=⟨pz,1,none⟩) k3 (.slice a n c3)).setCell (p:=⟨pz,2,none⟩) k3 (.slice a2 n2 c4);have HW9:=HW.below B9;go_wp2_with fail
  obtain ⟨Wz,hWz⟩:∃ W,((w1.setCell ⟨pz,0,none⟩ (.int .i64 now)).setCell ⟨pz,1,none⟩ (.slice a n c3)).setCell ⟨pz,2,none⟩ (.slice a2 n2 c4)=W:=⟨_,rfl⟩
  rw [hWz] at Z9 HW9 B9 ⊢;clear hWz z0 z1 z2 f0 f1 f2;obtain ⟨z0,z1,z2⟩:=r3_cells Z9;refine bodyPost_ret (v:=.tuple #[.agg #[.int .i64 now,.slice a n c3,.slice a2 n2 c4],.int .i64 3]) (by simp [results,Tryz.results111,go_sem,z0,z1,z2]) rfl ?_;exact ⟨_,_,_,_,_,_,rs,ms,3,rfl,fun wz hz=>HT.still (gs_trans (gs_below B9) hz),hbd.out,gs_below B9⟩
 | true =>
 have hta:=M1.inB_true hq3.out;have j0:(0:Int)≤ta:=by omega
 have j1:ta<(n2:Int):=by omega
 obtain ⟨i,hi⟩:∃ i,Hid (ta.toNat=i):=⟨_,rfl⟩
 have hin:i<n2:=by have:=hi.out;omega
 have hti:Hid (ta=(i:Int)):=(by have:=hi.out;omega:_=_)
 obtain ⟨gM,hgMe,hrowM⟩:∃ gM,a2=some ⟨gM,0,none⟩∧RowAt w1 gM (n2*5) (fx ys):=by
  obtain ⟨av',c',q1,_,_,_,q4⟩:=owns_slice HW1.own;injection q1 with q1 q2 _;rcases q4 with ⟨q4,q5⟩ | ⟨g',q4,_,_,q5⟩
  ·omega
  ·rw [q2]
   exact ⟨g',q1.trans q4,q5⟩
 subst hgMe;have hgM:∀ k,(Value.slice (some ⟨gM,0,none⟩) n2 c4).ownBlock=some k→k<w.heap.size∧True:=fun k e=>⟨(HW.own.lt k e).2,trivial⟩;have hgMl:gM<w.heap.size:=(HW.own.lt gM rfl).2;have hgM1:=hrowM.lt;obtain ⟨v5,n5,c5,v6,n6,c6,h0,h1',h2',h3,h4,hv,hu,ha,hb⟩:=HT.m i (by rw [hl2.out];exact hin);have hmi:=hml.out i hin;obtain ⟨m,hm'⟩:∃ m,Hid (M1.mlA ms i=m):=⟨_,rfl⟩
 rw [hm'.out] at h0 h1' h2' hv hu hmi;have t0:=(hrowM.cell (o:=i*5) (by omega)).trans (congrArg some h0);have t1:=(hrowM.cell (o:=i*5+1) (by omega)).trans (congrArg some h1');have t2:=(hrowM.cell (o:=i*5+2) (by omega)).trans (congrArg some h2');have t3:=(hrowM.cell (o:=i*5+3) (by omega)).trans (congrArg some h3);have t4:=(hrowM.cell (o:=i*5+4) (by omega)).trans (congrArg some h4);clear h0 h1' h2' h3 h4;have hA2:Below w1.heap.size w1 (w1.alloc (.cells #[.int .i64 m.fr,.int .i64 m.tt,.bool m.ask,.slice v5 n5 c5,.slice v6 n6 c6] 62)):=(Below.refl _ _).alloc (Nat.le_refl _) _;have M2:=r5_new w1 (.int .i64 m.fr) (.int .i64 m.tt) (.bool m.ask) (.slice v5 n5 c5) (.slice v6 n6 c6) 62;rw [←hi.out] at t0 t1 t2 t3 t4;go_upto_region 25 with fail
 obtain ⟨w2,hw2⟩:∃ W,w1.alloc (.cells #[.int .i64 m.fr,.int .i64 m.tt,.bool m.ask,.slice v5 n5 c5,.slice v6 n6 c6] 62)=W:=⟨_,rfl⟩
 rw [hw2] at hA2 M2 ⊢;clear hw2;obtain ⟨pm,hpm⟩:∃ z,Hid (w1.heap.size=z):=⟨_,rfl⟩
 rw [hpm.out] at M2 ⊢;have B2:=hA.trans (hA2.mono hA.size);have A2:=A0.below hA2;have C2:=C0.below hA2;have Z2:=Z0.below hA2;have rowM:=hrowM.below hA2;have hs2:=hA2.size;have kpm:w1.heap.size≤pm∧pm<w2.heap.size:=⟨by have:=hpm.out;omega,M2.lt⟩
 clear t0 t1 t2 t3 t4 hrowM;clear d0 d1 d2 e0 e1 e2 e3 e4 e5 e6 e7 e8 e9 e10 z0 z1 z2 f0 f1 f2 dl el zl;obtain ⟨d0,d1,d2⟩:=r3_cells A2;obtain ⟨e0,e1,e2,e3,e4,e5,e6,e7,e8,e9,e10⟩:=r11_cells C2;obtain ⟨s0,s1,s2,s3,s4⟩:=r5_cells M2;have dl:=A2.lt;have el:=C2.lt;have sl:=M2.lt;have rowlt:∀ k,k<n2*5→k<ys.length:=fun k hk=>by have:=HW.own.1;rw [hl2.out] at this;omega
 have hyl:ys.length=n2*5:=by have:=HW.own.1;rwa [hl2.out] at this
 have hone:∀ u∈ys,u.oneCell'=true:=mlx_one HW.x HW.own.1;have htl:(ys.take (i*5)).length=i*5:=by rw [List.length_take];omega
 have hdr:(ys.drop ((i+1)*5)).length=(n2-(i+1))*5:=by rw [List.length_drop];omega
 have h1t:∀ u∈ys.take (i*5),u.oneCell'=true:=fun u h=>hone u (List.mem_of_mem_take h);have h1d:∀ u∈ys.drop ((i+1)*5),u.oneCell'=true:=fun u h=>hone u (List.mem_of_mem_drop h);have src1:∀ v:World,RowAt v gM (n2*5) (fx ys)→(i=0∨∃ ad,some (⟨gM,0,none⟩:Addr)=some ad∧∀ j u,(ys.take (i*5))[j]?=some u→v.cell? (ad.add j)=some u):=fun v hr=>Or.inr ⟨_,rfl,fun j u hu=>by
  have hj:=(List.getElem?_eq_some_iff.1 hu).1;rw [htl] at hj;have e:fx ys j=u:=by
   rw [←fx_take hj];unfold fx;simp [List.getD,hu]
  rw [Go.WideShapes.add_plain,Nat.zero_add,←e];exact hr.cell (by omega)⟩
 have src2:∀ v:World,RowAt v gM (n2*5) (fx ys)→∀ sa,(sa=some (⟨gM,(i+1)*5,none⟩:Addr)∨n2-(i+1)=0)→(n2-(i+1)=0∨∃ ad,sa=some ad∧∀ j u,(ys.drop ((i+1)*5))[j]?=some u→v.cell? (ad.add j)=some u):=fun v hr sa hsa=>hsa.elim (fun hsa=>Or.inr ⟨_,hsa,fun j u hu=>by
  have hj:=(List.getElem?_eq_some_iff.1 hu).1;rw [hdr] at hj;have e:fx ys ((i+1)*5+j)=u:=by
   rw [←fx_drop];unfold fx;simp only [List.getD,hu,Option.getD_some]
  rw [Go.WideShapes.add_plain,←e];exact hr.cell (by omega)⟩) Or.inl
 obtain ⟨sa,hsae⟩:∃ sa,Hid ((if c4=i+1 then some (⟨gM,0,none⟩:Addr) else some ⟨gM,(i+1)*5,none⟩)=sa):=⟨_,rfl⟩
 have hsa:sa=some (⟨gM,(i+1)*5,none⟩:Addr)∨n2-(i+1)=0:=by
  rw [←hsae.out];by_cases e:c4=i+1
  ·exact Or.inr (by omega)
  ·rw [if_neg e];exact Or.inl rfl
 have hic:¬c4<i:=by omega
 have hic1:¬n2<i+1:=by omega
 have hic2:¬c4<i+1:=by omega
 have hic3:¬(n2:Int)<(i:Int)+1:=by omega
 have hic4:¬(c4:Int)<(i:Int):=by omega
 have hH:w.heap.size≤w2.heap.size:=B2.size;rw [hti.out] at e3;go_upto_region 28 with fail
 go_cut [] (fun wc=>∃ (mv:Option Addr) (mc:Nat),R3 wc pw (.int .i64 now) (.slice a n c3) (.slice mv (n2-1) mc)∧R11 wc pa kd wh tt ta x∧R3 wc pz (.int .i64 0) (.slice none 0 0) (.slice none 0 0)∧R5 wc pm (.int .i64 m.fr) (.int .i64 m.tt) (.bool m.ask) (.slice v5 n5 c5) (.slice v6 n6 c6)∧wc.ownsRow w2.heap.size 62 5 (.slice mv (n2-1) mc) (n2-1) (ys.take (i*5) ++ ys.drop ((i+1)*5))∧Below w.heap.size w wc)
 case first =>
  refine wp_region_held_drew (S:=fun w'=>∀ o,w'.cell? ⟨pa,o,none⟩=w2.cell? ⟨pa,o,none⟩) (by kernel_rfl) ?_ (fun zH=>?_)
  ·exact fun _=>rfl
  refine uZ 1 ?_;simp only[pZ,zZ];refine uZ 3 ?_;simp only[pZ,zZ];refine uZ 4 ?_;simp only[pZ,zZ];refine uZ 7 ?_;simp only[pZ,zZ];refine uZ 9 ?_;simp only[pZ,zZ];refine uZ 10 ?_;simp only[pZ,zZ];refine tZ (i:=11) (v:=.int .i64 ((i:Int)+1)) rfl (.inl ⟨by rfl,?_⟩) zH ?_
  ·(intro w hSw;(try dsimp only at hSw);go_simp;(try exact IntWalk.i64_in _ (by omega)))
  (try simp only[pZ,zZ]);obtain ⟨v0,hv0⟩:∃ W,w2.drew=W:=⟨_,rfl⟩
  have hb0:Below w2.heap.size w2 w2.drew:=(Below.refl _ _).drew;rw [hv0] at zH hb0 ⊢;clear hv0 d0 d1 d2 e0 e1 e2 e3 e4 e5 e6 e7 e8 e9 e10 s0 s1 s2 s3 s4;obtain ⟨d0,d1,d2⟩:=r3_cells (A2.below hb0);have dl0:=(A2.below hb0).lt;have rM0:=rowM.below hb0;have el0:=(C2.below hb0).lt;have hz0:=hb0.size;refine rZ [0,2,8] (.cons rfl (fun K hK=>?_) (.cons rfl (fun K hK=>?_) (.cons rfl (fun K hK=>?_) .nil)))
  ·go_simp
   refine hK.out _ _ (fun o=>((((Below.refl v0.heap.size v0).alloc (Nat.le_refl _) _).cell (p:=⟨pa,o,none⟩) (by show pa<v0.heap.size;omega)).trans (zH o))) (fun zH2=>?_);clear hK K zH;have zH:=zH2;clear zH2;(try simp only[pZ,zZ]);have hc1:Below v0.heap.size v0 (v0.alloc (.cells #[] 62)):=(Below.refl _ _).alloc (Nat.le_refl _) _;have own0:=ownsM0 v0 62 (H:=w2.heap.size) (by omega);obtain ⟨v1,hw⟩:∃ W,v0.alloc (.cells #[] 62)=W:=⟨_,rfl⟩
   rw [hw] at hc1 own0 zH ⊢;clear hw;have hb1:Below w2.heap.size w2 v1:=hb0.trans (hc1.mono hb0.size);have hs11:=hc1.size;have hz1:=hb1.size;have rM1:=rowM.below hb1;obtain ⟨d0_1,d1_1,d2_1⟩:=r3_cells (A2.below hb1);have dl1:=(A2.below hb1).lt;refine rZ [2,8] (.cons rfl (fun K hK=>?_) (.cons rfl (fun K hK=>?_) .nil))
   ·go_simp
    refine hK.out _ _ zH (fun zH2=>?_);clear hK K zH;have zH:=zH2;clear zH2;(try simp only[pZ,zZ]);refine tZ (i:=5) (v:=.slice (some ⟨gM,0,none⟩) i c4) rfl (.inl ⟨by rfl,?_⟩) zH ?_
    ·(intro w hSw;(try dsimp only at hSw);go_simp;skip)
    (try simp only[pZ,zZ]);refine rZ [6,8] (.cons rfl (fun K hK=>?_) (.cons rfl (fun K hK=>?_) .nil))
    ·refine step_appMs rfl _ _ rfl w2.heap.size _ _ 0 [] rfl own0 (some ⟨gM,0,none⟩) i _ (ys.take (i*5)) rfl htl h1t (src1 _ rM1) (by omega) (by omega) ?_
     intro a6 cap6 v2 own6 hc2;refine hK.out _ _ (fun o=>((hc2.cell (p:=⟨pa,o,none⟩) (by show pa<w2.heap.size;omega)).trans (zH o))) (fun zH2=>?_);clear hK K zH;have zH:=zH2;clear zH2;(try simp only[pZ,zZ]);rw [Nat.zero_add,List.nil_append] at own6
     (try simp only [Nat.zero_add])
     have hb2:Below w2.heap.size w2 v2:=hb1.trans (hc2.mono (Nat.le_refl _));have hs12:=hc2.size;have hz2:=hb2.size;have rM2:=rowM.below hb2;obtain ⟨d0_2,d1_2,d2_2⟩:=r3_cells (A2.below hb2);have dl2:=(A2.below hb2).lt;refine sZ 8 fun K hK=>?_
     ·go_simp
      refine hK.out _ _ zH (fun zH2=>?_);clear hK K zH;have zH:=zH2;clear zH2;(try simp only[pZ,zZ]);refine tZ (i:=12) (v:=.slice sa (n2-(i+1)) (c4-(i+1))) rfl (.inl ⟨by rfl,?_⟩) zH ?_
      ·(intro w hSw;(try dsimp only at hSw);go_simp;((try rw [hsae.out]);(try rw [if_pos (show (0:Int)≤(i:Int)+1∧(i:Int)+1≤(n2:Int) from ⟨by omega,by omega⟩)])))
      (try simp only[pZ,zZ]);refine sZ 13 fun K hK=>?_
      ·refine step_appMs rfl _ _ rfl w2.heap.size _ _ i (ys.take (i*5)) rfl own6 sa (n2-(i+1)) _ (ys.drop ((i+1)*5)) rfl hdr h1d (src2 _ rM2 _ hsa) (by omega) (by omega) ?_
       intro a13 cap13 v3 own13 hc3;refine hK.out _ _ (fun o=>((hc3.cell (p:=⟨pa,o,none⟩) (by show pa<w2.heap.size;omega)).trans (zH o))) (fun zH2=>?_);clear hK K zH;have zH:=zH2;clear zH2;(try simp only[pZ,zZ]);have hb3:Below w2.heap.size w2 v3:=hb2.trans (hc3.mono (Nat.le_refl _));have hs13:=hc3.size;have hz3:=hb3.size;have rM3:=rowM.below hb3;obtain ⟨d0_3,d1_3,d2_3⟩:=r3_cells (A2.below hb3);have dl3:=(A2.below hb3).lt;have hlen9:i+(n2-(i+1))=n2-1:=by omega
       rw [hlen9] at own13
       (try rw [hlen9])
       have A8:=A2.below hb3;have C8:=C2.below hb3;have Z8:=Z2.below hb3;have M8:=M2.below hb3;obtain ⟨y0,y1,y2⟩:=r3_cells A8;obtain ⟨g0,g1,g2⟩:=r3_free A8;have yl:=A8.lt;refine uZ 14 ?_;simp only[pZ,zZ];refine sZ 15 fun K hK=>?_;go_simp
       skip
       refine hK.out _ _ ?_ (fun zH2=>?_)
       ·exact fun o=>(World.cell?_setCell_other _ _ _ _ (by intro q;injection q with q1 _ _;omega)).trans (zH o)
       clear hK K zH;have zH:=zH2;clear zH2;(try simp only[pZ,zZ]);refine dZ ?_;have A9:=r3_set2 A8 (.slice a13 (n2-1) cap13);have C9:=C8.far (p:=⟨pw,2,none⟩) k6 (.slice a13 (n2-1) cap13);have Z9:=Z8.far (p:=⟨pw,2,none⟩) k4 (.slice a13 (n2-1) cap13);have M9:=M8.far (p:=⟨pw,2,none⟩) (by show pw≠pm;omega) (.slice a13 (n2-1) cap13);have own9:=owns_gs own13 (gs_one (q:=pw) (gs_refl _ _) 2 (.slice a13 (n2-1) cap13)) (fun k e q=>by have:=(own13.lt k e).1;omega);have B9:Below w.heap.size w (v3.setCell ⟨pw,2,none⟩ (.slice a13 (n2-1) cap13)):=(B2.trans (hb3.mono B2.size)).setCell (p:=⟨pw,2,none⟩) k1 _;generalize v3.setCell ⟨pw,2,none⟩ (.slice a13 (n2-1) cap13)=W9 at A9 C9 Z9 M9 own9 B9 ⊢;go_wp2_with fail
       go_meet
       exact ⟨a13,cap13,A9,C9,Z9,M9,own9,B9⟩
    ·go_simp
     refine hK.out _ _ zH (fun zH2=>?_);clear hK K zH;have zH:=zH2;clear zH2;(try simp only[pZ,zZ]);refine tZ (i:=12) (v:=.slice sa (n2-(i+1)) (c4-(i+1))) rfl (.inl ⟨by rfl,?_⟩) zH ?_
     ·(intro w hSw;(try dsimp only at hSw);go_simp;((try rw [hsae.out]);(try rw [if_pos (show (0:Int)≤(i:Int)+1∧(i:Int)+1≤(n2:Int) from ⟨by omega,by omega⟩)])))
     (try simp only[pZ,zZ]);refine sZ 6 fun K hK=>?_
     ·refine step_appMs rfl _ _ rfl w2.heap.size _ _ 0 [] rfl own0 (some ⟨gM,0,none⟩) i _ (ys.take (i*5)) rfl htl h1t (src1 _ rM1) (by omega) (by omega) ?_
      intro a6 cap6 v2 own6 hc2;refine hK.out _ _ (fun o=>((hc2.cell (p:=⟨pa,o,none⟩) (by show pa<w2.heap.size;omega)).trans (zH o))) (fun zH2=>?_);clear hK K zH;have zH:=zH2;clear zH2;(try simp only[pZ,zZ]);rw [Nat.zero_add,List.nil_append] at own6
      (try simp only [Nat.zero_add])
      have hb2:Below w2.heap.size w2 v2:=hb1.trans (hc2.mono (Nat.le_refl _));have hs12:=hc2.size;have hz2:=hb2.size;have rM2:=rowM.below hb2;obtain ⟨d0_2,d1_2,d2_2⟩:=r3_cells (A2.below hb2);have dl2:=(A2.below hb2).lt;refine sZ 13 fun K hK=>?_
      ·refine step_appMs rfl _ _ rfl w2.heap.size _ _ i (ys.take (i*5)) rfl own6 sa (n2-(i+1)) _ (ys.drop ((i+1)*5)) rfl hdr h1d (src2 _ rM2 _ hsa) (by omega) (by omega) ?_
       intro a13 cap13 v3 own13 hc3;refine hK.out _ _ (fun o=>((hc3.cell (p:=⟨pa,o,none⟩) (by show pa<w2.heap.size;omega)).trans (zH o))) (fun zH2=>?_);clear hK K zH;have zH:=zH2;clear zH2;(try simp only[pZ,zZ]);have hb3:Below w2.heap.size w2 v3:=hb2.trans (hc3.mono (Nat.le_refl _));have hs13:=hc3.size;have hz3:=hb3.size;have rM3:=rowM.below hb3;obtain ⟨d0_3,d1_3,d2_3⟩:=r3_cells (A2.below hb3);have dl3:=(A2.below hb3).lt;have hlen9:i+(n2-(i+1))=n2-1:=by omega
       rw [hlen9] at own13
       (try rw [hlen9])
       have A8:=A2.below hb3;have C8:=C2.below hb3;have Z8:=Z2.below hb3;have M8:=M2.below hb3;obtain ⟨y0,y1,y2⟩:=r3_cells A8;obtain ⟨g0,g1,g2⟩:=r3_free A8;have yl:=A8.lt;refine uZ 14 ?_;simp only[pZ,zZ];refine sZ 15 fun K hK=>?_;go_simp
       skip
       refine hK.out _ _ ?_ (fun zH2=>?_)
       ·exact fun o=>(World.cell?_setCell_other _ _ _ _ (by intro q;injection q with q1 _ _;omega)).trans (zH o)
       clear hK K zH;have zH:=zH2;clear zH2;(try simp only[pZ,zZ]);refine dZ ?_;have A9:=r3_set2 A8 (.slice a13 (n2-1) cap13);have C9:=C8.far (p:=⟨pw,2,none⟩) k6 (.slice a13 (n2-1) cap13);have Z9:=Z8.far (p:=⟨pw,2,none⟩) k4 (.slice a13 (n2-1) cap13);have M9:=M8.far (p:=⟨pw,2,none⟩) (by show pw≠pm;omega) (.slice a13 (n2-1) cap13);have own9:=owns_gs own13 (gs_one (q:=pw) (gs_refl _ _) 2 (.slice a13 (n2-1) cap13)) (fun k e q=>by have:=(own13.lt k e).1;omega);have B9:Below w.heap.size w (v3.setCell ⟨pw,2,none⟩ (.slice a13 (n2-1) cap13)):=(B2.trans (hb3.mono B2.size)).setCell (p:=⟨pw,2,none⟩) k1 _;generalize v3.setCell ⟨pw,2,none⟩ (.slice a13 (n2-1) cap13)=W9 at A9 C9 Z9 M9 own9 B9 ⊢;go_wp2_with fail
       go_meet
       exact ⟨a13,cap13,A9,C9,Z9,M9,own9,B9⟩
   ·go_simp
    refine hK.out _ _ zH (fun zH2=>?_);clear hK K zH;have zH:=zH2;clear zH2;(try simp only[pZ,zZ]);refine tZ (i:=12) (v:=.slice sa (n2-(i+1)) (c4-(i+1))) rfl (.inl ⟨by rfl,?_⟩) zH ?_
    ·(intro w hSw;(try dsimp only at hSw);go_simp;((try rw [hsae.out]);(try rw [if_pos (show (0:Int)≤(i:Int)+1∧(i:Int)+1≤(n2:Int) from ⟨by omega,by omega⟩)])))
    (try simp only[pZ,zZ]);refine sZ 2 fun K hK=>?_
    ·go_simp
     refine hK.out _ _ zH (fun zH2=>?_);clear hK K zH;have zH:=zH2;clear zH2;(try simp only[pZ,zZ]);refine tZ (i:=5) (v:=.slice (some ⟨gM,0,none⟩) i c4) rfl (.inl ⟨by rfl,?_⟩) zH ?_
     ·(intro w hSw;(try dsimp only at hSw);go_simp;skip)
     (try simp only[pZ,zZ]);refine sZ 6 fun K hK=>?_
     ·refine step_appMs rfl _ _ rfl w2.heap.size _ _ 0 [] rfl own0 (some ⟨gM,0,none⟩) i _ (ys.take (i*5)) rfl htl h1t (src1 _ rM1) (by omega) (by omega) ?_
      intro a6 cap6 v2 own6 hc2;refine hK.out _ _ (fun o=>((hc2.cell (p:=⟨pa,o,none⟩) (by show pa<w2.heap.size;omega)).trans (zH o))) (fun zH2=>?_);clear hK K zH;have zH:=zH2;clear zH2;(try simp only[pZ,zZ]);rw [Nat.zero_add,List.nil_append] at own6
      (try simp only [Nat.zero_add])
      have hb2:Below w2.heap.size w2 v2:=hb1.trans (hc2.mono (Nat.le_refl _));have hs12:=hc2.size;have hz2:=hb2.size;have rM2:=rowM.below hb2;obtain ⟨d0_2,d1_2,d2_2⟩:=r3_cells (A2.below hb2);have dl2:=(A2.below hb2).lt;refine sZ 13 fun K hK=>?_
      ·refine step_appMs rfl _ _ rfl w2.heap.size _ _ i (ys.take (i*5)) rfl own6 sa (n2-(i+1)) _ (ys.drop ((i+1)*5)) rfl hdr h1d (src2 _ rM2 _ hsa) (by omega) (by omega) ?_
       intro a13 cap13 v3 own13 hc3;refine hK.out _ _ (fun o=>((hc3.cell (p:=⟨pa,o,none⟩) (by show pa<w2.heap.size;omega)).trans (zH o))) (fun zH2=>?_);clear hK K zH;have zH:=zH2;clear zH2;(try simp only[pZ,zZ]);have hb3:Below w2.heap.size w2 v3:=hb2.trans (hc3.mono (Nat.le_refl _));have hs13:=hc3.size;have hz3:=hb3.size;have rM3:=rowM.below hb3;obtain ⟨d0_3,d1_3,d2_3⟩:=r3_cells (A2.below hb3);have dl3:=(A2.below hb3).lt;have hlen9:i+(n2-(i+1))=n2-1:=by omega
       rw [hlen9] at own13
       (try rw [hlen9])
       have A8:=A2.below hb3;have C8:=C2.below hb3;have Z8:=Z2.below hb3;have M8:=M2.below hb3;obtain ⟨y0,y1,y2⟩:=r3_cells A8;obtain ⟨g0,g1,g2⟩:=r3_free A8;have yl:=A8.lt;refine uZ 14 ?_;simp only[pZ,zZ];refine sZ 15 fun K hK=>?_;go_simp
       skip
       refine hK.out _ _ ?_ (fun zH2=>?_)
       ·exact fun o=>(World.cell?_setCell_other _ _ _ _ (by intro q;injection q with q1 _ _;omega)).trans (zH o)
       clear hK K zH;have zH:=zH2;clear zH2;(try simp only[pZ,zZ]);refine dZ ?_;have A9:=r3_set2 A8 (.slice a13 (n2-1) cap13);have C9:=C8.far (p:=⟨pw,2,none⟩) k6 (.slice a13 (n2-1) cap13);have Z9:=Z8.far (p:=⟨pw,2,none⟩) k4 (.slice a13 (n2-1) cap13);have M9:=M8.far (p:=⟨pw,2,none⟩) (by show pw≠pm;omega) (.slice a13 (n2-1) cap13);have own9:=owns_gs own13 (gs_one (q:=pw) (gs_refl _ _) 2 (.slice a13 (n2-1) cap13)) (fun k e q=>by have:=(own13.lt k e).1;omega);have B9:Below w.heap.size w (v3.setCell ⟨pw,2,none⟩ (.slice a13 (n2-1) cap13)):=(B2.trans (hb3.mono B2.size)).setCell (p:=⟨pw,2,none⟩) k1 _;generalize v3.setCell ⟨pw,2,none⟩ (.slice a13 (n2-1) cap13)=W9 at A9 C9 Z9 M9 own9 B9 ⊢;go_wp2_with fail
       go_meet
       exact ⟨a13,cap13,A9,C9,Z9,M9,own9,B9⟩
  ·go_simp
   refine hK.out _ _ zH (fun zH2=>?_);clear hK K zH;have zH:=zH2;clear zH2;(try simp only[pZ,zZ]);refine tZ (i:=5) (v:=.slice (some ⟨gM,0,none⟩) i c4) rfl (.inl ⟨by rfl,?_⟩) zH ?_
   ·(intro w hSw;(try dsimp only at hSw);go_simp;skip)
   (try simp only[pZ,zZ]);refine rZ [0,8] (.cons rfl (fun K hK=>?_) (.cons rfl (fun K hK=>?_) .nil))
   ·go_simp
    refine hK.out _ _ (fun o=>((((Below.refl v0.heap.size v0).alloc (Nat.le_refl _) _).cell (p:=⟨pa,o,none⟩) (by show pa<v0.heap.size;omega)).trans (zH o))) (fun zH2=>?_);clear hK K zH;have zH:=zH2;clear zH2;(try simp only[pZ,zZ]);have hc1:Below v0.heap.size v0 (v0.alloc (.cells #[] 62)):=(Below.refl _ _).alloc (Nat.le_refl _) _;have own0:=ownsM0 v0 62 (H:=w2.heap.size) (by omega);obtain ⟨v1,hw⟩:∃ W,v0.alloc (.cells #[] 62)=W:=⟨_,rfl⟩
    rw [hw] at hc1 own0 zH ⊢;clear hw;have hb1:Below w2.heap.size w2 v1:=hb0.trans (hc1.mono hb0.size);have hs11:=hc1.size;have hz1:=hb1.size;have rM1:=rowM.below hb1;obtain ⟨d0_1,d1_1,d2_1⟩:=r3_cells (A2.below hb1);have dl1:=(A2.below hb1).lt;refine rZ [6,8] (.cons rfl (fun K hK=>?_) (.cons rfl (fun K hK=>?_) .nil))
    ·refine step_appMs rfl _ _ rfl w2.heap.size _ _ 0 [] rfl own0 (some ⟨gM,0,none⟩) i _ (ys.take (i*5)) rfl htl h1t (src1 _ rM1) (by omega) (by omega) ?_
     intro a6 cap6 v2 own6 hc2;refine hK.out _ _ (fun o=>((hc2.cell (p:=⟨pa,o,none⟩) (by show pa<w2.heap.size;omega)).trans (zH o))) (fun zH2=>?_);clear hK K zH;have zH:=zH2;clear zH2;(try simp only[pZ,zZ]);rw [Nat.zero_add,List.nil_append] at own6
     (try simp only [Nat.zero_add])
     have hb2:Below w2.heap.size w2 v2:=hb1.trans (hc2.mono (Nat.le_refl _));have hs12:=hc2.size;have hz2:=hb2.size;have rM2:=rowM.below hb2;obtain ⟨d0_2,d1_2,d2_2⟩:=r3_cells (A2.below hb2);have dl2:=(A2.below hb2).lt;refine sZ 8 fun K hK=>?_
     ·go_simp
      refine hK.out _ _ zH (fun zH2=>?_);clear hK K zH;have zH:=zH2;clear zH2;(try simp only[pZ,zZ]);refine tZ (i:=12) (v:=.slice sa (n2-(i+1)) (c4-(i+1))) rfl (.inl ⟨by rfl,?_⟩) zH ?_
      ·(intro w hSw;(try dsimp only at hSw);go_simp;((try rw [hsae.out]);(try rw [if_pos (show (0:Int)≤(i:Int)+1∧(i:Int)+1≤(n2:Int) from ⟨by omega,by omega⟩)])))
      (try simp only[pZ,zZ]);refine sZ 13 fun K hK=>?_
      ·refine step_appMs rfl _ _ rfl w2.heap.size _ _ i (ys.take (i*5)) rfl own6 sa (n2-(i+1)) _ (ys.drop ((i+1)*5)) rfl hdr h1d (src2 _ rM2 _ hsa) (by omega) (by omega) ?_
       intro a13 cap13 v3 own13 hc3;refine hK.out _ _ (fun o=>((hc3.cell (p:=⟨pa,o,none⟩) (by show pa<w2.heap.size;omega)).trans (zH o))) (fun zH2=>?_);clear hK K zH;have zH:=zH2;clear zH2;(try simp only[pZ,zZ]);have hb3:Below w2.heap.size w2 v3:=hb2.trans (hc3.mono (Nat.le_refl _));have hs13:=hc3.size;have hz3:=hb3.size;have rM3:=rowM.below hb3;obtain ⟨d0_3,d1_3,d2_3⟩:=r3_cells (A2.below hb3);have dl3:=(A2.below hb3).lt;have hlen9:i+(n2-(i+1))=n2-1:=by omega
       rw [hlen9] at own13
       (try rw [hlen9])
       have A8:=A2.below hb3;have C8:=C2.below hb3;have Z8:=Z2.below hb3;have M8:=M2.below hb3;obtain ⟨y0,y1,y2⟩:=r3_cells A8;obtain ⟨g0,g1,g2⟩:=r3_free A8;have yl:=A8.lt;refine uZ 14 ?_;simp only[pZ,zZ];refine sZ 15 fun K hK=>?_;go_simp
       skip
       refine hK.out _ _ ?_ (fun zH2=>?_)
       ·exact fun o=>(World.cell?_setCell_other _ _ _ _ (by intro q;injection q with q1 _ _;omega)).trans (zH o)
       clear hK K zH;have zH:=zH2;clear zH2;(try simp only[pZ,zZ]);refine dZ ?_;have A9:=r3_set2 A8 (.slice a13 (n2-1) cap13);have C9:=C8.far (p:=⟨pw,2,none⟩) k6 (.slice a13 (n2-1) cap13);have Z9:=Z8.far (p:=⟨pw,2,none⟩) k4 (.slice a13 (n2-1) cap13);have M9:=M8.far (p:=⟨pw,2,none⟩) (by show pw≠pm;omega) (.slice a13 (n2-1) cap13);have own9:=owns_gs own13 (gs_one (q:=pw) (gs_refl _ _) 2 (.slice a13 (n2-1) cap13)) (fun k e q=>by have:=(own13.lt k e).1;omega);have B9:Below w.heap.size w (v3.setCell ⟨pw,2,none⟩ (.slice a13 (n2-1) cap13)):=(B2.trans (hb3.mono B2.size)).setCell (p:=⟨pw,2,none⟩) k1 _;generalize v3.setCell ⟨pw,2,none⟩ (.slice a13 (n2-1) cap13)=W9 at A9 C9 Z9 M9 own9 B9 ⊢;go_wp2_with fail
       go_meet
       exact ⟨a13,cap13,A9,C9,Z9,M9,own9,B9⟩
    ·go_simp
     refine hK.out _ _ zH (fun zH2=>?_);clear hK K zH;have zH:=zH2;clear zH2;(try simp only[pZ,zZ]);refine tZ (i:=12) (v:=.slice sa (n2-(i+1)) (c4-(i+1))) rfl (.inl ⟨by rfl,?_⟩) zH ?_
     ·(intro w hSw;(try dsimp only at hSw);go_simp;((try rw [hsae.out]);(try rw [if_pos (show (0:Int)≤(i:Int)+1∧(i:Int)+1≤(n2:Int) from ⟨by omega,by omega⟩)])))
     (try simp only[pZ,zZ]);refine sZ 6 fun K hK=>?_
     ·refine step_appMs rfl _ _ rfl w2.heap.size _ _ 0 [] rfl own0 (some ⟨gM,0,none⟩) i _ (ys.take (i*5)) rfl htl h1t (src1 _ rM1) (by omega) (by omega) ?_
      intro a6 cap6 v2 own6 hc2;refine hK.out _ _ (fun o=>((hc2.cell (p:=⟨pa,o,none⟩) (by show pa<w2.heap.size;omega)).trans (zH o))) (fun zH2=>?_);clear hK K zH;have zH:=zH2;clear zH2;(try simp only[pZ,zZ]);rw [Nat.zero_add,List.nil_append] at own6
      (try simp only [Nat.zero_add])
      have hb2:Below w2.heap.size w2 v2:=hb1.trans (hc2.mono (Nat.le_refl _));have hs12:=hc2.size;have hz2:=hb2.size;have rM2:=rowM.below hb2;obtain ⟨d0_2,d1_2,d2_2⟩:=r3_cells (A2.below hb2);have dl2:=(A2.below hb2).lt;refine sZ 13 fun K hK=>?_
      ·refine step_appMs rfl _ _ rfl w2.heap.size _ _ i (ys.take (i*5)) rfl own6 sa (n2-(i+1)) _ (ys.drop ((i+1)*5)) rfl hdr h1d (src2 _ rM2 _ hsa) (by omega) (by omega) ?_
       intro a13 cap13 v3 own13 hc3;refine hK.out _ _ (fun o=>((hc3.cell (p:=⟨pa,o,none⟩) (by show pa<w2.heap.size;omega)).trans (zH o))) (fun zH2=>?_);clear hK K zH;have zH:=zH2;clear zH2;(try simp only[pZ,zZ]);have hb3:Below w2.heap.size w2 v3:=hb2.trans (hc3.mono (Nat.le_refl _));have hs13:=hc3.size;have hz3:=hb3.size;have rM3:=rowM.below hb3;obtain ⟨d0_3,d1_3,d2_3⟩:=r3_cells (A2.below hb3);have dl3:=(A2.below hb3).lt;have hlen9:i+(n2-(i+1))=n2-1:=by omega
       rw [hlen9] at own13
       (try rw [hlen9])
       have A8:=A2.below hb3;have C8:=C2.below hb3;have Z8:=Z2.below hb3;have M8:=M2.below hb3;obtain ⟨y0,y1,y2⟩:=r3_cells A8;obtain ⟨g0,g1,g2⟩:=r3_free A8;have yl:=A8.lt;refine uZ 14 ?_;simp only[pZ,zZ];refine sZ 15 fun K hK=>?_;go_simp
       skip
       refine hK.out _ _ ?_ (fun zH2=>?_)
       ·exact fun o=>(World.cell?_setCell_other _ _ _ _ (by intro q;injection q with q1 _ _;omega)).trans (zH o)
       clear hK K zH;have zH:=zH2;clear zH2;(try simp only[pZ,zZ]);refine dZ ?_;have A9:=r3_set2 A8 (.slice a13 (n2-1) cap13);have C9:=C8.far (p:=⟨pw,2,none⟩) k6 (.slice a13 (n2-1) cap13);have Z9:=Z8.far (p:=⟨pw,2,none⟩) k4 (.slice a13 (n2-1) cap13);have M9:=M8.far (p:=⟨pw,2,none⟩) (by show pw≠pm;omega) (.slice a13 (n2-1) cap13);have own9:=owns_gs own13 (gs_one (q:=pw) (gs_refl _ _) 2 (.slice a13 (n2-1) cap13)) (fun k e q=>by have:=(own13.lt k e).1;omega);have B9:Below w.heap.size w (v3.setCell ⟨pw,2,none⟩ (.slice a13 (n2-1) cap13)):=(B2.trans (hb3.mono B2.size)).setCell (p:=⟨pw,2,none⟩) k1 _;generalize v3.setCell ⟨pw,2,none⟩ (.slice a13 (n2-1) cap13)=W9 at A9 C9 Z9 M9 own9 B9 ⊢;go_wp2_with fail
       go_meet
       exact ⟨a13,cap13,A9,C9,Z9,M9,own9,B9⟩
   ·go_simp
    refine hK.out _ _ zH (fun zH2=>?_);clear hK K zH;have zH:=zH2;clear zH2;(try simp only[pZ,zZ]);refine tZ (i:=12) (v:=.slice sa (n2-(i+1)) (c4-(i+1))) rfl (.inl ⟨by rfl,?_⟩) zH ?_
    ·(intro w hSw;(try dsimp only at hSw);go_simp;((try rw [hsae.out]);(try rw [if_pos (show (0:Int)≤(i:Int)+1∧(i:Int)+1≤(n2:Int) from ⟨by omega,by omega⟩)])))
    (try simp only[pZ,zZ]);refine sZ 0 fun K hK=>?_
    ·go_simp
     refine hK.out _ _ (fun o=>((((Below.refl v0.heap.size v0).alloc (Nat.le_refl _) _).cell (p:=⟨pa,o,none⟩) (by show pa<v0.heap.size;omega)).trans (zH o))) (fun zH2=>?_);clear hK K zH;have zH:=zH2;clear zH2;(try simp only[pZ,zZ]);have hc1:Below v0.heap.size v0 (v0.alloc (.cells #[] 62)):=(Below.refl _ _).alloc (Nat.le_refl _) _;have own0:=ownsM0 v0 62 (H:=w2.heap.size) (by omega);obtain ⟨v1,hw⟩:∃ W,v0.alloc (.cells #[] 62)=W:=⟨_,rfl⟩
     rw [hw] at hc1 own0 zH ⊢;clear hw;have hb1:Below w2.heap.size w2 v1:=hb0.trans (hc1.mono hb0.size);have hs11:=hc1.size;have hz1:=hb1.size;have rM1:=rowM.below hb1;obtain ⟨d0_1,d1_1,d2_1⟩:=r3_cells (A2.below hb1);have dl1:=(A2.below hb1).lt;refine sZ 6 fun K hK=>?_
     ·refine step_appMs rfl _ _ rfl w2.heap.size _ _ 0 [] rfl own0 (some ⟨gM,0,none⟩) i _ (ys.take (i*5)) rfl htl h1t (src1 _ rM1) (by omega) (by omega) ?_
      intro a6 cap6 v2 own6 hc2;refine hK.out _ _ (fun o=>((hc2.cell (p:=⟨pa,o,none⟩) (by show pa<w2.heap.size;omega)).trans (zH o))) (fun zH2=>?_);clear hK K zH;have zH:=zH2;clear zH2;(try simp only[pZ,zZ]);rw [Nat.zero_add,List.nil_append] at own6
      (try simp only [Nat.zero_add])
      have hb2:Below w2.heap.size w2 v2:=hb1.trans (hc2.mono (Nat.le_refl _));have hs12:=hc2.size;have hz2:=hb2.size;have rM2:=rowM.below hb2;obtain ⟨d0_2,d1_2,d2_2⟩:=r3_cells (A2.below hb2);have dl2:=(A2.below hb2).lt;refine sZ 13 fun K hK=>?_
      ·refine step_appMs rfl _ _ rfl w2.heap.size _ _ i (ys.take (i*5)) rfl own6 sa (n2-(i+1)) _ (ys.drop ((i+1)*5)) rfl hdr h1d (src2 _ rM2 _ hsa) (by omega) (by omega) ?_
       intro a13 cap13 v3 own13 hc3;refine hK.out _ _ (fun o=>((hc3.cell (p:=⟨pa,o,none⟩) (by show pa<w2.heap.size;omega)).trans (zH o))) (fun zH2=>?_);clear hK K zH;have zH:=zH2;clear zH2;(try simp only[pZ,zZ]);have hb3:Below w2.heap.size w2 v3:=hb2.trans (hc3.mono (Nat.le_refl _));have hs13:=hc3.size;have hz3:=hb3.size;have rM3:=rowM.below hb3;obtain ⟨d0_3,d1_3,d2_3⟩:=r3_cells (A2.below hb3);have dl3:=(A2.below hb3).lt;have hlen9:i+(n2-(i+1))=n2-1:=by omega
       rw [hlen9] at own13
       (try rw [hlen9])
       have A8:=A2.below hb3;have C8:=C2.below hb3;have Z8:=Z2.below hb3;have M8:=M2.below hb3;obtain ⟨y0,y1,y2⟩:=r3_cells A8;obtain ⟨g0,g1,g2⟩:=r3_free A8;have yl:=A8.lt;refine uZ 14 ?_;simp only[pZ,zZ];refine sZ 15 fun K hK=>?_;go_simp
       skip
       refine hK.out _ _ ?_ (fun zH2=>?_)
       ·exact fun o=>(World.cell?_setCell_other _ _ _ _ (by intro q;injection q with q1 _ _;omega)).trans (zH o)
       clear hK K zH;have zH:=zH2;clear zH2;(try simp only[pZ,zZ]);refine dZ ?_;have A9:=r3_set2 A8 (.slice a13 (n2-1) cap13);have C9:=C8.far (p:=⟨pw,2,none⟩) k6 (.slice a13 (n2-1) cap13);have Z9:=Z8.far (p:=⟨pw,2,none⟩) k4 (.slice a13 (n2-1) cap13);have M9:=M8.far (p:=⟨pw,2,none⟩) (by show pw≠pm;omega) (.slice a13 (n2-1) cap13);have own9:=owns_gs own13 (gs_one (q:=pw) (gs_refl _ _) 2 (.slice a13 (n2-1) cap13)) (fun k e q=>by have:=(own13.lt k e).1;omega);have B9:Below w.heap.size w (v3.setCell ⟨pw,2,none⟩ (.slice a13 (n2-1) cap13)):=(B2.trans (hb3.mono B2.size)).setCell (p:=⟨pw,2,none⟩) k1 _;generalize v3.setCell ⟨pw,2,none⟩ (.slice a13 (n2-1) cap13)=W9 at A9 C9 Z9 M9 own9 B9 ⊢;go_wp2_with fail
       go_meet
       exact ⟨a13,cap13,A9,C9,Z9,M9,own9,B9⟩
  ·go_simp
   refine hK.out _ _ zH (fun zH2=>?_);clear hK K zH;have zH:=zH2;clear zH2;(try simp only[pZ,zZ]);refine tZ (i:=12) (v:=.slice sa (n2-(i+1)) (c4-(i+1))) rfl (.inl ⟨by rfl,?_⟩) zH ?_
   ·(intro w hSw;(try dsimp only at hSw);go_simp;((try rw [hsae.out]);(try rw [if_pos (show (0:Int)≤(i:Int)+1∧(i:Int)+1≤(n2:Int) from ⟨by omega,by omega⟩)])))
   (try simp only[pZ,zZ]);refine rZ [0,2] (.cons rfl (fun K hK=>?_) (.cons rfl (fun K hK=>?_) .nil))
   ·go_simp
    refine hK.out _ _ (fun o=>((((Below.refl v0.heap.size v0).alloc (Nat.le_refl _) _).cell (p:=⟨pa,o,none⟩) (by show pa<v0.heap.size;omega)).trans (zH o))) (fun zH2=>?_);clear hK K zH;have zH:=zH2;clear zH2;(try simp only[pZ,zZ]);have hc1:Below v0.heap.size v0 (v0.alloc (.cells #[] 62)):=(Below.refl _ _).alloc (Nat.le_refl _) _;have own0:=ownsM0 v0 62 (H:=w2.heap.size) (by omega);obtain ⟨v1,hw⟩:∃ W,v0.alloc (.cells #[] 62)=W:=⟨_,rfl⟩
    rw [hw] at hc1 own0 zH ⊢;clear hw;have hb1:Below w2.heap.size w2 v1:=hb0.trans (hc1.mono hb0.size);have hs11:=hc1.size;have hz1:=hb1.size;have rM1:=rowM.below hb1;obtain ⟨d0_1,d1_1,d2_1⟩:=r3_cells (A2.below hb1);have dl1:=(A2.below hb1).lt;refine sZ 2 fun K hK=>?_
    ·go_simp
     refine hK.out _ _ zH (fun zH2=>?_);clear hK K zH;have zH:=zH2;clear zH2;(try simp only[pZ,zZ]);refine tZ (i:=5) (v:=.slice (some ⟨gM,0,none⟩) i c4) rfl (.inl ⟨by rfl,?_⟩) zH ?_
     ·(intro w hSw;(try dsimp only at hSw);go_simp;skip)
     (try simp only[pZ,zZ]);refine sZ 6 fun K hK=>?_
     ·refine step_appMs rfl _ _ rfl w2.heap.size _ _ 0 [] rfl own0 (some ⟨gM,0,none⟩) i _ (ys.take (i*5)) rfl htl h1t (src1 _ rM1) (by omega) (by omega) ?_
      intro a6 cap6 v2 own6 hc2;refine hK.out _ _ (fun o=>((hc2.cell (p:=⟨pa,o,none⟩) (by show pa<w2.heap.size;omega)).trans (zH o))) (fun zH2=>?_);clear hK K zH;have zH:=zH2;clear zH2;(try simp only[pZ,zZ]);rw [Nat.zero_add,List.nil_append] at own6
      (try simp only [Nat.zero_add])
      have hb2:Below w2.heap.size w2 v2:=hb1.trans (hc2.mono (Nat.le_refl _));have hs12:=hc2.size;have hz2:=hb2.size;have rM2:=rowM.below hb2;obtain ⟨d0_2,d1_2,d2_2⟩:=r3_cells (A2.below hb2);have dl2:=(A2.below hb2).lt;refine sZ 13 fun K hK=>?_
      ·refine step_appMs rfl _ _ rfl w2.heap.size _ _ i (ys.take (i*5)) rfl own6 sa (n2-(i+1)) _ (ys.drop ((i+1)*5)) rfl hdr h1d (src2 _ rM2 _ hsa) (by omega) (by omega) ?_
       intro a13 cap13 v3 own13 hc3;refine hK.out _ _ (fun o=>((hc3.cell (p:=⟨pa,o,none⟩) (by show pa<w2.heap.size;omega)).trans (zH o))) (fun zH2=>?_);clear hK K zH;have zH:=zH2;clear zH2;(try simp only[pZ,zZ]);have hb3:Below w2.heap.size w2 v3:=hb2.trans (hc3.mono (Nat.le_refl _));have hs13:=hc3.size;have hz3:=hb3.size;have rM3:=rowM.below hb3;obtain ⟨d0_3,d1_3,d2_3⟩:=r3_cells (A2.below hb3);have dl3:=(A2.below hb3).lt;have hlen9:i+(n2-(i+1))=n2-1:=by omega
       rw [hlen9] at own13
       (try rw [hlen9])
       have A8:=A2.below hb3;have C8:=C2.below hb3;have Z8:=Z2.below hb3;have M8:=M2.below hb3;obtain ⟨y0,y1,y2⟩:=r3_cells A8;obtain ⟨g0,g1,g2⟩:=r3_free A8;have yl:=A8.lt;refine uZ 14 ?_;simp only[pZ,zZ];refine sZ 15 fun K hK=>?_;go_simp
       skip
       refine hK.out _ _ ?_ (fun zH2=>?_)
       ·exact fun o=>(World.cell?_setCell_other _ _ _ _ (by intro q;injection q with q1 _ _;omega)).trans (zH o)
       clear hK K zH;have zH:=zH2;clear zH2;(try simp only[pZ,zZ]);refine dZ ?_;have A9:=r3_set2 A8 (.slice a13 (n2-1) cap13);have C9:=C8.far (p:=⟨pw,2,none⟩) k6 (.slice a13 (n2-1) cap13);have Z9:=Z8.far (p:=⟨pw,2,none⟩) k4 (.slice a13 (n2-1) cap13);have M9:=M8.far (p:=⟨pw,2,none⟩) (by show pw≠pm;omega) (.slice a13 (n2-1) cap13);have own9:=owns_gs own13 (gs_one (q:=pw) (gs_refl _ _) 2 (.slice a13 (n2-1) cap13)) (fun k e q=>by have:=(own13.lt k e).1;omega);have B9:Below w.heap.size w (v3.setCell ⟨pw,2,none⟩ (.slice a13 (n2-1) cap13)):=(B2.trans (hb3.mono B2.size)).setCell (p:=⟨pw,2,none⟩) k1 _;generalize v3.setCell ⟨pw,2,none⟩ (.slice a13 (n2-1) cap13)=W9 at A9 C9 Z9 M9 own9 B9 ⊢;go_wp2_with fail
       go_meet
       exact ⟨a13,cap13,A9,C9,Z9,M9,own9,B9⟩
   ·go_simp
    refine hK.out _ _ zH (fun zH2=>?_);clear hK K zH;have zH:=zH2;clear zH2;(try simp only[pZ,zZ]);refine tZ (i:=5) (v:=.slice (some ⟨gM,0,none⟩) i c4) rfl (.inl ⟨by rfl,?_⟩) zH ?_
    ·(intro w hSw;(try dsimp only at hSw);go_simp;skip)
    (try simp only[pZ,zZ]);refine sZ 0 fun K hK=>?_
    ·go_simp
     refine hK.out _ _ (fun o=>((((Below.refl v0.heap.size v0).alloc (Nat.le_refl _) _).cell (p:=⟨pa,o,none⟩) (by show pa<v0.heap.size;omega)).trans (zH o))) (fun zH2=>?_);clear hK K zH;have zH:=zH2;clear zH2;(try simp only[pZ,zZ]);have hc1:Below v0.heap.size v0 (v0.alloc (.cells #[] 62)):=(Below.refl _ _).alloc (Nat.le_refl _) _;have own0:=ownsM0 v0 62 (H:=w2.heap.size) (by omega);obtain ⟨v1,hw⟩:∃ W,v0.alloc (.cells #[] 62)=W:=⟨_,rfl⟩
     rw [hw] at hc1 own0 zH ⊢;clear hw;have hb1:Below w2.heap.size w2 v1:=hb0.trans (hc1.mono hb0.size);have hs11:=hc1.size;have hz1:=hb1.size;have rM1:=rowM.below hb1;obtain ⟨d0_1,d1_1,d2_1⟩:=r3_cells (A2.below hb1);have dl1:=(A2.below hb1).lt;refine sZ 6 fun K hK=>?_
     ·refine step_appMs rfl _ _ rfl w2.heap.size _ _ 0 [] rfl own0 (some ⟨gM,0,none⟩) i _ (ys.take (i*5)) rfl htl h1t (src1 _ rM1) (by omega) (by omega) ?_
      intro a6 cap6 v2 own6 hc2;refine hK.out _ _ (fun o=>((hc2.cell (p:=⟨pa,o,none⟩) (by show pa<w2.heap.size;omega)).trans (zH o))) (fun zH2=>?_);clear hK K zH;have zH:=zH2;clear zH2;(try simp only[pZ,zZ]);rw [Nat.zero_add,List.nil_append] at own6
      (try simp only [Nat.zero_add])
      have hb2:Below w2.heap.size w2 v2:=hb1.trans (hc2.mono (Nat.le_refl _));have hs12:=hc2.size;have hz2:=hb2.size;have rM2:=rowM.below hb2;obtain ⟨d0_2,d1_2,d2_2⟩:=r3_cells (A2.below hb2);have dl2:=(A2.below hb2).lt;refine sZ 13 fun K hK=>?_
      ·refine step_appMs rfl _ _ rfl w2.heap.size _ _ i (ys.take (i*5)) rfl own6 sa (n2-(i+1)) _ (ys.drop ((i+1)*5)) rfl hdr h1d (src2 _ rM2 _ hsa) (by omega) (by omega) ?_
       intro a13 cap13 v3 own13 hc3;refine hK.out _ _ (fun o=>((hc3.cell (p:=⟨pa,o,none⟩) (by show pa<w2.heap.size;omega)).trans (zH o))) (fun zH2=>?_);clear hK K zH;have zH:=zH2;clear zH2;(try simp only[pZ,zZ]);have hb3:Below w2.heap.size w2 v3:=hb2.trans (hc3.mono (Nat.le_refl _));have hs13:=hc3.size;have hz3:=hb3.size;have rM3:=rowM.below hb3;obtain ⟨d0_3,d1_3,d2_3⟩:=r3_cells (A2.below hb3);have dl3:=(A2.below hb3).lt;have hlen9:i+(n2-(i+1))=n2-1:=by omega
       rw [hlen9] at own13
       (try rw [hlen9])
       have A8:=A2.below hb3;have C8:=C2.below hb3;have Z8:=Z2.below hb3;have M8:=M2.below hb3;obtain ⟨y0,y1,y2⟩:=r3_cells A8;obtain ⟨g0,g1,g2⟩:=r3_free A8;have yl:=A8.lt;refine uZ 14 ?_;simp only[pZ,zZ];refine sZ 15 fun K hK=>?_;go_simp
       skip
       refine hK.out _ _ ?_ (fun zH2=>?_)
       ·exact fun o=>(World.cell?_setCell_other _ _ _ _ (by intro q;injection q with q1 _ _;omega)).trans (zH o)
       clear hK K zH;have zH:=zH2;clear zH2;(try simp only[pZ,zZ]);refine dZ ?_;have A9:=r3_set2 A8 (.slice a13 (n2-1) cap13);have C9:=C8.far (p:=⟨pw,2,none⟩) k6 (.slice a13 (n2-1) cap13);have Z9:=Z8.far (p:=⟨pw,2,none⟩) k4 (.slice a13 (n2-1) cap13);have M9:=M8.far (p:=⟨pw,2,none⟩) (by show pw≠pm;omega) (.slice a13 (n2-1) cap13);have own9:=owns_gs own13 (gs_one (q:=pw) (gs_refl _ _) 2 (.slice a13 (n2-1) cap13)) (fun k e q=>by have:=(own13.lt k e).1;omega);have B9:Below w.heap.size w (v3.setCell ⟨pw,2,none⟩ (.slice a13 (n2-1) cap13)):=(B2.trans (hb3.mono B2.size)).setCell (p:=⟨pw,2,none⟩) k1 _;generalize v3.setCell ⟨pw,2,none⟩ (.slice a13 (n2-1) cap13)=W9 at A9 C9 Z9 M9 own9 B9 ⊢;go_wp2_with fail
       go_meet
       exact ⟨a13,cap13,A9,C9,Z9,M9,own9,B9⟩
 case rest =>
  obtain ⟨mv,mc,A9,C9,Z9,M9,own9,B9⟩:=hcut;clear d0 d1 d2 e0 e1 e2 e3 e4 e5 e6 e7 e8 e9 e10 s0 s1 s2 s3 s4 dl el sl;obtain ⟨d0,d1,d2⟩:=r3_cells A9;obtain ⟨e0,e1,e2,e3,e4,e5,e6,e7,e8,e9,e10⟩:=r11_cells C9;obtain ⟨s0,s1,s2,s3,s4⟩:=r5_cells M9;have dl:=A9.lt;have el:=C9.lt;have sl:=M9.lt;have own9':wc.ownsRow w.heap.size 62 5 (.slice mv (n2-1) mc) (ms.length-1) (ys.take (i*5) ++ ys.drop ((i+1)*5)):=by
   rw [hl2.out];exact ⟨own9.1,own9.2.imp id fun ⟨g,cap,cur,hv,hg,r⟩=>⟨g,cap,cur,hv,by omega,r⟩⟩
  have hlt9:∀ k,(Value.slice mv (n2-1) mc).ownBlock=some k→w2.heap.size≤k:=fun k e=>(own9.lt k e).1;have HT9:=HT.erase (T':=fun k=>T k∨k=pz) hTl hlo B9 (i:=i) (by rw [hl2.out];exact hin) own9' (fun k q=>q.imp (fun q=>q) (fun q=>⟨by omega,fun z=>by have:=hlt9 k z;omega⟩));have hbd9:Hid (M1.Bd rs (ms.eraseIdx i)):=bd_erase hbd.out (by rw [hl2.out];exact hin);have hvo:Hid (M1.vecOk m.vec=true):=hmi.2.2.1;go_wp2_with fail
  have js:=l6Deliver_any now a n c3 mv (n2-1) mc xs _ rs _ lo m v5 n5 c5 v6 n6 c6 wc HT9 (fun k q=>by rcases q with q | q <;> first | (have:=hTl _ q;have:=B9.size;omega) | (have:=Z9.lt;omega)) (by have:=B9.size;omega) (hv.below B9) (hu.below B9) hvo hmi.1 hmi.2.1 hok hbd9 (by omega);refine js.mono ?_;clear js;rintro e wq ⟨v',n',c',v2',n2',c2',rs',ms',code,rfl,hRM,hbd',hGq⟩;have hGq':Gs (OB (.slice a n c3) (.slice (some ⟨gM,0,none⟩) n2 c4)) w wq:=⟨hGq.os.trans B9.os,hGq.tape.trans B9.tape,hGq.output.trans B9.output,Nat.le_trans B9.size hGq.size,fun k hk hn=>(hGq.block k (Nat.lt_of_lt_of_le hk B9.size) (fun z=>by
   rcases z with z | z
   ·exact hn (Or.inl z)
   ·have:=hlt9 k z;omega)).trans (B9.block k hk)⟩
  have Zq:=Z9.gs hGq (fun z=>by
   rcases z with z | z
   ·have:=(HW.r.own.lt _ z).2;omega
   ·have:=hlt9 _ z;omega)
  obtain ⟨z0,z1,z2⟩:=r3_cells Zq;obtain ⟨f0,f1,f2⟩:=r3_free Zq;have zl:=RowAt.lt Zq;have Zz:=r3_set2 (r3_set1 (r3_set0 Zq (.int .i64 now)) (.slice v' n' c')) (.slice v2' n2' c2');have hGz:Gs (fun k=>k=pz) wq (((wq.setCell ⟨pz,0,none⟩ (.int .i64 now)).setCell ⟨pz,1,none⟩ (.slice v' n' c')).setCell ⟨pz,2,none⟩ (.slice v2' n2' c2')):=gs_one (gs_one (gs_one (gs_refl _ _) _ _) _ _) _ _;go_wp2_with fail
  obtain ⟨Wz,hWz⟩:∃ W,((wq.setCell ⟨pz,0,none⟩ (.int .i64 now)).setCell ⟨pz,1,none⟩ (.slice v' n' c')).setCell ⟨pz,2,none⟩ (.slice v2' n2' c2')=W:=⟨_,rfl⟩
  rw [hWz] at Zz hGz ⊢;clear hWz z0 z1 z2 f0 f1 f2;obtain ⟨z0,z1,z2⟩:=r3_cells Zz;refine bodyPost_ret (v:=.tuple #[.agg #[.int .i64 now,.slice v' n' c',.slice v2' n2' c2'],.int .i64 code]) (by simp [results,Tryz.results111,go_sem,z0,z1,z2]) rfl ?_;exact ⟨_,_,_,_,_,_,rs',ms',code,rfl,fun wz hz=>hRM wz (gs_trans (gs_mono hGz (fun k e=>Or.inr e)) (gs_mono hz (fun k e=>Or.inl e))),hbd',gs_more hGq' hGz k3⟩
end Go.Proofs.YtgcinolbkllkkaaGreat
