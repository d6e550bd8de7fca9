/-
  Texts of one proof, joined: Cv4k5.
-/
import Derived.Test.YtgcinolbkllkkaaGreatZFConverged27
set_option linter.unusedSimpArgs false
set_option linter.unusedVariables false
namespace Go.Proofs.YtgcinolbkllkkaaGreat
open Go.ChangeShapes Go.WideShapes Go.ChangeAt Go.RowKit
attribute [local go_sem high] eqOp0
set_option maxHeartbeats 64000000 in
set_option maxRecDepth 100000 in
theorem l6Act_5 (now:Int)(a:Option Addr)(n c3:Nat)(a2:Option Addr)(n2 c4:Nat)(xs ys:List Value)(rs:List M1.Rg)(ms:List M1.Ml)(lo:Nat)(kd wh tt ta:Int)(x:M1.OpV)(w:World){T:Nat→Prop}(HT:WT w lo (.slice a n c3) (.slice a2 n2 c4) xs ys rs ms T)(hTl:∀ k,T k→k<w.heap.size)(hlo:lo≤w.heap.size)(hxs:x.s.size≤maxLen)(hwk:Hid (M1.wOk now rs ms=true))(hk:Hid (kd=5)) :
  Calls Tryz.prog 111 #[.agg #[.int .i64 now,.slice a n c3,.slice a2 n2 c4],.agg #[.int .i64 kd,.int .i64 wh,.int .i64 tt,.int .i64 ta,.int .i64 x.k,.int .i64 x.t,.int .i64 x.id,.int .i64 x.pa,.string x.s,.int .i64 x.st,.int .i64 x.en]] w fun e w'=>WA w w' (OB (.slice a n c3) (.slice a2 n2 c4)) T e now:=by
 have HW:=HT.c;have hrg:=HW.rgs;have hmg:=HW.mls;have hm1:=hrg.hcap;have hm2:=hrg.hmost;have hm3:=hmg.hcap;have hm4:=hmg.hmost;unfold maxLen at hm2 hm4;have hl1:Hid (rs.length=n):=hrg.hlen;have hl2:Hid (ms.length=n2):=hmg.hlen;obtain ⟨_,hn2',hn5',hn40',hok0,hml0,_,hbd0⟩:=M1.wOk_has hwk.out;have hok:Hid (∀ i,i<n→M1.rOk (M1.rgA rs i)=true):=fun i hi=>hok0 i (by rw [hl1.out];exact hi);have hml:Hid (∀ i,i<n2→1≤(M1.mlA ms i).tt∧(M1.mlA ms i).tt≤(n:Int)∧M1.vecOk (M1.mlA ms i).vec=true∧(M1.mlA ms i).del.length≤3):=fun i hi=>by
  have:=hml0 i (by rw [hl2.out];exact hi);rw [hl1.out] at this;exact this
 have hbd:Hid (M1.Bd rs ms):=hbd0;have hn2:2≤n:=by have:=hl1.out;omega
 have hn5:n≤5:=by have:=hl1.out;omega
 have hn40:n2≤40:=by have:=hl2.out;omega
 clear hn2' hn5' hn40' hok0 hml0 hbd0;have hA:Below w.heap.size w (((w.alloc (.cells #[.int .i64 now,.slice a n c3,.slice a2 n2 c4] 27)).alloc (.cells #[.int .i64 kd,.int .i64 wh,.int .i64 tt,.int .i64 ta,.int .i64 x.k,.int .i64 x.t,.int .i64 x.id,.int .i64 x.pa,.string x.s,.int .i64 x.st,.int .i64 x.en] 112)).alloc (.cells #[.int .i64 0,.slice none 0 0,.slice none 0 0] 27)):=(((Below.refl _ _).alloc (Nat.le_refl _) _).alloc (by simp) _).alloc (by simp <;> omega) _;have A0:R3 (((w.alloc (.cells #[.int .i64 now,.slice a n c3,.slice a2 n2 c4] 27)).alloc (.cells #[.int .i64 kd,.int .i64 wh,.int .i64 tt,.int .i64 ta,.int .i64 x.k,.int .i64 x.t,.int .i64 x.id,.int .i64 x.pa,.string x.s,.int .i64 x.st,.int .i64 x.en] 112)).alloc (.cells #[.int .i64 0,.slice none 0 0,.slice none 0 0] 27)) w.heap.size (.int .i64 now) (.slice a n c3) (.slice a2 n2 c4):=((r3_new w (.int .i64 now) (.slice a n c3) (.slice a2 n2 c4) 27).alloc _).alloc _;have C0:R11 (((w.alloc (.cells #[.int .i64 now,.slice a n c3,.slice a2 n2 c4] 27)).alloc (.cells #[.int .i64 kd,.int .i64 wh,.int .i64 tt,.int .i64 ta,.int .i64 x.k,.int .i64 x.t,.int .i64 x.id,.int .i64 x.pa,.string x.s,.int .i64 x.st,.int .i64 x.en] 112)).alloc (.cells #[.int .i64 0,.slice none 0 0,.slice none 0 0] 27)) (w.alloc (.cells #[.int .i64 now,.slice a n c3,.slice a2 n2 c4] 27)).heap.size kd wh tt ta x:=(r11_new (w.alloc (.cells #[.int .i64 now,.slice a n c3,.slice a2 n2 c4] 27)) kd wh tt ta x 112).alloc _;have Z0:R3 (((w.alloc (.cells #[.int .i64 now,.slice a n c3,.slice a2 n2 c4] 27)).alloc (.cells #[.int .i64 kd,.int .i64 wh,.int .i64 tt,.int .i64 ta,.int .i64 x.k,.int .i64 x.t,.int .i64 x.id,.int .i64 x.pa,.string x.s,.int .i64 x.st,.int .i64 x.en] 112)).alloc (.cells #[.int .i64 0,.slice none 0 0,.slice none 0 0] 27)) ((w.alloc (.cells #[.int .i64 now,.slice a n c3,.slice a2 n2 c4] 27)).alloc (.cells #[.int .i64 kd,.int .i64 wh,.int .i64 tt,.int .i64 ta,.int .i64 x.k,.int .i64 x.t,.int .i64 x.id,.int .i64 x.pa,.string x.s,.int .i64 x.st,.int .i64 x.en] 112)).heap.size (.int .i64 0) (.slice none 0 0) (.slice none 0 0):=r3_new ((w.alloc (.cells #[.int .i64 now,.slice a n c3,.slice a2 n2 c4] 27)).alloc (.cells #[.int .i64 kd,.int .i64 wh,.int .i64 tt,.int .i64 ta,.int .i64 x.k,.int .i64 x.t,.int .i64 x.id,.int .i64 x.pa,.string x.s,.int .i64 x.st,.int .i64 x.en] 112)) (.int .i64 0) (.slice none 0 0) (.slice none 0 0) 27;rw [show (w.alloc (.cells #[.int .i64 now,.slice a n c3,.slice a2 n2 c4] 27)).heap.size=w.heap.size+1 by simp] at C0;rw [show ((w.alloc (.cells #[.int .i64 now,.slice a n c3,.slice a2 n2 c4] 27)).alloc (.cells #[.int .i64 kd,.int .i64 wh,.int .i64 tt,.int .i64 ta,.int .i64 x.k,.int .i64 x.t,.int .i64 x.id,.int .i64 x.pa,.string x.s,.int .i64 x.st,.int .i64 x.en] 112)).heap.size=w.heap.size+1+1 by simp] at Z0;go_enter Tryz.func111,Tryz.ntmps111
 go_upto_region 1 with fail
 obtain ⟨w1,hw1⟩:∃ W,(((w.alloc (.cells #[.int .i64 now,.slice a n c3,.slice a2 n2 c4] 27)).alloc (.cells #[.int .i64 kd,.int .i64 wh,.int .i64 tt,.int .i64 ta,.int .i64 x.k,.int .i64 x.t,.int .i64 x.id,.int .i64 x.pa,.string x.s,.int .i64 x.st,.int .i64 x.en] 112)).alloc (.cells #[.int .i64 0,.slice none 0 0,.slice none 0 0] 27))=W:=⟨_,rfl⟩
 rw [hw1] at hA A0 C0 Z0 ⊢;clear hw1;obtain ⟨pz,hpz⟩:∃ z,Hid (w.heap.size+1+1=z):=⟨_,rfl⟩
 obtain ⟨pa,hpa⟩:∃ z,Hid (w.heap.size+1=z):=⟨_,rfl⟩
 obtain ⟨pw,hpw⟩:∃ z,Hid (w.heap.size=z):=⟨_,rfl⟩
 rw [hpz.out] at Z0 ⊢;rw [hpa.out] at C0 ⊢;rw [hpw.out] at A0 ⊢;have k1:w.heap.size≤pw:=by have:=hpw.out;omega
 have k2:w.heap.size≤pa:=by have:=hpa.out;omega
 have k3:w.heap.size≤pz:=by have:=hpz.out;omega
 have k4:¬pw=pz:=by have:=hpw.out;have:=hpz.out;omega
 have k5:¬pa=pz:=by have:=hpa.out;have:=hpz.out;omega
 have k6:¬pw=pa:=by have:=hpw.out;have:=hpa.out;omega
 have HW1:=HW.below hA;have hs1:=hA.size;have kz:pz<w1.heap.size:=Z0.lt;have kpw:pw<w1.heap.size:=A0.lt;have kpa:pa<w1.heap.size:=C0.lt;obtain ⟨d0,d1,d2⟩:=r3_cells A0;obtain ⟨e0,e1,e2,e3,e4,e5,e6,e7,e8,e9,e10⟩:=r11_cells C0;obtain ⟨z0,z1,z2⟩:=r3_cells Z0;obtain ⟨f0,f1,f2⟩:=r3_free Z0;have dl:=A0.lt;have el:=C0.lt;have zl:=Z0.lt;obtain ⟨qo,hqo⟩:∃ q,Hid (opq x ⟨0,0,0,0,⟨#[]⟩,0,0⟩=q):=⟨_,rfl⟩
 go_upto_region 3 with fail
 rw [hqo.out];have n1':(kd==1)=false:=by have:=hk.out;simp [this]
 have n2':(kd==2)=false:=by have:=hk.out;simp [this]
 have n3':(kd==3)=false:=by have:=hk.out;simp [this]
 have n4':(kd==4)=false:=by have:=hk.out;simp [this]
 have n5':(kd==5)=true:=by have:=hk.out;simp [this]
 cases qo with
 | false =>
  have Z9:=r3_set2 (r3_set1 (r3_set0 Z0 (.int .i64 now)) (.slice a n c3)) (.slice a2 n2 c4);have B9:=((hA.setCell (p:=⟨pz,0,none⟩) k3 (.int .i64 now)).setCell (p:=⟨pz,1,none⟩) k3 (.slice a n c3)).setCell (p:=⟨pz,2,none⟩) k3 (.slice a2 n2 c4);have HW9:=HW.below B9;go_wp2_with fail
  obtain ⟨Wz,hWz⟩:∃ W,((w1.setCell ⟨pz,0,none⟩ (.int .i64 now)).setCell ⟨pz,1,none⟩ (.slice a n c3)).setCell ⟨pz,2,none⟩ (.slice a2 n2 c4)=W:=⟨_,rfl⟩
  rw [hWz] at Z9 HW9 B9 ⊢;clear hWz z0 z1 z2 f0 f1 f2;obtain ⟨z0,z1,z2⟩:=r3_cells Z9;refine bodyPost_ret (v:=.tuple #[.agg #[.int .i64 now,.slice a n c3,.slice a2 n2 c4],.int .i64 2]) (by simp [results,Tryz.results111,go_sem,z0,z1,z2]) rfl ?_;exact ⟨_,_,_,_,_,_,rs,ms,2,rfl,fun wz hz=>HT.still (gs_trans (gs_below B9) hz),hbd.out,gs_below B9⟩
 | true =>
 by_cases hv0:wh=0
 case neg =>
  have bw:(wh != 0)=true:=by simp [hv0]
  clear hv0;have Z9:=r3_set2 (r3_set1 (r3_set0 Z0 (.int .i64 now)) (.slice a n c3)) (.slice a2 n2 c4);have B9:=((hA.setCell (p:=⟨pz,0,none⟩) k3 (.int .i64 now)).setCell (p:=⟨pz,1,none⟩) k3 (.slice a n c3)).setCell (p:=⟨pz,2,none⟩) k3 (.slice a2 n2 c4);have HW9:=HW.below B9;go_wp2_with fail
  obtain ⟨Wz,hWz⟩:∃ W,((w1.setCell ⟨pz,0,none⟩ (.int .i64 now)).setCell ⟨pz,1,none⟩ (.slice a n c3)).setCell ⟨pz,2,none⟩ (.slice a2 n2 c4)=W:=⟨_,rfl⟩
  rw [hWz] at Z9 HW9 B9 ⊢;clear hWz z0 z1 z2 f0 f1 f2;obtain ⟨z0,z1,z2⟩:=r3_cells Z9;refine bodyPost_ret (v:=.tuple #[.agg #[.int .i64 now,.slice a n c3,.slice a2 n2 c4],.int .i64 2]) (by simp [results,Tryz.results111,go_sem,z0,z1,z2]) rfl ?_;exact ⟨_,_,_,_,_,_,rs,ms,2,rfl,fun wz hz=>HT.still (gs_trans (gs_below B9) hz),hbd.out,gs_below B9⟩
 have bw:(wh != 0)=false:=by simp [hv0]
 clear hv0;by_cases hv0:tt=0
 case neg =>
  have bt:(tt != 0)=true:=by simp [hv0]
  clear hv0;have Z9:=r3_set2 (r3_set1 (r3_set0 Z0 (.int .i64 now)) (.slice a n c3)) (.slice a2 n2 c4);have B9:=((hA.setCell (p:=⟨pz,0,none⟩) k3 (.int .i64 now)).setCell (p:=⟨pz,1,none⟩) k3 (.slice a n c3)).setCell (p:=⟨pz,2,none⟩) k3 (.slice a2 n2 c4);have HW9:=HW.below B9;go_wp2_with fail
  obtain ⟨Wz,hWz⟩:∃ W,((w1.setCell ⟨pz,0,none⟩ (.int .i64 now)).setCell ⟨pz,1,none⟩ (.slice a n c3)).setCell ⟨pz,2,none⟩ (.slice a2 n2 c4)=W:=⟨_,rfl⟩
  rw [hWz] at Z9 HW9 B9 ⊢;clear hWz z0 z1 z2 f0 f1 f2;obtain ⟨z0,z1,z2⟩:=r3_cells Z9;refine bodyPost_ret (v:=.tuple #[.agg #[.int .i64 now,.slice a n c3,.slice a2 n2 c4],.int .i64 2]) (by simp [results,Tryz.results111,go_sem,z0,z1,z2]) rfl ?_;exact ⟨_,_,_,_,_,_,rs,ms,2,rfl,fun wz hz=>HT.still (gs_trans (gs_below B9) hz),hbd.out,gs_below B9⟩
 have bt:(tt != 0)=false:=by simp [hv0]
 clear hv0;obtain ⟨q3,hq3⟩:∃ q,Hid (M1.inB ta 0 ((n2:Int)-1)=q):=⟨_,rfl⟩
 go_wp2_with fail
 refine (l1In_any _ _ _ _).mono ?_;rw [hq3.out];rintro e wa ⟨rfl,hwa⟩;obtain rfl:=hwa.symm
 cases q3 with
 | false =>
  have Z9:=r3_set2 (r3_set1 (r3_set0 Z0 (.int .i64 now)) (.slice a n c3)) (.slice a2 n2 c4);have B9:=((hA.setCell (p:=⟨pz,0,none⟩) k3 (.int .i64 now)).setCell (p:=⟨pz,1,none⟩) k3 (.slice a n c3)).setCell (p:=⟨pz,2,none⟩) k3 (.slice a2 n2 c4);have HW9:=HW.below B9;go_wp2_with fail
  obtain ⟨Wz,hWz⟩:∃ W,((w1.setCell ⟨pz,0,none⟩ (.int .i64 now)).setCell ⟨pz,1,none⟩ (.slice a n c3)).setCell ⟨pz,2,none⟩ (.slice a2 n2 c4)=W:=⟨_,rfl⟩
  rw [hWz] at Z9 HW9 B9 ⊢;clear hWz z0 z1 z2 f0 f1 f2;obtain ⟨z0,z1,z2⟩:=r3_cells Z9;refine bodyPost_ret (v:=.tuple #[.agg #[.int .i64 now,.slice a n c3,.slice a2 n2 c4],.int .i64 3]) (by simp [results,Tryz.results111,go_sem,z0,z1,z2]) rfl ?_;exact ⟨_,_,_,_,_,_,rs,ms,3,rfl,fun wz hz=>HT.still (gs_trans (gs_below B9) hz),hbd.out,gs_below B9⟩
 | true =>
 have hta:=M1.inB_true hq3.out;have j0:(0:Int)≤ta:=by omega
 have j1:ta<(n2:Int):=by omega
 obtain ⟨i,hi⟩:∃ i,Hid (ta.toNat=i):=⟨_,rfl⟩
 have hin:i<n2:=by have:=hi.out;omega
 have hti:Hid (ta=(i:Int)):=(by have:=hi.out;omega:_=_)
 obtain ⟨gM,hgMe,hrowM⟩:∃ gM,a2=some ⟨gM,0,none⟩∧RowAt w1 gM (n2*5) (fx ys):=by
  obtain ⟨av',c',q1,_,_,_,q4⟩:=owns_slice HW1.own;injection q1 with q1 q2 _;rcases q4 with ⟨q4,q5⟩ | ⟨g',q4,_,_,q5⟩
  ·omega
  ·rw [q2]
   exact ⟨g',q1.trans q4,q5⟩
 subst hgMe;have hgM:∀ k,(Value.slice (some ⟨gM,0,none⟩) n2 c4).ownBlock=some k→k<w.heap.size∧True:=fun k e=>⟨(HW.own.lt k e).2,trivial⟩;have hgMl:gM<w.heap.size:=(HW.own.lt gM rfl).2;have hgM1:=hrowM.lt;obtain ⟨v5,n5,c5,v6,n6,c6,h0,h1',h2',h3,h4,hv,hu,ha,hb⟩:=HT.m i (by rw [hl2.out];exact hin);have hmi:=hml.out i hin;obtain ⟨m,hm'⟩:∃ m,Hid (M1.mlA ms i=m):=⟨_,rfl⟩
 rw [hm'.out] at h0 h1' h2' hv hu hmi;have t0:=(hrowM.cell (o:=i*5) (by omega)).trans (congrArg some h0);have t1:=(hrowM.cell (o:=i*5+1) (by omega)).trans (congrArg some h1');have t2:=(hrowM.cell (o:=i*5+2) (by omega)).trans (congrArg some h2');have t3:=(hrowM.cell (o:=i*5+3) (by omega)).trans (congrArg some h3);have t4:=(hrowM.cell (o:=i*5+4) (by omega)).trans (congrArg some h4);clear h0 h1' h2' h3 h4;have hA2:Below w1.heap.size w1 (w1.alloc (.cells #[.int .i64 m.fr,.int .i64 m.tt,.bool m.ask,.slice v5 n5 c5,.slice v6 n6 c6] 62)):=(Below.refl _ _).alloc (Nat.le_refl _) _;have M2:=r5_new w1 (.int .i64 m.fr) (.int .i64 m.tt) (.bool m.ask) (.slice v5 n5 c5) (.slice v6 n6 c6) 62;rw [←hi.out] at t0 t1 t2 t3 t4;go_upto_region 25 with fail
 obtain ⟨w2,hw2⟩:∃ W,w1.alloc (.cells #[.int .i64 m.fr,.int .i64 m.tt,.bool m.ask,.slice v5 n5 c5,.slice v6 n6 c6] 62)=W:=⟨_,rfl⟩
 rw [hw2] at hA2 M2 ⊢;clear hw2;obtain ⟨pm,hpm⟩:∃ z,Hid (w1.heap.size=z):=⟨_,rfl⟩
 rw [hpm.out] at M2 ⊢;have B2:=hA.trans (hA2.mono hA.size);have A2:=A0.below hA2;have C2:=C0.below hA2;have Z2:=Z0.below hA2;have rowM:=hrowM.below hA2;have hs2:=hA2.size;have kpm:w1.heap.size≤pm∧pm<w2.heap.size:=⟨by have:=hpm.out;omega,M2.lt⟩
 clear t0 t1 t2 t3 t4 hrowM;clear d0 d1 d2 e0 e1 e2 e3 e4 e5 e6 e7 e8 e9 e10 z0 z1 z2 f0 f1 f2 dl el zl;obtain ⟨d0,d1,d2⟩:=r3_cells A2;obtain ⟨e0,e1,e2,e3,e4,e5,e6,e7,e8,e9,e10⟩:=r11_cells C2;obtain ⟨s0,s1,s2,s3,s4⟩:=r5_cells M2;have dl:=A2.lt;have el:=C2.lt;have sl:=M2.lt;have hA5:Below w2.heap.size w2 (w2.alloc (.cells #[.int .i64 m.fr,.int .i64 m.tt,.bool m.ask,.slice v5 n5 c5,.slice v6 n6 c6] 62)):=(Below.refl _ _).alloc (Nat.le_refl _) _;have E5:=r5_new w2 (.int .i64 m.fr) (.int .i64 m.tt) (.bool m.ask) (.slice v5 n5 c5) (.slice v6 n6 c6) 62;have B5:=B2.trans (hA5.mono B2.size);have hs5:=hA5.size;have own5:(w2.alloc (.cells #[.int .i64 m.fr,.int .i64 m.tt,.bool m.ask,.slice v5 n5 c5,.slice v6 n6 c6] 62)).ownsRow lo 62 5 (.slice (some ⟨gM,0,none⟩) n2 c4) n2 ys:=by have:=(HW.below B5).own;rwa [hl2.out] at this
 go_upto_region 27 with (at_builtin;refine wpList_appM (by rfl) _ _ rfl lo (some ⟨gM,0,none⟩) c4 n2 ys rfl own5 w2.heap.size 1 _ _ _ _ _ (one5M m v5 n5 c5 v6 n6 c6) rfl E5 (by omega) (by simp;omega) ?_;intro g8 cap8 w8 own8 hgrow8 hat8;have A8:=row_blockA (A2.below hA5) (hgrow8.block pw (by simp;omega) (fun e=>by have:=(hgM pw e.symm).1;omega)) hgrow8.size;obtain ⟨y0,y1,y2⟩:=r3_cells A8;obtain ⟨g0,g1,g2⟩:=r3_free A8;have yl:=A8.lt)
 have Z8:=row_blockA (Z2.below hA5) (hgrow8.block pz (by simp;omega) (fun e=>by have:=(hgM pz e.symm).1;omega)) hgrow8.size;have hs8:=hgrow8.size;have hmB:m.vec.length≤1000∧m.del.length≤1000:=⟨by have:=M1.vec_len hmi.2.2.1;omega,by omega⟩
 have hv5:=(hv.below B5)
 have hu5:=(hu.below B5)
 obtain ⟨w5,hw5⟩:∃ W,w2.alloc (.cells #[.int .i64 m.fr,.int .i64 m.tt,.bool m.ask,.slice v5 n5 c5,.slice v6 n6 c6] 62)=W:=⟨_,rfl⟩
 rw [hw5] at hv5 hu5 B5 hgrow8 hat8 hs8 hs5;clear hw5 y0 y1 y2 g0 g1 g2 d0 d1 d2 e0 e1 e2 e3 e4 e5 e6 e7 e8 e9 e10 s0 s1 s2 s3 s4 dl el sl E5 own5 hA5;have A9:=r3_set2 A8 (.slice (some ⟨g8,0,none⟩) (n2+1) cap8);have Z9:=Z8.far (p:=⟨pw,2,none⟩) k4 (.slice (some ⟨g8,0,none⟩) (n2+1) cap8);have hg8:¬g8=pw∧¬g8=pz:=by
  refine ⟨fun e=>?_,fun e=>?_⟩
  ·rcases hat8 with q | q
   ·have:=(hgM _ q).1;omega
   ·omega
  ·rcases hat8 with q | q
   ·have:=(hgM _ q).1;omega
   ·omega
 have own9:=owns_gs own8 (gs_one (q:=pw) (gs_refl _ _) 2 (.slice (some ⟨g8,0,none⟩) (n2+1) cap8)) (fun k e q=>hg8.1 ((ownB e).trans q));have hG9:Gs (fun k=>k=pw∨(Value.slice (some ⟨gM,0,none⟩) n2 c4).ownBlock=some k) w5 (w8.setCell ⟨pw,2,none⟩ (.slice (some ⟨g8,0,none⟩) (n2+1) cap8)):=gs_set (S:=fun k=>k=pw∨(Value.slice (some ⟨gM,0,none⟩) n2 c4).ownBlock=some k) (gs_grown (gs_refl _ _) hgrow8 (fun k e=>Or.inl (Or.inr e))) ⟨pw,2,none⟩ (Or.inl (show pw=pw∨(Value.slice (some ⟨gM,0,none⟩) n2 c4).ownBlock=some pw from Or.inl rfl)) _;have hGw:Gs (fun k=>(Value.slice (some ⟨gM,0,none⟩) n2 c4).ownBlock=some k) w (w8.setCell ⟨pw,2,none⟩ (.slice (some ⟨g8,0,none⟩) (n2+1) cap8)):=gs_set (gs_grown (gs_below B5) hgrow8 (fun k e=>Or.inl e)) ⟨pw,2,none⟩ (Or.inr k1) _;have hs9:=hG9.size;obtain ⟨w9,hw9⟩:∃ W,w8.setCell ⟨pw,2,none⟩ (.slice (some ⟨g8,0,none⟩) (n2+1) cap8)=W:=⟨_,rfl⟩
 rw [hw9] at A9 Z9 own9 hG9 hGw hs9 ⊢;clear hw9;have hvv:=(hv5).gs hG9 (fun p e q=>by (have hbb:=ha p e;rcases q with q | q <;> first | omega | exact hbb.2.1 (Or.inl (Or.inr (Or.inr q)))));have huu:=(hu5).gs hG9 (fun p e q=>by (have hbb:=hb p e;rcases q with q | q <;> first | omega | exact hbb.2.1 (Or.inl (Or.inr (Or.inr q)))));obtain ⟨d0,d1,d2⟩:=r3_cells A9;have dl:=RowAt.lt A9;obtain ⟨z0,z1,z2⟩:=r3_cells Z9;obtain ⟨f0,f1,f2⟩:=r3_free Z9;have zl:=RowAt.lt Z9;have Zz:=r3_set2 (r3_set1 (r3_set0 Z9 (.int .i64 now)) (.slice a n c3)) (.slice (some ⟨g8,0,none⟩) (n2+1) cap8);have hGz:Gs (fun k=>k=pz) w9 (((w9.setCell ⟨pz,0,none⟩ (.int .i64 now)).setCell ⟨pz,1,none⟩ (.slice a n c3)).setCell ⟨pz,2,none⟩ (.slice (some ⟨g8,0,none⟩) (n2+1) cap8)):=gs_one (gs_one (gs_one (gs_refl _ _) _ _) _ _) _ _;go_wp2_with fail
 obtain ⟨Wz,hWz⟩:∃ W,((w9.setCell ⟨pz,0,none⟩ (.int .i64 now)).setCell ⟨pz,1,none⟩ (.slice a n c3)).setCell ⟨pz,2,none⟩ (.slice (some ⟨g8,0,none⟩) (n2+1) cap8)=W:=⟨_,rfl⟩
 rw [hWz] at Zz hGz ⊢;clear hWz z0 z1 z2 f0 f1 f2;obtain ⟨z0,z1,z2⟩:=r3_cells Zz;have hgT:¬T g8:=fun q=>by
  rcases hat8 with z | z
  ·exact HT.t g8 q (Or.inr z)
  ·have:=hTl g8 q;have:=B5.size;omega
 have hbd8:M1.Bd rs (ms ++ [m]):=hbd.out.snoc _ (by rw [hl2.out];omega) hmB;have RM:∀ wz,Gs T Wz wz→IsRgs wz _ n c3 rs∧IsMls wz (some ⟨g8,0,none⟩) (n2+1) cap8 (ms ++ [m]):=fun wz hz=>HT.mailed (gs_trans (gs_mono (gs_more hGw hGz k3) (fun k e=>Or.inl e)) (gs_mono hz (fun k e=>Or.inr e))) m v5 n5 c5 v6 n6 c6 ((hvv.gs hGz (fun p e=>by (have hbb:=ha p e;omega))).gs hz (fun p e q=>by exact (ha p e).2.1 (Or.inr q))) ((huu.gs hGz (fun p e=>by (have hbb:=hb p e;omega))).gs hz (fun p e q=>by exact (hb p e).2.1 (Or.inr q))) (fun p e=>by have:=hGz.size;have:=hz.size;(have hbb:=ha p e;have:=B5.size;omega)) (fun p e=>by have:=hGz.size;have:=hz.size;(have hbb:=hb p e;have:=B5.size;omega)) (owns_gs (owns_gs own9 hGz (fun k e q=>hg8.2 ((ownB e).trans q))) hz (fun k e q=>hgT (by rw [ownB e];exact q)));refine bodyPost_ret (v:=.tuple #[.agg #[.int .i64 now,.slice a n c3,.slice (some ⟨g8,0,none⟩) (n2+1) cap8],.int .i64 0]) (by simp [results,Tryz.results111,go_sem,z0,z1,z2]) rfl ?_;exact ⟨_,_,_,_,_,_,rs,_,0,rfl,RM,hbd8,gs_mono (gs_more hGw hGz k3) (fun k e=>Or.inr e)⟩
end Go.Proofs.YtgcinolbkllkkaaGreat
