/-
  Texts of one proof, joined: Cv4k2.
-/
import Derived.Test.YtgcinolbkllkkaaGreatZFConverged27
set_option linter.unusedSimpArgs false
set_option linter.unusedVariables false
namespace Go.Proofs.YtgcinolbkllkkaaGreat
open Go.ChangeShapes Go.WideShapes Go.ChangeAt Go.RowKit
attribute [local go_sem high] eqOp0
set_option maxHeartbeats 64000000 in
set_option maxRecDepth 100000 in
theorem l6Act_2 (now:Int)(a:Option Addr)(n c3:Nat)(a2:Option Addr)(n2 c4:Nat)(xs ys:List Value)(rs:List M1.Rg)(ms:List M1.Ml)(lo:Nat)(kd wh tt ta:Int)(x:M1.OpV)(w:World){T:Nat→Prop}(HT:WT w lo (.slice a n c3) (.slice a2 n2 c4) xs ys rs ms T)(hTl:∀ k,T k→k<w.heap.size)(hlo:lo≤w.heap.size)(hxs:x.s.size≤maxLen)(hwk:Hid (M1.wOk now rs ms=true))(hk:Hid (kd=2)) :
  Calls Tryz.prog 111 #[.agg #[.int .i64 now,.slice a n c3,.slice a2 n2 c4],.agg #[.int .i64 kd,.int .i64 wh,.int .i64 tt,.int .i64 ta,.int .i64 x.k,.int .i64 x.t,.int .i64 x.id,.int .i64 x.pa,.string x.s,.int .i64 x.st,.int .i64 x.en]] w fun e w'=>WA w w' (OB (.slice a n c3) (.slice a2 n2 c4)) T e now:=by
 have HW:=HT.c;have hrg:=HW.rgs;have hmg:=HW.mls;have hm1:=hrg.hcap;have hm2:=hrg.hmost;have hm3:=hmg.hcap;have hm4:=hmg.hmost;unfold maxLen at hm2 hm4;have hl1:Hid (rs.length=n):=hrg.hlen;have hl2:Hid (ms.length=n2):=hmg.hlen;obtain ⟨_,hn2',hn5',hn40',hok0,hml0,_,hbd0⟩:=M1.wOk_has hwk.out;have hok:Hid (∀ i,i<n→M1.rOk (M1.rgA rs i)=true):=fun i hi=>hok0 i (by rw [hl1.out];exact hi);have hml:Hid (∀ i,i<n2→1≤(M1.mlA ms i).tt∧(M1.mlA ms i).tt≤(n:Int)∧M1.vecOk (M1.mlA ms i).vec=true∧(M1.mlA ms i).del.length≤3):=fun i hi=>by
  have:=hml0 i (by rw [hl2.out];exact hi);rw [hl1.out] at this;exact this
 have hbd:Hid (M1.Bd rs ms):=hbd0;have hn2:2≤n:=by have:=hl1.out;omega
 have hn5:n≤5:=by have:=hl1.out;omega
 have hn40:n2≤40:=by have:=hl2.out;omega
 clear hn2' hn5' hn40' hok0 hml0 hbd0;have hA:Below w.heap.size w (((w.alloc (.cells #[.int .i64 now,.slice a n c3,.slice a2 n2 c4] 27)).alloc (.cells #[.int .i64 kd,.int .i64 wh,.int .i64 tt,.int .i64 ta,.int .i64 x.k,.int .i64 x.t,.int .i64 x.id,.int .i64 x.pa,.string x.s,.int .i64 x.st,.int .i64 x.en] 112)).alloc (.cells #[.int .i64 0,.slice none 0 0,.slice none 0 0] 27)):=(((Below.refl _ _).alloc (Nat.le_refl _) _).alloc (by simp) _).alloc (by simp <;> omega) _;have A0:R3 (((w.alloc (.cells #[.int .i64 now,.slice a n c3,.slice a2 n2 c4] 27)).alloc (.cells #[.int .i64 kd,.int .i64 wh,.int .i64 tt,.int .i64 ta,.int .i64 x.k,.int .i64 x.t,.int .i64 x.id,.int .i64 x.pa,.string x.s,.int .i64 x.st,.int .i64 x.en] 112)).alloc (.cells #[.int .i64 0,.slice none 0 0,.slice none 0 0] 27)) w.heap.size (.int .i64 now) (.slice a n c3) (.slice a2 n2 c4):=((r3_new w (.int .i64 now) (.slice a n c3) (.slice a2 n2 c4) 27).alloc _).alloc _;have C0:R11 (((w.alloc (.cells #[.int .i64 now,.slice a n c3,.slice a2 n2 c4] 27)).alloc (.cells #[.int .i64 kd,.int .i64 wh,.int .i64 tt,.int .i64 ta,.int .i64 x.k,.int .i64 x.t,.int .i64 x.id,.int .i64 x.pa,.string x.s,.int .i64 x.st,.int .i64 x.en] 112)).alloc (.cells #[.int .i64 0,.slice none 0 0,.slice none 0 0] 27)) (w.alloc (.cells #[.int .i64 now,.slice a n c3,.slice a2 n2 c4] 27)).heap.size kd wh tt ta x:=(r11_new (w.alloc (.cells #[.int .i64 now,.slice a n c3,.slice a2 n2 c4] 27)) kd wh tt ta x 112).alloc _;have Z0:R3 (((w.alloc (.cells #[.int .i64 now,.slice a n c3,.slice a2 n2 c4] 27)).alloc (.cells #[.int .i64 kd,.int .i64 wh,.int .i64 tt,.int .i64 ta,.int .i64 x.k,.int .i64 x.t,.int .i64 x.id,.int .i64 x.pa,.string x.s,.int .i64 x.st,.int .i64 x.en] 112)).alloc (.cells #[.int .i64 0,.slice none 0 0,.slice none 0 0] 27)) ((w.alloc (.cells #[.int .i64 now,.slice a n c3,.slice a2 n2 c4] 27)).alloc (.cells #[.int .i64 kd,.int .i64 wh,.int .i64 tt,.int .i64 ta,.int .i64 x.k,.int .i64 x.t,.int .i64 x.id,.int .i64 x.pa,.string x.s,.int .i64 x.st,.int .i64 x.en] 112)).heap.size (.int .i64 0) (.slice none 0 0) (.slice none 0 0):=r3_new ((w.alloc (.cells #[.int .i64 now,.slice a n c3,.slice a2 n2 c4] 27)).alloc (.cells #[.int .i64 kd,.int .i64 wh,.int .i64 tt,.int .i64 ta,.int .i64 x.k,.int .i64 x.t,.int .i64 x.id,.int .i64 x.pa,.string x.s,.int .i64 x.st,.int .i64 x.en] 112)) (.int .i64 0) (.slice none 0 0) (.slice none 0 0) 27;rw [show (w.alloc (.cells #[.int .i64 now,.slice a n c3,.slice a2 n2 c4] 27)).heap.size=w.heap.size+1 by simp] at C0;rw [show ((w.alloc (.cells #[.int .i64 now,.slice a n c3,.slice a2 n2 c4] 27)).alloc (.cells #[.int .i64 kd,.int .i64 wh,.int .i64 tt,.int .i64 ta,.int .i64 x.k,.int .i64 x.t,.int .i64 x.id,.int .i64 x.pa,.string x.s,.int .i64 x.st,.int .i64 x.en] 112)).heap.size=w.heap.size+1+1 by simp] at Z0;go_enter Tryz.func111,Tryz.ntmps111
 go_upto_region 1 with fail
 obtain ⟨w1,hw1⟩:∃ W,(((w.alloc (.cells #[.int .i64 now,.slice a n c3,.slice a2 n2 c4] 27)).alloc (.cells #[.int .i64 kd,.int .i64 wh,.int .i64 tt,.int .i64 ta,.int .i64 x.k,.int .i64 x.t,.int .i64 x.id,.int .i64 x.pa,.string x.s,.int .i64 x.st,.int .i64 x.en] 112)).alloc (.cells #[.int .i64 0,.slice none 0 0,.slice none 0 0] 27))=W:=⟨_,rfl⟩
 rw [hw1] at hA A0 C0 Z0 ⊢;clear hw1;obtain ⟨pz,hpz⟩:∃ z,Hid (w.heap.size+1+1=z):=⟨_,rfl⟩
 obtain ⟨pa,hpa⟩:∃ z,Hid (w.heap.size+1=z):=⟨_,rfl⟩
 obtain ⟨pw,hpw⟩:∃ z,Hid (w.heap.size=z):=⟨_,rfl⟩
 rw [hpz.out] at Z0 ⊢;rw [hpa.out] at C0 ⊢;rw [hpw.out] at A0 ⊢;have k1:w.heap.size≤pw:=by have:=hpw.out;omega
 have k2:w.heap.size≤pa:=by have:=hpa.out;omega
 have k3:w.heap.size≤pz:=by have:=hpz.out;omega
 have k4:¬pw=pz:=by have:=hpw.out;have:=hpz.out;omega
 have k5:¬pa=pz:=by have:=hpa.out;have:=hpz.out;omega
 have k6:¬pw=pa:=by have:=hpw.out;have:=hpa.out;omega
 have HW1:=HW.below hA;have hs1:=hA.size;have kz:pz<w1.heap.size:=Z0.lt;have kpw:pw<w1.heap.size:=A0.lt;have kpa:pa<w1.heap.size:=C0.lt;obtain ⟨d0,d1,d2⟩:=r3_cells A0;obtain ⟨e0,e1,e2,e3,e4,e5,e6,e7,e8,e9,e10⟩:=r11_cells C0;obtain ⟨z0,z1,z2⟩:=r3_cells Z0;obtain ⟨f0,f1,f2⟩:=r3_free Z0;have dl:=A0.lt;have el:=C0.lt;have zl:=Z0.lt;obtain ⟨qo,hqo⟩:∃ q,Hid (opq x ⟨0,0,0,0,⟨#[]⟩,0,0⟩=q):=⟨_,rfl⟩
 go_upto_region 3 with fail
 rw [hqo.out];have n1':(kd==1)=false:=by have:=hk.out;simp [this]
 have n2':(kd==2)=true:=by have:=hk.out;simp [this]
 have n3':(kd==3)=false:=by have:=hk.out;simp [this]
 have n4':(kd==4)=false:=by have:=hk.out;simp [this]
 have n5':(kd==5)=false:=by have:=hk.out;simp [this]
 cases qo with
 | false =>
  have Z9:=r3_set2 (r3_set1 (r3_set0 Z0 (.int .i64 now)) (.slice a n c3)) (.slice a2 n2 c4);have B9:=((hA.setCell (p:=⟨pz,0,none⟩) k3 (.int .i64 now)).setCell (p:=⟨pz,1,none⟩) k3 (.slice a n c3)).setCell (p:=⟨pz,2,none⟩) k3 (.slice a2 n2 c4);have HW9:=HW.below B9;go_wp2_with fail
  obtain ⟨Wz,hWz⟩:∃ W,((w1.setCell ⟨pz,0,none⟩ (.int .i64 now)).setCell ⟨pz,1,none⟩ (.slice a n c3)).setCell ⟨pz,2,none⟩ (.slice a2 n2 c4)=W:=⟨_,rfl⟩
  rw [hWz] at Z9 HW9 B9 ⊢;clear hWz z0 z1 z2 f0 f1 f2;obtain ⟨z0,z1,z2⟩:=r3_cells Z9;refine bodyPost_ret (v:=.tuple #[.agg #[.int .i64 now,.slice a n c3,.slice a2 n2 c4],.int .i64 2]) (by simp [results,Tryz.results111,go_sem,z0,z1,z2]) rfl ?_;exact ⟨_,_,_,_,_,_,rs,ms,2,rfl,fun wz hz=>HT.still (gs_trans (gs_below B9) hz),hbd.out,gs_below B9⟩
 | true =>
 obtain ⟨q1,hq1⟩:∃ q,Hid (M1.inB wh 1 n=q):=⟨_,rfl⟩
 go_wp2_with fail
 refine (l1In_any _ _ _ _).mono ?_;rw [hq1.out];rintro e wa ⟨rfl,hwa⟩;obtain rfl:=hwa.symm
 cases q1 with
 | false =>
  have Z9:=r3_set2 (r3_set1 (r3_set0 Z0 (.int .i64 now)) (.slice a n c3)) (.slice a2 n2 c4);have B9:=((hA.setCell (p:=⟨pz,0,none⟩) k3 (.int .i64 now)).setCell (p:=⟨pz,1,none⟩) k3 (.slice a n c3)).setCell (p:=⟨pz,2,none⟩) k3 (.slice a2 n2 c4);have HW9:=HW.below B9;go_wp2_with fail
  obtain ⟨Wz,hWz⟩:∃ W,((w1.setCell ⟨pz,0,none⟩ (.int .i64 now)).setCell ⟨pz,1,none⟩ (.slice a n c3)).setCell ⟨pz,2,none⟩ (.slice a2 n2 c4)=W:=⟨_,rfl⟩
  rw [hWz] at Z9 HW9 B9 ⊢;clear hWz z0 z1 z2 f0 f1 f2;obtain ⟨z0,z1,z2⟩:=r3_cells Z9;refine bodyPost_ret (v:=.tuple #[.agg #[.int .i64 now,.slice a n c3,.slice a2 n2 c4],.int .i64 2]) (by simp [results,Tryz.results111,go_sem,z0,z1,z2]) rfl ?_;exact ⟨_,_,_,_,_,_,rs,ms,2,rfl,fun wz hz=>HT.still (gs_trans (gs_below B9) hz),hbd.out,gs_below B9⟩
 | true =>
 obtain ⟨q2,hq2⟩:∃ q,Hid (M1.inB tt 1 n=q):=⟨_,rfl⟩
 go_wp2_with fail
 refine (l1In_any _ _ _ _).mono ?_;rw [hq2.out];rintro e wa ⟨rfl,hwa⟩;obtain rfl:=hwa.symm
 cases q2 with
 | false =>
  have Z9:=r3_set2 (r3_set1 (r3_set0 Z0 (.int .i64 now)) (.slice a n c3)) (.slice a2 n2 c4);have B9:=((hA.setCell (p:=⟨pz,0,none⟩) k3 (.int .i64 now)).setCell (p:=⟨pz,1,none⟩) k3 (.slice a n c3)).setCell (p:=⟨pz,2,none⟩) k3 (.slice a2 n2 c4);have HW9:=HW.below B9;go_wp2_with fail
  obtain ⟨Wz,hWz⟩:∃ W,((w1.setCell ⟨pz,0,none⟩ (.int .i64 now)).setCell ⟨pz,1,none⟩ (.slice a n c3)).setCell ⟨pz,2,none⟩ (.slice a2 n2 c4)=W:=⟨_,rfl⟩
  rw [hWz] at Z9 HW9 B9 ⊢;clear hWz z0 z1 z2 f0 f1 f2;obtain ⟨z0,z1,z2⟩:=r3_cells Z9;refine bodyPost_ret (v:=.tuple #[.agg #[.int .i64 now,.slice a n c3,.slice a2 n2 c4],.int .i64 2]) (by simp [results,Tryz.results111,go_sem,z0,z1,z2]) rfl ?_;exact ⟨_,_,_,_,_,_,rs,ms,2,rfl,fun wz hz=>HT.still (gs_trans (gs_below B9) hz),hbd.out,gs_below B9⟩
 | true =>
 by_cases hwt:wh=tt
 case pos =>
  have bw:(wh==tt)=true:=by simp [hwt]
  clear hwt;have Z9:=r3_set2 (r3_set1 (r3_set0 Z0 (.int .i64 now)) (.slice a n c3)) (.slice a2 n2 c4);have B9:=((hA.setCell (p:=⟨pz,0,none⟩) k3 (.int .i64 now)).setCell (p:=⟨pz,1,none⟩) k3 (.slice a n c3)).setCell (p:=⟨pz,2,none⟩) k3 (.slice a2 n2 c4);have HW9:=HW.below B9;go_wp2_with fail
  obtain ⟨Wz,hWz⟩:∃ W,((w1.setCell ⟨pz,0,none⟩ (.int .i64 now)).setCell ⟨pz,1,none⟩ (.slice a n c3)).setCell ⟨pz,2,none⟩ (.slice a2 n2 c4)=W:=⟨_,rfl⟩
  rw [hWz] at Z9 HW9 B9 ⊢;clear hWz z0 z1 z2 f0 f1 f2;obtain ⟨z0,z1,z2⟩:=r3_cells Z9;refine bodyPost_ret (v:=.tuple #[.agg #[.int .i64 now,.slice a n c3,.slice a2 n2 c4],.int .i64 2]) (by simp [results,Tryz.results111,go_sem,z0,z1,z2]) rfl ?_;exact ⟨_,_,_,_,_,_,rs,ms,2,rfl,fun wz hz=>HT.still (gs_trans (gs_below B9) hz),hbd.out,gs_below B9⟩
 have bw:(wh==tt)=false:=by simp [hwt]
 clear hwt;by_cases ha0:ta=0
 case neg =>
  have ba:(ta != 0)=true:=by simp [ha0]
  clear ha0;have Z9:=r3_set2 (r3_set1 (r3_set0 Z0 (.int .i64 now)) (.slice a n c3)) (.slice a2 n2 c4);have B9:=((hA.setCell (p:=⟨pz,0,none⟩) k3 (.int .i64 now)).setCell (p:=⟨pz,1,none⟩) k3 (.slice a n c3)).setCell (p:=⟨pz,2,none⟩) k3 (.slice a2 n2 c4);have HW9:=HW.below B9;go_wp2_with fail
  obtain ⟨Wz,hWz⟩:∃ W,((w1.setCell ⟨pz,0,none⟩ (.int .i64 now)).setCell ⟨pz,1,none⟩ (.slice a n c3)).setCell ⟨pz,2,none⟩ (.slice a2 n2 c4)=W:=⟨_,rfl⟩
  rw [hWz] at Z9 HW9 B9 ⊢;clear hWz z0 z1 z2 f0 f1 f2;obtain ⟨z0,z1,z2⟩:=r3_cells Z9;refine bodyPost_ret (v:=.tuple #[.agg #[.int .i64 now,.slice a n c3,.slice a2 n2 c4],.int .i64 2]) (by simp [results,Tryz.results111,go_sem,z0,z1,z2]) rfl ?_;exact ⟨_,_,_,_,_,_,rs,ms,2,rfl,fun wz hz=>HT.still (gs_trans (gs_below B9) hz),hbd.out,gs_below B9⟩
 have ba:(ta != 0)=false:=by simp [ha0]
 clear ha0;have hwh:=M1.inB_true hq1.out;have j0:(0:Int)≤wh-1:=by omega
 have j1:wh-1<(n:Int):=by omega
 rcases hrg.hlies with h0 | ⟨gR,off,rfl,hgl,_⟩
 ·omega
 rcases HW1.rgs.hlies with h0 | ⟨gR',off',e',hgl1,hc'⟩
 ·omega
 injection e' with e';injection e' with e1' e2' _;subst e1' e2';obtain ⟨v7,n7,c7,x0,x1,x2,x3,x4,hus⟩:=hc' (wh.toNat-1) (by omega);clear hc';have hrO:Hid (M1.rOk (M1.rgA rs (wh.toNat-1))=true):=hok.out _ (by omega);obtain ⟨r,hr⟩:∃ r,Hid (M1.rgA rs (wh.toNat-1)=r):=⟨_,rfl⟩
 rw [hr.out] at x0 x1 x2 x3 hus hrO;have hn7:n7≤60:=by have:=(rOk_short hrO.out).2;have:=hus.hlen;omega
 have hgM:∀ k,(Value.slice a2 n2 c4).ownBlock=some k→k<w.heap.size∧¬k=gR:=fun k e=>⟨(HW.own.lt k e).2,fun q=>HW.ap gR rfl (by rw [←q];exact e)⟩;go_upto_region 15 with fail
 refine wp_region_held_drew (S:=fun w'=>(∀ o,w'.cell? ⟨pa,o,none⟩=w1.cell? ⟨pa,o,none⟩)∧w'.cell? ⟨pw,1,none⟩=some (.slice (some ⟨gR,off,none⟩) n c3)∧(∀ o,w'.cell? ⟨gR,o,none⟩=w1.cell? ⟨gR,o,none⟩)) (by kernel_rfl) ?_ (fun zH=>?_)
 ·exact ⟨fun _=>rfl,d1,fun _=>rfl⟩
 refine uZ 0 ?_;simp only[pZ,zZ];refine uZ 2 ?_;simp only[pZ,zZ];refine uZ 3 ?_;simp only[pZ,zZ];refine uZ 4 ?_;simp only[pZ,zZ];refine uZ 5 ?_;simp only[pZ,zZ];refine uZ 6 ?_;simp only[pZ,zZ];refine uZ 7 ?_;simp only[pZ,zZ];refine uZ 8 ?_;simp only[pZ,zZ];refine uZ 9 ?_;simp only[pZ,zZ];refine tZ (i:=10) (v:=.int .i64 (wh-1)) rfl (.inl ⟨by rfl,?_⟩) zH ?_
 ·(intro w hSw;(try dsimp only at hSw);go_simp;(try exact IntWalk.i64_in _ (by omega)))
 (try simp only[pZ,zZ]);refine uZ 11 ?_;simp only[pZ,zZ];refine uZ 12 ?_;simp only[pZ,zZ];refine uZ 13 ?_;simp only[pZ,zZ];obtain ⟨v0,hv0⟩:∃ W,w1.drew=W:=⟨_,rfl⟩
 have hb0:Below w1.heap.size w1 w1.drew:=(Below.refl _ _).drew;rw [hv0] at zH hb0 ⊢;clear hv0;obtain ⟨d0',d1',d2'⟩:=r3_cells (A0.below hb0);have dl':=(A0.below hb0).lt;have el':=(C0.below hb0).lt;have hz0:=hb0.size;refine rZ [1,14] (.cons rfl (fun K hK=>?_) (.cons rfl (fun K hK=>?_) .nil))
 ·go_simp
  refine hK.out _ _ zH (fun zH2=>?_);clear hK K zH;have zH:=zH2;clear zH2;(try simp only[pZ,zZ]);refine sZ 14 fun K hK=>?_;go_simp
  (refine (l3Vector_gen _ _ _ r.us _ (hus.below hb0) (by omega)).mono ?_;rintro e w4 ⟨⟨y,rfl,own4⟩,hb4⟩;go_wp2_with fail)
  refine hK.out _ _ ?_ (fun zH2=>?_)
  ·exact (ask_step zH hb4 (by omega) (by omega) (by omega))
  clear hK K zH;have zH:=zH2;clear zH2;(try simp only[pZ,zZ]);obtain ⟨dv,dc,hdd,mv⟩:=MV.of_owns own4;subst hdd;have hdl:=M1.l3v_len r.us;obtain ⟨dn,hdn⟩:∃ k,Hid ((M1.l3v r.us).length=k):=⟨_,rfl⟩
  have hrl:Hid (r.us.length=n7):=hus.hlen;have hmB:(M1.Ml.mk wh tt true (M1.l3v r.us) []).vec.length≤1000∧(M1.Ml.mk wh tt true (M1.l3v r.us) []).del.length≤1000:=⟨by show (M1.l3v r.us).length≤1000;have:=hrl.out;omega,Nat.zero_le _⟩
  rw [hdn.out] at mv ⊢;have hv4:IsVec w4 dv dn dc (M1.l3v r.us):=mv.vec hdn.out;have hd4:∀ p,dv=some p→v0.heap.size≤p.block∧p.block<w4.heap.size:=fun p e=>by
   rcases mv.2.2 with ⟨_,q⟩ | ⟨k,q,h1,h2,_⟩
   ·rw [e] at q;cases q
   ·rw [e] at q;cases q;exact ⟨h1,h2⟩
  clear mv own4;have hb4':=hb0.trans (hb4.mono hb0.size);have hs4:=hb4'.size;obtain ⟨_,_,dd2⟩:=r3_cells (A0.below hb4');have dl4:=(A0.below hb4').lt;have el4:=(C0.below hb4').lt;refine uZ 15 ?_;simp only[pZ,zZ];refine sZ 16 fun K hK=>?_;go_simp
  skip
  refine hK.out _ _ ?_ (fun zH2=>?_)
  ·exact (ask_step zH ((Below.refl _ _).alloc (Nat.le_refl _) _) (by omega) (by omega) (by omega))
  clear hK K zH;have zH:=zH2;clear zH2;(try simp only[pZ,zZ]);have hA5:Below w4.heap.size w4 (w4.alloc (.cells #[.int .i64 wh,.int .i64 tt,.bool true,.slice dv dn dc,.slice none 0 0] 62)):=(Below.refl _ _).alloc (Nat.le_refl _) _;have E5:=r5_new w4 (.int .i64 wh) (.int .i64 tt) (.bool true) (.slice dv dn dc) (.slice none 0 0) 62;obtain ⟨w5,hw5⟩:∃ W,w4.alloc (.cells #[.int .i64 wh,.int .i64 tt,.bool true,.slice dv dn dc,.slice none 0 0] 62)=W:=⟨_,rfl⟩
  rw [hw5] at zH hA5 E5 ⊢;clear hw5;have hb5:=hb4'.trans (hA5.mono hb4'.size);have B5:=hA.trans (hb5.mono hA.size);have HW5:=HW.below B5;have hs5:=hA5.size;have own5:w5.ownsRow lo 62 5 (.slice a2 n2 c4) n2 ys:=by have:=HW5.own;rwa [hl2.out] at this
  refine sZ 17 fun K hK=>?_;refine step_appM rfl _ _ rfl lo a2 c4 n2 ys rfl own5 w4.heap.size 1 _ _ _ _ _ (one5M ⟨wh,tt,true,M1.l3v r.us,[]⟩ dv dn dc none 0 0) rfl E5 (by omega) (by omega) ?_;intro g8 cap8 w8 own8 hgrow8 hat8;have hs8:=hgrow8.size;have blk:∀ k,k<w5.heap.size→(w.heap.size≤k∨k=gR)→w8.heap[k]?=w5.heap[k]?:=fun k hk hh=>hgrow8.block k hk (fun e=>by have:=hgM k e.symm;omega);have cel:∀ k,k<w5.heap.size→(w.heap.size≤k∨k=gR)→∀ o,w8.cell? ⟨k,o,none⟩=w5.cell? ⟨k,o,none⟩:=fun k hk hh o=>World.cell?_of_block (w:=w5) (a:=⟨k,o,none⟩) (blk k hk hh);refine hK.out _ _ ⟨fun o=>(cel pa (by omega) (Or.inl k2) o).trans (zH.1 o),(cel pw (by omega) (Or.inl k1) 1).trans zH.2.1,fun o=>(cel gR (by omega) (Or.inr rfl) o).trans (zH.2.2 o)⟩ (fun zH2=>?_);clear hK K zH;have zH:=zH2;clear zH2;(try simp only[pZ,zZ]);have A8:=row_blockA (A0.below hb5) (blk pw (by omega) (Or.inl k1)) hs8;have Z8:=row_blockA (Z0.below hb5) (blk pz (by omega) (Or.inl k3)) hs8;obtain ⟨y0,y1,y2⟩:=r3_cells A8;obtain ⟨g0,g1,g2⟩:=r3_free A8;have yl:=A8.lt;refine uZ 18 ?_;simp only[pZ,zZ];refine sZ 19 fun K hK=>?_;go_simp
  skip
  refine hK.out _ _ ?_ (fun zH2=>?_)
  ·exact ⟨fun o=>(World.cell?_setCell_other _ _ _ _ (by intro q;injection q with q1 _ _;omega)).trans (zH.1 o),(World.cell?_setCell_other _ _ _ _ (by intro q;injection q with _ q2 _;omega)).trans zH.2.1,fun o=>(World.cell?_setCell_other _ _ _ _ (by intro q;injection q with q1 _ _;omega)).trans (zH.2.2 o)⟩
  clear hK K zH;have zH:=zH2;clear zH2;(try simp only[pZ,zZ]);refine dZ ?_;clear y0 y1 y2 g0 g1 g2 dd2 d0' d1' d2' x0 x1 x2 x3 x4;clear d0 d1 d2 e0 e1 e2 e3 e4 e5 e6 e7 e8 e9 e10 z0 z1 z2 f0 f1 f2 dl el zl;have A9:=r3_set2 A8 (.slice (some ⟨g8,0,none⟩) (n2+1) cap8);have Z9:=Z8.far (p:=⟨pw,2,none⟩) k4 (.slice (some ⟨g8,0,none⟩) (n2+1) cap8);have hg8:¬g8=pw∧¬g8=pz:=by
   refine ⟨fun e=>?_,fun e=>?_⟩
   ·rcases hat8 with q | q
    ·have:=(hgM _ q).1;omega
    ·omega
   ·rcases hat8 with q | q
    ·have:=(hgM _ q).1;omega
    ·omega
  have own9:=owns_gs own8 (gs_one (q:=pw) (gs_refl _ _) 2 (.slice (some ⟨g8,0,none⟩) (n2+1) cap8)) (fun k e q=>hg8.1 ((ownB e).trans q));have hG9:Gs (fun k=>k=pw∨(Value.slice a2 n2 c4).ownBlock=some k) w5 (w8.setCell ⟨pw,2,none⟩ (.slice (some ⟨g8,0,none⟩) (n2+1) cap8)):=gs_set (S:=fun k=>k=pw∨(Value.slice a2 n2 c4).ownBlock=some k) (gs_grown (gs_refl _ _) hgrow8 (fun k e=>Or.inl (Or.inr e))) ⟨pw,2,none⟩ (Or.inl (show pw=pw∨(Value.slice a2 n2 c4).ownBlock=some pw from Or.inl rfl)) _;have hGw:Gs (fun k=>(Value.slice a2 n2 c4).ownBlock=some k) w (w8.setCell ⟨pw,2,none⟩ (.slice (some ⟨g8,0,none⟩) (n2+1) cap8)):=gs_set (gs_grown (gs_below B5) hgrow8 (fun k e=>Or.inl e)) ⟨pw,2,none⟩ (Or.inr k1) _;have hs9:=hG9.size;obtain ⟨w9,hw9⟩:∃ W,w8.setCell ⟨pw,2,none⟩ (.slice (some ⟨g8,0,none⟩) (n2+1) cap8)=W:=⟨_,rfl⟩
  rw [hw9] at A9 Z9 own9 hG9 hGw hs9 ⊢;clear hw9;have hvv:=(hv4.below hA5).gs hG9 (fun p e q=>by (have hbb:=hd4 p e;rcases q with q | q <;> first | omega | (have:=(hgM _ q).1;omega)));have huu:=(noUpds0 _).gs hG9 (fun p e q=>by cases e);obtain ⟨d0,d1,d2⟩:=r3_cells A9;have dl:=RowAt.lt A9;obtain ⟨z0,z1,z2⟩:=r3_cells Z9;obtain ⟨f0,f1,f2⟩:=r3_free Z9;have zl:=RowAt.lt Z9;have Zz:=r3_set2 (r3_set1 (r3_set0 Z9 (.int .i64 now)) (.slice (some ⟨gR,off,none⟩) n c3)) (.slice (some ⟨g8,0,none⟩) (n2+1) cap8);have hGz:Gs (fun k=>k=pz) w9 (((w9.setCell ⟨pz,0,none⟩ (.int .i64 now)).setCell ⟨pz,1,none⟩ (.slice (some ⟨gR,off,none⟩) n c3)).setCell ⟨pz,2,none⟩ (.slice (some ⟨g8,0,none⟩) (n2+1) cap8)):=gs_one (gs_one (gs_one (gs_refl _ _) _ _) _ _) _ _;go_wp2_with fail
  obtain ⟨Wz,hWz⟩:∃ W,((w9.setCell ⟨pz,0,none⟩ (.int .i64 now)).setCell ⟨pz,1,none⟩ (.slice (some ⟨gR,off,none⟩) n c3)).setCell ⟨pz,2,none⟩ (.slice (some ⟨g8,0,none⟩) (n2+1) cap8)=W:=⟨_,rfl⟩
  rw [hWz] at Zz hGz ⊢;clear hWz z0 z1 z2 f0 f1 f2;obtain ⟨z0,z1,z2⟩:=r3_cells Zz;have hgT:¬T g8:=fun q=>by
   rcases hat8 with z | z
   ·exact HT.t g8 q (Or.inr z)
   ·have:=hTl g8 q;have:=B5.size;omega
  have hbd8:M1.Bd rs (ms ++ [⟨wh,tt,true,M1.l3v r.us,[]⟩]):=hbd.out.snoc _ (by rw [hl2.out];omega) hmB;have RM:∀ wz,Gs T Wz wz→IsRgs wz _ n c3 rs∧IsMls wz (some ⟨g8,0,none⟩) (n2+1) cap8 (ms ++ [⟨wh,tt,true,M1.l3v r.us,[]⟩]):=fun wz hz=>HT.mailed (gs_trans (gs_mono (gs_more hGw hGz k3) (fun k e=>Or.inl e)) (gs_mono hz (fun k e=>Or.inr e))) ⟨wh,tt,true,M1.l3v r.us,[]⟩ dv dn dc none 0 0 ((hvv.gs hGz (fun p e=>by (have hbb:=hd4 p e;omega))).gs hz (fun p e q=>by (have hbb:=hd4 p e;have:=hTl _ q;omega))) ((huu.gs hGz (fun p e=>by cases e)).gs hz (fun p e q=>by cases e)) (fun p e=>by have:=hGz.size;have:=hz.size;(have hbb:=hd4 p e;have:=B5.size;omega)) (fun p e=>by have:=hGz.size;have:=hz.size;cases e) (owns_gs (owns_gs own9 hGz (fun k e q=>hg8.2 ((ownB e).trans q))) hz (fun k e q=>hgT (by rw [ownB e];exact q)));refine bodyPost_ret (v:=.tuple #[.agg #[.int .i64 now,.slice (some ⟨gR,off,none⟩) n c3,.slice (some ⟨g8,0,none⟩) (n2+1) cap8],.int .i64 0]) (by simp [results,Tryz.results111,go_sem,z0,z1,z2]) rfl ?_;exact ⟨_,_,_,_,_,_,rs,_,0,rfl,RM,hbd8,gs_mono (gs_more hGw hGz k3) (fun k e=>Or.inr e)⟩
 ·go_simp
  refine (l3Vector_gen _ _ _ r.us _ (hus.below hb0) (by omega)).mono ?_;rintro e w4 ⟨⟨y,rfl,own4⟩,hb4⟩;go_wp2_with fail
  refine hK.out _ _ (ask_step zH hb4 (by omega) (by omega) (by omega)) (fun zH2=>?_);clear hK K zH;have zH:=zH2;clear zH2;(try simp only[pZ,zZ]);obtain ⟨dv,dc,hdd,mv⟩:=MV.of_owns own4;subst hdd;have hdl:=M1.l3v_len r.us;obtain ⟨dn,hdn⟩:∃ k,Hid ((M1.l3v r.us).length=k):=⟨_,rfl⟩
  have hrl:Hid (r.us.length=n7):=hus.hlen;have hmB:(M1.Ml.mk wh tt true (M1.l3v r.us) []).vec.length≤1000∧(M1.Ml.mk wh tt true (M1.l3v r.us) []).del.length≤1000:=⟨by show (M1.l3v r.us).length≤1000;have:=hrl.out;omega,Nat.zero_le _⟩
  rw [hdn.out] at mv ⊢;have hv4:IsVec w4 dv dn dc (M1.l3v r.us):=mv.vec hdn.out;have hd4:∀ p,dv=some p→v0.heap.size≤p.block∧p.block<w4.heap.size:=fun p e=>by
   rcases mv.2.2 with ⟨_,q⟩ | ⟨k,q,h1,h2,_⟩
   ·rw [e] at q;cases q
   ·rw [e] at q;cases q;exact ⟨h1,h2⟩
  clear mv own4;have hb4':=hb0.trans (hb4.mono hb0.size);have hs4:=hb4'.size;obtain ⟨_,_,dd2⟩:=r3_cells (A0.below hb4');have dl4:=(A0.below hb4').lt;have el4:=(C0.below hb4').lt;refine uZ 15 ?_;simp only[pZ,zZ];refine rZ [1,16] (.cons rfl (fun K hK=>?_) (.cons rfl (fun K hK=>?_) .nil))
  ·go_simp
   refine hK.out _ _ zH (fun zH2=>?_);clear hK K zH;have zH:=zH2;clear zH2;(try simp only[pZ,zZ]);refine sZ 16 fun K hK=>?_;go_simp
   skip
   refine hK.out _ _ ?_ (fun zH2=>?_)
   ·exact (ask_step zH ((Below.refl _ _).alloc (Nat.le_refl _) _) (by omega) (by omega) (by omega))
   clear hK K zH;have zH:=zH2;clear zH2;(try simp only[pZ,zZ]);have hA5:Below w4.heap.size w4 (w4.alloc (.cells #[.int .i64 wh,.int .i64 tt,.bool true,.slice dv dn dc,.slice none 0 0] 62)):=(Below.refl _ _).alloc (Nat.le_refl _) _;have E5:=r5_new w4 (.int .i64 wh) (.int .i64 tt) (.bool true) (.slice dv dn dc) (.slice none 0 0) 62;obtain ⟨w5,hw5⟩:∃ W,w4.alloc (.cells #[.int .i64 wh,.int .i64 tt,.bool true,.slice dv dn dc,.slice none 0 0] 62)=W:=⟨_,rfl⟩
   rw [hw5] at zH hA5 E5 ⊢;clear hw5;have hb5:=hb4'.trans (hA5.mono hb4'.size);have B5:=hA.trans (hb5.mono hA.size);have HW5:=HW.below B5;have hs5:=hA5.size;have own5:w5.ownsRow lo 62 5 (.slice a2 n2 c4) n2 ys:=by have:=HW5.own;rwa [hl2.out] at this
   refine sZ 17 fun K hK=>?_;refine step_appM rfl _ _ rfl lo a2 c4 n2 ys rfl own5 w4.heap.size 1 _ _ _ _ _ (one5M ⟨wh,tt,true,M1.l3v r.us,[]⟩ dv dn dc none 0 0) rfl E5 (by omega) (by omega) ?_;intro g8 cap8 w8 own8 hgrow8 hat8;have hs8:=hgrow8.size;have blk:∀ k,k<w5.heap.size→(w.heap.size≤k∨k=gR)→w8.heap[k]?=w5.heap[k]?:=fun k hk hh=>hgrow8.block k hk (fun e=>by have:=hgM k e.symm;omega);have cel:∀ k,k<w5.heap.size→(w.heap.size≤k∨k=gR)→∀ o,w8.cell? ⟨k,o,none⟩=w5.cell? ⟨k,o,none⟩:=fun k hk hh o=>World.cell?_of_block (w:=w5) (a:=⟨k,o,none⟩) (blk k hk hh);refine hK.out _ _ ⟨fun o=>(cel pa (by omega) (Or.inl k2) o).trans (zH.1 o),(cel pw (by omega) (Or.inl k1) 1).trans zH.2.1,fun o=>(cel gR (by omega) (Or.inr rfl) o).trans (zH.2.2 o)⟩ (fun zH2=>?_);clear hK K zH;have zH:=zH2;clear zH2;(try simp only[pZ,zZ]);have A8:=row_blockA (A0.below hb5) (blk pw (by omega) (Or.inl k1)) hs8;have Z8:=row_blockA (Z0.below hb5) (blk pz (by omega) (Or.inl k3)) hs8;obtain ⟨y0,y1,y2⟩:=r3_cells A8;obtain ⟨g0,g1,g2⟩:=r3_free A8;have yl:=A8.lt;refine uZ 18 ?_;simp only[pZ,zZ];refine sZ 19 fun K hK=>?_;go_simp
   skip
   refine hK.out _ _ ?_ (fun zH2=>?_)
   ·exact ⟨fun o=>(World.cell?_setCell_other _ _ _ _ (by intro q;injection q with q1 _ _;omega)).trans (zH.1 o),(World.cell?_setCell_other _ _ _ _ (by intro q;injection q with _ q2 _;omega)).trans zH.2.1,fun o=>(World.cell?_setCell_other _ _ _ _ (by intro q;injection q with q1 _ _;omega)).trans (zH.2.2 o)⟩
   clear hK K zH;have zH:=zH2;clear zH2;(try simp only[pZ,zZ]);refine dZ ?_;clear y0 y1 y2 g0 g1 g2 dd2 d0' d1' d2' x0 x1 x2 x3 x4;clear d0 d1 d2 e0 e1 e2 e3 e4 e5 e6 e7 e8 e9 e10 z0 z1 z2 f0 f1 f2 dl el zl;have A9:=r3_set2 A8 (.slice (some ⟨g8,0,none⟩) (n2+1) cap8);have Z9:=Z8.far (p:=⟨pw,2,none⟩) k4 (.slice (some ⟨g8,0,none⟩) (n2+1) cap8);have hg8:¬g8=pw∧¬g8=pz:=by
    refine ⟨fun e=>?_,fun e=>?_⟩
    ·rcases hat8 with q | q
     ·have:=(hgM _ q).1;omega
     ·omega
    ·rcases hat8 with q | q
     ·have:=(hgM _ q).1;omega
     ·omega
   have own9:=owns_gs own8 (gs_one (q:=pw) (gs_refl _ _) 2 (.slice (some ⟨g8,0,none⟩) (n2+1) cap8)) (fun k e q=>hg8.1 ((ownB e).trans q));have hG9:Gs (fun k=>k=pw∨(Value.slice a2 n2 c4).ownBlock=some k) w5 (w8.setCell ⟨pw,2,none⟩ (.slice (some ⟨g8,0,none⟩) (n2+1) cap8)):=gs_set (S:=fun k=>k=pw∨(Value.slice a2 n2 c4).ownBlock=some k) (gs_grown (gs_refl _ _) hgrow8 (fun k e=>Or.inl (Or.inr e))) ⟨pw,2,none⟩ (Or.inl (show pw=pw∨(Value.slice a2 n2 c4).ownBlock=some pw from Or.inl rfl)) _;have hGw:Gs (fun k=>(Value.slice a2 n2 c4).ownBlock=some k) w (w8.setCell ⟨pw,2,none⟩ (.slice (some ⟨g8,0,none⟩) (n2+1) cap8)):=gs_set (gs_grown (gs_below B5) hgrow8 (fun k e=>Or.inl e)) ⟨pw,2,none⟩ (Or.inr k1) _;have hs9:=hG9.size;obtain ⟨w9,hw9⟩:∃ W,w8.setCell ⟨pw,2,none⟩ (.slice (some ⟨g8,0,none⟩) (n2+1) cap8)=W:=⟨_,rfl⟩
   rw [hw9] at A9 Z9 own9 hG9 hGw hs9 ⊢;clear hw9;have hvv:=(hv4.below hA5).gs hG9 (fun p e q=>by (have hbb:=hd4 p e;rcases q with q | q <;> first | omega | (have:=(hgM _ q).1;omega)));have huu:=(noUpds0 _).gs hG9 (fun p e q=>by cases e);obtain ⟨d0,d1,d2⟩:=r3_cells A9;have dl:=RowAt.lt A9;obtain ⟨z0,z1,z2⟩:=r3_cells Z9;obtain ⟨f0,f1,f2⟩:=r3_free Z9;have zl:=RowAt.lt Z9;have Zz:=r3_set2 (r3_set1 (r3_set0 Z9 (.int .i64 now)) (.slice (some ⟨gR,off,none⟩) n c3)) (.slice (some ⟨g8,0,none⟩) (n2+1) cap8);have hGz:Gs (fun k=>k=pz) w9 (((w9.setCell ⟨pz,0,none⟩ (.int .i64 now)).setCell ⟨pz,1,none⟩ (.slice (some ⟨gR,off,none⟩) n c3)).setCell ⟨pz,2,none⟩ (.slice (some ⟨g8,0,none⟩) (n2+1) cap8)):=gs_one (gs_one (gs_one (gs_refl _ _) _ _) _ _) _ _;go_wp2_with fail
   obtain ⟨Wz,hWz⟩:∃ W,((w9.setCell ⟨pz,0,none⟩ (.int .i64 now)).setCell ⟨pz,1,none⟩ (.slice (some ⟨gR,off,none⟩) n c3)).setCell ⟨pz,2,none⟩ (.slice (some ⟨g8,0,none⟩) (n2+1) cap8)=W:=⟨_,rfl⟩
   rw [hWz] at Zz hGz ⊢;clear hWz z0 z1 z2 f0 f1 f2;obtain ⟨z0,z1,z2⟩:=r3_cells Zz;have hgT:¬T g8:=fun q=>by
    rcases hat8 with z | z
    ·exact HT.t g8 q (Or.inr z)
    ·have:=hTl g8 q;have:=B5.size;omega
   have hbd8:M1.Bd rs (ms ++ [⟨wh,tt,true,M1.l3v r.us,[]⟩]):=hbd.out.snoc _ (by rw [hl2.out];omega) hmB;have RM:∀ wz,Gs T Wz wz→IsRgs wz _ n c3 rs∧IsMls wz (some ⟨g8,0,none⟩) (n2+1) cap8 (ms ++ [⟨wh,tt,true,M1.l3v r.us,[]⟩]):=fun wz hz=>HT.mailed (gs_trans (gs_mono (gs_more hGw hGz k3) (fun k e=>Or.inl e)) (gs_mono hz (fun k e=>Or.inr e))) ⟨wh,tt,true,M1.l3v r.us,[]⟩ dv dn dc none 0 0 ((hvv.gs hGz (fun p e=>by (have hbb:=hd4 p e;omega))).gs hz (fun p e q=>by (have hbb:=hd4 p e;have:=hTl _ q;omega))) ((huu.gs hGz (fun p e=>by cases e)).gs hz (fun p e q=>by cases e)) (fun p e=>by have:=hGz.size;have:=hz.size;(have hbb:=hd4 p e;have:=B5.size;omega)) (fun p e=>by have:=hGz.size;have:=hz.size;cases e) (owns_gs (owns_gs own9 hGz (fun k e q=>hg8.2 ((ownB e).trans q))) hz (fun k e q=>hgT (by rw [ownB e];exact q)));refine bodyPost_ret (v:=.tuple #[.agg #[.int .i64 now,.slice (some ⟨gR,off,none⟩) n c3,.slice (some ⟨g8,0,none⟩) (n2+1) cap8],.int .i64 0]) (by simp [results,Tryz.results111,go_sem,z0,z1,z2]) rfl ?_;exact ⟨_,_,_,_,_,_,rs,_,0,rfl,RM,hbd8,gs_mono (gs_more hGw hGz k3) (fun k e=>Or.inr e)⟩
  ·go_simp
   refine hK.out _ _ (ask_step zH ((Below.refl _ _).alloc (Nat.le_refl _) _) (by omega) (by omega) (by omega)) (fun zH2=>?_);clear hK K zH;have zH:=zH2;clear zH2;(try simp only[pZ,zZ]);obtain ⟨_,_,dd3⟩:=r3_cells ((A0.below hb4').below ((Below.refl _ _).alloc (Nat.le_refl _) (.cells #[.int .i64 wh,.int .i64 tt,.bool true,.slice dv dn dc,.slice none 0 0] 62)));have dl5:=((A0.below hb4').below ((Below.refl _ _).alloc (Nat.le_refl _) (.cells #[.int .i64 wh,.int .i64 tt,.bool true,.slice dv dn dc,.slice none 0 0] 62))).lt;refine sZ 1 fun K hK=>?_;go_simp
   skip
   refine hK.out _ _ ?_ (fun zH2=>?_)
   ·exact zH
   clear hK K zH;have zH:=zH2;clear zH2;(try simp only[pZ,zZ]);clear dd3;have hA5:Below w4.heap.size w4 (w4.alloc (.cells #[.int .i64 wh,.int .i64 tt,.bool true,.slice dv dn dc,.slice none 0 0] 62)):=(Below.refl _ _).alloc (Nat.le_refl _) _;have E5:=r5_new w4 (.int .i64 wh) (.int .i64 tt) (.bool true) (.slice dv dn dc) (.slice none 0 0) 62;obtain ⟨w5,hw5⟩:∃ W,w4.alloc (.cells #[.int .i64 wh,.int .i64 tt,.bool true,.slice dv dn dc,.slice none 0 0] 62)=W:=⟨_,rfl⟩
   rw [hw5] at zH hA5 E5 ⊢;clear hw5;have hb5:=hb4'.trans (hA5.mono hb4'.size);have B5:=hA.trans (hb5.mono hA.size);have HW5:=HW.below B5;have hs5:=hA5.size;have own5:w5.ownsRow lo 62 5 (.slice a2 n2 c4) n2 ys:=by have:=HW5.own;rwa [hl2.out] at this
   refine sZ 17 fun K hK=>?_;refine step_appM rfl _ _ rfl lo a2 c4 n2 ys rfl own5 w4.heap.size 1 _ _ _ _ _ (one5M ⟨wh,tt,true,M1.l3v r.us,[]⟩ dv dn dc none 0 0) rfl E5 (by omega) (by omega) ?_;intro g8 cap8 w8 own8 hgrow8 hat8;have hs8:=hgrow8.size;have blk:∀ k,k<w5.heap.size→(w.heap.size≤k∨k=gR)→w8.heap[k]?=w5.heap[k]?:=fun k hk hh=>hgrow8.block k hk (fun e=>by have:=hgM k e.symm;omega);have cel:∀ k,k<w5.heap.size→(w.heap.size≤k∨k=gR)→∀ o,w8.cell? ⟨k,o,none⟩=w5.cell? ⟨k,o,none⟩:=fun k hk hh o=>World.cell?_of_block (w:=w5) (a:=⟨k,o,none⟩) (blk k hk hh);refine hK.out _ _ ⟨fun o=>(cel pa (by omega) (Or.inl k2) o).trans (zH.1 o),(cel pw (by omega) (Or.inl k1) 1).trans zH.2.1,fun o=>(cel gR (by omega) (Or.inr rfl) o).trans (zH.2.2 o)⟩ (fun zH2=>?_);clear hK K zH;have zH:=zH2;clear zH2;(try simp only[pZ,zZ]);have A8:=row_blockA (A0.below hb5) (blk pw (by omega) (Or.inl k1)) hs8;have Z8:=row_blockA (Z0.below hb5) (blk pz (by omega) (Or.inl k3)) hs8;obtain ⟨y0,y1,y2⟩:=r3_cells A8;obtain ⟨g0,g1,g2⟩:=r3_free A8;have yl:=A8.lt;refine uZ 18 ?_;simp only[pZ,zZ];refine sZ 19 fun K hK=>?_;go_simp
   skip
   refine hK.out _ _ ?_ (fun zH2=>?_)
   ·exact ⟨fun o=>(World.cell?_setCell_other _ _ _ _ (by intro q;injection q with q1 _ _;omega)).trans (zH.1 o),(World.cell?_setCell_other _ _ _ _ (by intro q;injection q with _ q2 _;omega)).trans zH.2.1,fun o=>(World.cell?_setCell_other _ _ _ _ (by intro q;injection q with q1 _ _;omega)).trans (zH.2.2 o)⟩
   clear hK K zH;have zH:=zH2;clear zH2;(try simp only[pZ,zZ]);refine dZ ?_;clear y0 y1 y2 g0 g1 g2 dd2 d0' d1' d2' x0 x1 x2 x3 x4;clear d0 d1 d2 e0 e1 e2 e3 e4 e5 e6 e7 e8 e9 e10 z0 z1 z2 f0 f1 f2 dl el zl;have A9:=r3_set2 A8 (.slice (some ⟨g8,0,none⟩) (n2+1) cap8);have Z9:=Z8.far (p:=⟨pw,2,none⟩) k4 (.slice (some ⟨g8,0,none⟩) (n2+1) cap8);have hg8:¬g8=pw∧¬g8=pz:=by
    refine ⟨fun e=>?_,fun e=>?_⟩
    ·rcases hat8 with q | q
     ·have:=(hgM _ q).1;omega
     ·omega
    ·rcases hat8 with q | q
     ·have:=(hgM _ q).1;omega
     ·omega
   have own9:=owns_gs own8 (gs_one (q:=pw) (gs_refl _ _) 2 (.slice (some ⟨g8,0,none⟩) (n2+1) cap8)) (fun k e q=>hg8.1 ((ownB e).trans q));have hG9:Gs (fun k=>k=pw∨(Value.slice a2 n2 c4).ownBlock=some k) w5 (w8.setCell ⟨pw,2,none⟩ (.slice (some ⟨g8,0,none⟩) (n2+1) cap8)):=gs_set (S:=fun k=>k=pw∨(Value.slice a2 n2 c4).ownBlock=some k) (gs_grown (gs_refl _ _) hgrow8 (fun k e=>Or.inl (Or.inr e))) ⟨pw,2,none⟩ (Or.inl (show pw=pw∨(Value.slice a2 n2 c4).ownBlock=some pw from Or.inl rfl)) _;have hGw:Gs (fun k=>(Value.slice a2 n2 c4).ownBlock=some k) w (w8.setCell ⟨pw,2,none⟩ (.slice (some ⟨g8,0,none⟩) (n2+1) cap8)):=gs_set (gs_grown (gs_below B5) hgrow8 (fun k e=>Or.inl e)) ⟨pw,2,none⟩ (Or.inr k1) _;have hs9:=hG9.size;obtain ⟨w9,hw9⟩:∃ W,w8.setCell ⟨pw,2,none⟩ (.slice (some ⟨g8,0,none⟩) (n2+1) cap8)=W:=⟨_,rfl⟩
   rw [hw9] at A9 Z9 own9 hG9 hGw hs9 ⊢;clear hw9;have hvv:=(hv4.below hA5).gs hG9 (fun p e q=>by (have hbb:=hd4 p e;rcases q with q | q <;> first | omega | (have:=(hgM _ q).1;omega)));have huu:=(noUpds0 _).gs hG9 (fun p e q=>by cases e);obtain ⟨d0,d1,d2⟩:=r3_cells A9;have dl:=RowAt.lt A9;obtain ⟨z0,z1,z2⟩:=r3_cells Z9;obtain ⟨f0,f1,f2⟩:=r3_free Z9;have zl:=RowAt.lt Z9;have Zz:=r3_set2 (r3_set1 (r3_set0 Z9 (.int .i64 now)) (.slice (some ⟨gR,off,none⟩) n c3)) (.slice (some ⟨g8,0,none⟩) (n2+1) cap8);have hGz:Gs (fun k=>k=pz) w9 (((w9.setCell ⟨pz,0,none⟩ (.int .i64 now)).setCell ⟨pz,1,none⟩ (.slice (some ⟨gR,off,none⟩) n c3)).setCell ⟨pz,2,none⟩ (.slice (some ⟨g8,0,none⟩) (n2+1) cap8)):=gs_one (gs_one (gs_one (gs_refl _ _) _ _) _ _) _ _;go_wp2_with fail
   obtain ⟨Wz,hWz⟩:∃ W,((w9.setCell ⟨pz,0,none⟩ (.int .i64 now)).setCell ⟨pz,1,none⟩ (.slice (some ⟨gR,off,none⟩) n c3)).setCell ⟨pz,2,none⟩ (.slice (some ⟨g8,0,none⟩) (n2+1) cap8)=W:=⟨_,rfl⟩
   rw [hWz] at Zz hGz ⊢;clear hWz z0 z1 z2 f0 f1 f2;obtain ⟨z0,z1,z2⟩:=r3_cells Zz;have hgT:¬T g8:=fun q=>by
    rcases hat8 with z | z
    ·exact HT.t g8 q (Or.inr z)
    ·have:=hTl g8 q;have:=B5.size;omega
   have hbd8:M1.Bd rs (ms ++ [⟨wh,tt,true,M1.l3v r.us,[]⟩]):=hbd.out.snoc _ (by rw [hl2.out];omega) hmB;have RM:∀ wz,Gs T Wz wz→IsRgs wz _ n c3 rs∧IsMls wz (some ⟨g8,0,none⟩) (n2+1) cap8 (ms ++ [⟨wh,tt,true,M1.l3v r.us,[]⟩]):=fun wz hz=>HT.mailed (gs_trans (gs_mono (gs_more hGw hGz k3) (fun k e=>Or.inl e)) (gs_mono hz (fun k e=>Or.inr e))) ⟨wh,tt,true,M1.l3v r.us,[]⟩ dv dn dc none 0 0 ((hvv.gs hGz (fun p e=>by (have hbb:=hd4 p e;omega))).gs hz (fun p e q=>by (have hbb:=hd4 p e;have:=hTl _ q;omega))) ((huu.gs hGz (fun p e=>by cases e)).gs hz (fun p e q=>by cases e)) (fun p e=>by have:=hGz.size;have:=hz.size;(have hbb:=hd4 p e;have:=B5.size;omega)) (fun p e=>by have:=hGz.size;have:=hz.size;cases e) (owns_gs (owns_gs own9 hGz (fun k e q=>hg8.2 ((ownB e).trans q))) hz (fun k e q=>hgT (by rw [ownB e];exact q)));refine bodyPost_ret (v:=.tuple #[.agg #[.int .i64 now,.slice (some ⟨gR,off,none⟩) n c3,.slice (some ⟨g8,0,none⟩) (n2+1) cap8],.int .i64 0]) (by simp [results,Tryz.results111,go_sem,z0,z1,z2]) rfl ?_;exact ⟨_,_,_,_,_,_,rs,_,0,rfl,RM,hbd8,gs_mono (gs_more hGw hGz k3) (fun k e=>Or.inr e)⟩
end Go.Proofs.YtgcinolbkllkkaaGreat
