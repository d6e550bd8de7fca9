/-
  Texts of one proof, joined: Cv4k1.
-/
import Derived.Test.YtgcinolbkllkkaaGreatZFConverged27
set_option linter.unusedSimpArgs false
set_option linter.unusedVariables false
namespace Go.Proofs.YtgcinolbkllkkaaGreat
open Go.ChangeShapes Go.WideShapes Go.ChangeAt Go.RowKit
attribute [local go_sem high] eqOp0
set_option maxHeartbeats 64000000 in
set_option maxRecDepth 100000 in
theorem l6Act_1 (now:Int)(a:Option Addr)(n c3:Nat)(a2:Option Addr)(n2 c4:Nat)(xs ys:List Value)(rs:List M1.Rg)(ms:List M1.Ml)(lo:Nat)(kd wh tt ta:Int)(x:M1.OpV)(w:World){T:Nat→Prop}(HT:WT w lo (.slice a n c3) (.slice a2 n2 c4) xs ys rs ms T)(hTl:∀ k,T k→k<w.heap.size)(hlo:lo≤w.heap.size)(hxs:x.s.size≤maxLen)(hwk:Hid (M1.wOk now rs ms=true))(hk:Hid (kd=1)) :
  Calls Tryz.prog 111 #[.agg #[.int .i64 now,.slice a n c3,.slice a2 n2 c4],.agg #[.int .i64 kd,.int .i64 wh,.int .i64 tt,.int .i64 ta,.int .i64 x.k,.int .i64 x.t,.int .i64 x.id,.int .i64 x.pa,.string x.s,.int .i64 x.st,.int .i64 x.en]] w fun e w'=>WA w w' (OB (.slice a n c3) (.slice a2 n2 c4)) T e now:=by
 have HW:=HT.c;have hrg:=HW.rgs;have hmg:=HW.mls;have hm1:=hrg.hcap;have hm2:=hrg.hmost;have hm3:=hmg.hcap;have hm4:=hmg.hmost;unfold maxLen at hm2 hm4;have hl1:Hid (rs.length=n):=hrg.hlen;have hl2:Hid (ms.length=n2):=hmg.hlen;obtain ⟨_,hn2',hn5',hn40',hok0,hml0,_,hbd0⟩:=M1.wOk_has hwk.out;have hok:Hid (∀ i,i<n→M1.rOk (M1.rgA rs i)=true):=fun i hi=>hok0 i (by rw [hl1.out];exact hi);have hml:Hid (∀ i,i<n2→1≤(M1.mlA ms i).tt∧(M1.mlA ms i).tt≤(n:Int)∧M1.vecOk (M1.mlA ms i).vec=true∧(M1.mlA ms i).del.length≤3):=fun i hi=>by
  have:=hml0 i (by rw [hl2.out];exact hi);rw [hl1.out] at this;exact this
 have hbd:Hid (M1.Bd rs ms):=hbd0;have hn2:2≤n:=by have:=hl1.out;omega
 have hn5:n≤5:=by have:=hl1.out;omega
 have hn40:n2≤40:=by have:=hl2.out;omega
 clear hn2' hn5' hn40' hok0 hml0 hbd0;have hA:Below w.heap.size w (((w.alloc (.cells #[.int .i64 now,.slice a n c3,.slice a2 n2 c4] 27)).alloc (.cells #[.int .i64 kd,.int .i64 wh,.int .i64 tt,.int .i64 ta,.int .i64 x.k,.int .i64 x.t,.int .i64 x.id,.int .i64 x.pa,.string x.s,.int .i64 x.st,.int .i64 x.en] 112)).alloc (.cells #[.int .i64 0,.slice none 0 0,.slice none 0 0] 27)):=(((Below.refl _ _).alloc (Nat.le_refl _) _).alloc (by simp) _).alloc (by simp <;> omega) _;have A0:R3 (((w.alloc (.cells #[.int .i64 now,.slice a n c3,.slice a2 n2 c4] 27)).alloc (.cells #[.int .i64 kd,.int .i64 wh,.int .i64 tt,.int .i64 ta,.int .i64 x.k,.int .i64 x.t,.int .i64 x.id,.int .i64 x.pa,.string x.s,.int .i64 x.st,.int .i64 x.en] 112)).alloc (.cells #[.int .i64 0,.slice none 0 0,.slice none 0 0] 27)) w.heap.size (.int .i64 now) (.slice a n c3) (.slice a2 n2 c4):=((r3_new w (.int .i64 now) (.slice a n c3) (.slice a2 n2 c4) 27).alloc _).alloc _;have C0:R11 (((w.alloc (.cells #[.int .i64 now,.slice a n c3,.slice a2 n2 c4] 27)).alloc (.cells #[.int .i64 kd,.int .i64 wh,.int .i64 tt,.int .i64 ta,.int .i64 x.k,.int .i64 x.t,.int .i64 x.id,.int .i64 x.pa,.string x.s,.int .i64 x.st,.int .i64 x.en] 112)).alloc (.cells #[.int .i64 0,.slice none 0 0,.slice none 0 0] 27)) (w.alloc (.cells #[.int .i64 now,.slice a n c3,.slice a2 n2 c4] 27)).heap.size kd wh tt ta x:=(r11_new (w.alloc (.cells #[.int .i64 now,.slice a n c3,.slice a2 n2 c4] 27)) kd wh tt ta x 112).alloc _;have Z0:R3 (((w.alloc (.cells #[.int .i64 now,.slice a n c3,.slice a2 n2 c4] 27)).alloc (.cells #[.int .i64 kd,.int .i64 wh,.int .i64 tt,.int .i64 ta,.int .i64 x.k,.int .i64 x.t,.int .i64 x.id,.int .i64 x.pa,.string x.s,.int .i64 x.st,.int .i64 x.en] 112)).alloc (.cells #[.int .i64 0,.slice none 0 0,.slice none 0 0] 27)) ((w.alloc (.cells #[.int .i64 now,.slice a n c3,.slice a2 n2 c4] 27)).alloc (.cells #[.int .i64 kd,.int .i64 wh,.int .i64 tt,.int .i64 ta,.int .i64 x.k,.int .i64 x.t,.int .i64 x.id,.int .i64 x.pa,.string x.s,.int .i64 x.st,.int .i64 x.en] 112)).heap.size (.int .i64 0) (.slice none 0 0) (.slice none 0 0):=r3_new ((w.alloc (.cells #[.int .i64 now,.slice a n c3,.slice a2 n2 c4] 27)).alloc (.cells #[.int .i64 kd,.int .i64 wh,.int .i64 tt,.int .i64 ta,.int .i64 x.k,.int .i64 x.t,.int .i64 x.id,.int .i64 x.pa,.string x.s,.int .i64 x.st,.int .i64 x.en] 112)) (.int .i64 0) (.slice none 0 0) (.slice none 0 0) 27;rw [show (w.alloc (.cells #[.int .i64 now,.slice a n c3,.slice a2 n2 c4] 27)).heap.size=w.heap.size+1 by simp] at C0;rw [show ((w.alloc (.cells #[.int .i64 now,.slice a n c3,.slice a2 n2 c4] 27)).alloc (.cells #[.int .i64 kd,.int .i64 wh,.int .i64 tt,.int .i64 ta,.int .i64 x.k,.int .i64 x.t,.int .i64 x.id,.int .i64 x.pa,.string x.s,.int .i64 x.st,.int .i64 x.en] 112)).heap.size=w.heap.size+1+1 by simp] at Z0;go_enter Tryz.func111,Tryz.ntmps111
 go_upto_region 1 with fail
 obtain ⟨w1,hw1⟩:∃ W,(((w.alloc (.cells #[.int .i64 now,.slice a n c3,.slice a2 n2 c4] 27)).alloc (.cells #[.int .i64 kd,.int .i64 wh,.int .i64 tt,.int .i64 ta,.int .i64 x.k,.int .i64 x.t,.int .i64 x.id,.int .i64 x.pa,.string x.s,.int .i64 x.st,.int .i64 x.en] 112)).alloc (.cells #[.int .i64 0,.slice none 0 0,.slice none 0 0] 27))=W:=⟨_,rfl⟩
 rw [hw1] at hA A0 C0 Z0 ⊢;clear hw1;obtain ⟨pz,hpz⟩:∃ z,Hid (w.heap.size+1+1=z):=⟨_,rfl⟩
 obtain ⟨pa,hpa⟩:∃ z,Hid (w.heap.size+1=z):=⟨_,rfl⟩
 obtain ⟨pw,hpw⟩:∃ z,Hid (w.heap.size=z):=⟨_,rfl⟩
 rw [hpz.out] at Z0 ⊢;rw [hpa.out] at C0 ⊢;rw [hpw.out] at A0 ⊢;have k1:w.heap.size≤pw:=by have:=hpw.out;omega
 have k2:w.heap.size≤pa:=by have:=hpa.out;omega
 have k3:w.heap.size≤pz:=by have:=hpz.out;omega
 have k4:¬pw=pz:=by have:=hpw.out;have:=hpz.out;omega
 have k5:¬pa=pz:=by have:=hpa.out;have:=hpz.out;omega
 have k6:¬pw=pa:=by have:=hpw.out;have:=hpa.out;omega
 have HW1:=HW.below hA;have hs1:=hA.size;have kz:pz<w1.heap.size:=Z0.lt;have kpw:pw<w1.heap.size:=A0.lt;have kpa:pa<w1.heap.size:=C0.lt;obtain ⟨d0,d1,d2⟩:=r3_cells A0;obtain ⟨e0,e1,e2,e3,e4,e5,e6,e7,e8,e9,e10⟩:=r11_cells C0;obtain ⟨z0,z1,z2⟩:=r3_cells Z0;obtain ⟨f0,f1,f2⟩:=r3_free Z0;have dl:=A0.lt;have el:=C0.lt;have zl:=Z0.lt;obtain ⟨qo,hqo⟩:∃ q,Hid (opq x ⟨0,0,0,0,⟨#[]⟩,0,0⟩=q):=⟨_,rfl⟩
 go_upto_region 3 with fail
 rw [hqo.out];have n1':(kd==1)=true:=by have:=hk.out;simp [this]
 have n2':(kd==2)=false:=by have:=hk.out;simp [this]
 have n3':(kd==3)=false:=by have:=hk.out;simp [this]
 have n4':(kd==4)=false:=by have:=hk.out;simp [this]
 have n5':(kd==5)=false:=by have:=hk.out;simp [this]
 obtain ⟨q1,hq1⟩:∃ q,Hid (M1.inB wh 1 n=q):=⟨_,rfl⟩
 go_wp2_with fail
 refine (l1In_any _ _ _ _).mono ?_;rw [hq1.out];rintro e wa ⟨rfl,hwa⟩;obtain rfl:=hwa.symm
 cases q1 with
 | false =>
  have Z9:=r3_set2 (r3_set1 (r3_set0 Z0 (.int .i64 now)) (.slice a n c3)) (.slice a2 n2 c4);have B9:=((hA.setCell (p:=⟨pz,0,none⟩) k3 (.int .i64 now)).setCell (p:=⟨pz,1,none⟩) k3 (.slice a n c3)).setCell (p:=⟨pz,2,none⟩) k3 (.slice a2 n2 c4);have HW9:=HW.below B9;go_wp2_with fail
  obtain ⟨Wz,hWz⟩:∃ W,((w1.setCell ⟨pz,0,none⟩ (.int .i64 now)).setCell ⟨pz,1,none⟩ (.slice a n c3)).setCell ⟨pz,2,none⟩ (.slice a2 n2 c4)=W:=⟨_,rfl⟩
  rw [hWz] at Z9 HW9 B9 ⊢;clear hWz z0 z1 z2 f0 f1 f2;obtain ⟨z0,z1,z2⟩:=r3_cells Z9;refine bodyPost_ret (v:=.tuple #[.agg #[.int .i64 now,.slice a n c3,.slice a2 n2 c4],.int .i64 2]) (by simp [results,Tryz.results111,go_sem,z0,z1,z2]) rfl ?_;exact ⟨_,_,_,_,_,_,rs,ms,2,rfl,fun wz hz=>HT.still (gs_trans (gs_below B9) hz),hbd.out,gs_below B9⟩
 | true =>
 by_cases ht0:tt=0
 case neg =>
  have bt:(tt != 0)=true:=by simp [ht0]
  clear ht0;have Z9:=r3_set2 (r3_set1 (r3_set0 Z0 (.int .i64 now)) (.slice a n c3)) (.slice a2 n2 c4);have B9:=((hA.setCell (p:=⟨pz,0,none⟩) k3 (.int .i64 now)).setCell (p:=⟨pz,1,none⟩) k3 (.slice a n c3)).setCell (p:=⟨pz,2,none⟩) k3 (.slice a2 n2 c4);have HW9:=HW.below B9;go_wp2_with fail
  obtain ⟨Wz,hWz⟩:∃ W,((w1.setCell ⟨pz,0,none⟩ (.int .i64 now)).setCell ⟨pz,1,none⟩ (.slice a n c3)).setCell ⟨pz,2,none⟩ (.slice a2 n2 c4)=W:=⟨_,rfl⟩
  rw [hWz] at Z9 HW9 B9 ⊢;clear hWz z0 z1 z2 f0 f1 f2;obtain ⟨z0,z1,z2⟩:=r3_cells Z9;refine bodyPost_ret (v:=.tuple #[.agg #[.int .i64 now,.slice a n c3,.slice a2 n2 c4],.int .i64 2]) (by simp [results,Tryz.results111,go_sem,z0,z1,z2]) rfl ?_;exact ⟨_,_,_,_,_,_,rs,ms,2,rfl,fun wz hz=>HT.still (gs_trans (gs_below B9) hz),hbd.out,gs_below B9⟩
 have bt:(tt != 0)=false:=by simp [ht0]
 clear ht0;by_cases ha0:ta=0
 case neg =>
  have ba:(ta != 0)=true:=by simp [ha0]
  clear ha0;have Z9:=r3_set2 (r3_set1 (r3_set0 Z0 (.int .i64 now)) (.slice a n c3)) (.slice a2 n2 c4);have B9:=((hA.setCell (p:=⟨pz,0,none⟩) k3 (.int .i64 now)).setCell (p:=⟨pz,1,none⟩) k3 (.slice a n c3)).setCell (p:=⟨pz,2,none⟩) k3 (.slice a2 n2 c4);have HW9:=HW.below B9;go_wp2_with fail
  obtain ⟨Wz,hWz⟩:∃ W,((w1.setCell ⟨pz,0,none⟩ (.int .i64 now)).setCell ⟨pz,1,none⟩ (.slice a n c3)).setCell ⟨pz,2,none⟩ (.slice a2 n2 c4)=W:=⟨_,rfl⟩
  rw [hWz] at Z9 HW9 B9 ⊢;clear hWz z0 z1 z2 f0 f1 f2;obtain ⟨z0,z1,z2⟩:=r3_cells Z9;refine bodyPost_ret (v:=.tuple #[.agg #[.int .i64 now,.slice a n c3,.slice a2 n2 c4],.int .i64 2]) (by simp [results,Tryz.results111,go_sem,z0,z1,z2]) rfl ?_;exact ⟨_,_,_,_,_,_,rs,ms,2,rfl,fun wz hz=>HT.still (gs_trans (gs_below B9) hz),hbd.out,gs_below B9⟩
 have ba:(ta != 0)=false:=by simp [ha0]
 clear ha0;have hwh:=M1.inB_true hq1.out;have j0:(0:Int)≤wh-1:=by omega
 have j1:wh-1<(n:Int):=by omega
 rcases hrg.hlies with h0 | ⟨gR,off,rfl,hgl,_⟩
 ·omega
 rcases HW1.rgs.hlies with h0 | ⟨gR',off',e',hgl1,hc'⟩
 ·omega
 injection e' with e';injection e' with e1' e2' _;subst e1' e2';obtain ⟨v7,n7,c7,x0,x1,x2,x3,x4,hus⟩:=hc' (wh.toNat-1) (by omega);clear hc';have hrO:Hid (M1.rOk (M1.rgA rs (wh.toNat-1))=true):=hok.out _ (by omega);obtain ⟨r,hr⟩:∃ r,Hid (M1.rgA rs (wh.toNat-1)=r):=⟨_,rfl⟩
 rw [hr.out] at x0 x1 x2 x3 hus hrO;go_upto_region 7 with fail
 go_cut [8,9,10] (fun v8 v9 v10 wc=>∃ (q8 q9:Nat) (r2:M1.Rg) (rv:Option Addr) (rc:Nat) (code:Int),v8=.pointer (some ⟨q8,0,none⟩)∧v9=.pointer (some ⟨q9,0,none⟩)∧v10=.int .i64 code∧R5 wc q8 (.int .i64 r2.id) (.int .i64 r2.a) (.int .i64 r2.b) (.int .i64 r2.c) (.slice rv r2.us.length rc)∧IsUpds wc rv r2.us.length rc r2.us∧(∀ p,rv=some p→w1.heap.size≤p.block∧p.block<wc.heap.size)∧r2.us.length≤60∧Below w1.heap.size w1 wc)
 case first =>
  refine wp_region_held_drew (S:=fun w'=>Kp w1 w') (by kernel_rfl) ?_ (fun zH=>?_)
  ·exact kp_zero _
  refine uZ 0 ?_;simp only[pZ,zZ];refine uZ 1 ?_;simp only[pZ,zZ];refine uZ 2 ?_;simp only[pZ,zZ];refine uZ 3 ?_;simp only[pZ,zZ];refine tZ (i:=4) (v:=.int .i64 (wh-1)) rfl (.inl ⟨by rfl,?_⟩) zH ?_
  ·(intro w hSw;(try dsimp only at hSw);go_simp;(try exact IntWalk.i64_in _ (by omega)))
  (try simp only[pZ,zZ]);refine uZ 5 ?_;simp only[pZ,zZ];refine uZ 6 ?_;simp only[pZ,zZ];refine uZ 7 ?_;simp only[pZ,zZ];refine uZ 8 ?_;simp only[pZ,zZ];refine uZ 9 ?_;simp only[pZ,zZ];refine uZ 10 ?_;simp only[pZ,zZ];obtain ⟨v0,hv0⟩:∃ W,w1.drew=W:=⟨_,rfl⟩
  have hb0:Below w1.heap.size w1 w1.drew:=(Below.refl _ _).drew;rw [hv0] at zH hb0 ⊢;clear hv0;refine rZ [11,16,17] (.cons rfl (fun K hK=>?_) (.cons rfl (fun K hK=>?_) (.cons rfl (fun K hK=>?_) .nil)))
  ·go_simp
   refine (l5Issued_any r x now _ _ _ _ (hus.below hb0) hxs hrO).mono ?_;rintro e v1 ⟨⟨v,rfl,⟨rv,rc,rfl,mu⟩⟩,hc1⟩;go_wp2_with fail
   refine hK.out _ _ (kp_step zH hc1) (fun zH2=>?_);clear hK K zH;have zH:=zH2;clear zH2;(try simp only[pZ,zZ]);obtain ⟨r2,hr2⟩:∃ q,Hid (M1.isR r x now=q):=⟨_,rfl⟩
   obtain ⟨u,hu⟩:∃ q,Hid (M1.isU r x now=q):=⟨_,rfl⟩
   obtain ⟨code,hcode⟩:∃ q,Hid (M1.isC r x now=q):=⟨_,rfl⟩
   have hset:Hid (M1.setOk r2.us=true):=(by rw [←hr2.out];exact M1.is_setA r x now:_=_)
   rw [hr2.out] at mu ⊢;rw [hu.out,hcode.out];have hU:IsUpds v1 rv r2.us.length rc r2.us:=mu.upds rfl (short_s hset.out);have hrv:∀ p,rv=some p→v0.heap.size≤p.block∧p.block<v1.heap.size:=fun p e=>by
    rcases mu.2.2 with ⟨_,q⟩ | ⟨k,q,h1,h2,_⟩
    ·rw [e] at q;cases q
    ·rw [e] at q;cases q;exact ⟨h1,h2⟩
   clear mu;have hb1:=hb0.trans (hc1.mono hb0.size);have hs2:=hc1.size;refine uZ 12 ?_;simp only[pZ,zZ];refine uZ 13 ?_;simp only[pZ,zZ];refine uZ 14 ?_;simp only[pZ,zZ];refine uZ 15 ?_;simp only[pZ,zZ];refine rZ [16,17] (.cons rfl (fun K hK=>?_) (.cons rfl (fun K hK=>?_) .nil))
   ·go_simp
    refine hK.out _ _ (kp_alloc zH _) (fun zH2=>?_);clear hK K zH;have zH:=zH2;clear zH2;(try simp only[pZ,zZ]);have hc2:Below v1.heap.size v1 (v1.alloc (.cells #[.int .i64 0,.int .i64 0,.int .i64 0,.int .i64 0,.slice none 0 0] 34)):=(Below.refl _ _).alloc (Nat.le_refl _) _;have Q8:=r5_new v1 (.int .i64 0) (.int .i64 0) (.int .i64 0) (.int .i64 0) (.slice none 0 0) 34;have hz8:v1.heap.size<(v1.alloc (.cells #[.int .i64 0,.int .i64 0,.int .i64 0,.int .i64 0,.slice none 0 0] 34)).heap.size:=by simp
    obtain ⟨v2,hw⟩:∃ W,v1.alloc (.cells #[.int .i64 0,.int .i64 0,.int .i64 0,.int .i64 0,.slice none 0 0] 34)=W:=⟨_,rfl⟩
    rw [hw] at hc2 Q8 hz8 zH ⊢;clear hw;obtain ⟨q8,hq8⟩:∃ z,Hid (v1.heap.size=z):=⟨_,rfl⟩
    rw [hq8.out] at Q8 ⊢;have hb2:=hb1.trans (hc2.mono hb1.size);have hs3:=hc2.size;replace hU:=hU.below hc2;refine sZ 17 fun K hK=>?_
    ·go_simp
     refine hK.out _ _ (kp_alloc zH _) (fun zH2=>?_);clear hK K zH;have zH:=zH2;clear zH2;(try simp only[pZ,zZ]);have hc3:Below v2.heap.size v2 (v2.alloc (.cells #[.int .i64 0,.int .i64 0,.int .i64 0,.int .i64 0,.int .i64 0,.int .i64 0,.int .i64 0,.int .i64 0,.int .i64 0,.string ⟨#[]⟩,.int .i64 0,.int .i64 0,.int .i64 0] 72)):=(Below.refl _ _).alloc (Nat.le_refl _) _;have Q9:=RowAt.new v2 #[.int .i64 0,.int .i64 0,.int .i64 0,.int .i64 0,.int .i64 0,.int .i64 0,.int .i64 0,.int .i64 0,.int .i64 0,.string ⟨#[]⟩,.int .i64 0,.int .i64 0,.int .i64 0] 72;have hz9:v2.heap.size<(v2.alloc (.cells #[.int .i64 0,.int .i64 0,.int .i64 0,.int .i64 0,.int .i64 0,.int .i64 0,.int .i64 0,.int .i64 0,.int .i64 0,.string ⟨#[]⟩,.int .i64 0,.int .i64 0,.int .i64 0] 72)).heap.size:=by simp
     obtain ⟨v3,hw⟩:∃ W,v2.alloc (.cells #[.int .i64 0,.int .i64 0,.int .i64 0,.int .i64 0,.int .i64 0,.int .i64 0,.int .i64 0,.int .i64 0,.int .i64 0,.string ⟨#[]⟩,.int .i64 0,.int .i64 0,.int .i64 0] 72)=W:=⟨_,rfl⟩
     rw [hw] at hc3 Q9 hz9 zH ⊢;clear hw;obtain ⟨q9,hq9⟩:∃ z,Hid (v2.heap.size=z):=⟨_,rfl⟩
     rw [hq9.out] at Q9 ⊢;have hb3:=hb2.trans (hc3.mono hb2.size);have hs4:=hc3.size;replace hU:=hU.below hc3;replace Q8:=RowAt.below Q8 hc3;have hq89:¬q8=q9:=by have:=hq8.out;have:=hq9.out;omega
     have hrv8:∀ p,rv=some p→¬p.block=q8:=fun p e=>by have:=hrv p e;have:=hq8.out;omega
     have hrv9:∀ p,rv=some p→¬p.block=q9:=fun p e=>by have:=hrv p e;have:=hq9.out;omega
     have hl8:w1.heap.size≤q8:=by have:=hq8.out;have:=hb0.size;omega
     have hl9:w1.heap.size≤q9:=by have:=hq9.out;have:=hb0.size;omega
     obtain ⟨a0,a1,a2',a3,a4⟩:=r5_cells Q8;obtain ⟨b0,b1,b2,b3,b4⟩:=r5_free Q8;have ql8:=Q8.lt;have P8:=r5_set4 (r5_set3 (r5_set2 (r5_set1 (r5_set0 Q8 (.int .i64 r2.id)) (.int .i64 r2.a)) (.int .i64 r2.b)) (.int .i64 r2.c)) (.slice rv r2.us.length rc);have hG8:Gs (fun k=>k=q8) v3 (((((v3.setCell ⟨q8,0,none⟩ (.int .i64 r2.id)).setCell ⟨q8,1,none⟩ (.int .i64 r2.a)).setCell ⟨q8,2,none⟩ (.int .i64 r2.b)).setCell ⟨q8,3,none⟩ (.int .i64 r2.c)).setCell ⟨q8,4,none⟩ (.slice rv r2.us.length rc)):=gs_one (gs_one (gs_one (gs_one (gs_one (gs_refl _ _) _ _) _ _) _ _) _ _) _ _;have hB8:=hb3.trans (gs_to hG8 (Nat.le_trans hb3.size (Nat.le_refl _)) (fun k e=>by omega));refine sZ 18 fun K hK=>?_;go_simp
     skip
     refine hK.out _ _ ?_ (fun zH2=>?_)
     ·exact kp_of hB8
     clear hK K zH;have zH:=zH2;clear zH2;(try simp only[pZ,zZ]);obtain ⟨wx,hwx⟩:∃ W,((((v3.setCell ⟨q8,0,none⟩ (.int .i64 r2.id)).setCell ⟨q8,1,none⟩ (.int .i64 r2.a)).setCell ⟨q8,2,none⟩ (.int .i64 r2.b)).setCell ⟨q8,3,none⟩ (.int .i64 r2.c)).setCell ⟨q8,4,none⟩ (.slice rv r2.us.length rc)=W:=⟨_,rfl⟩
     rw [hwx] at P8 hG8 hB8 zH ⊢;clear hwx a0 a1 a2' a3 a4 b0 b1 b2 b3 b4;have U8:=hU.gs hG8 hrv8;have P9:=Q9.gs hG8 (fun e=>hq89 e.symm);have hsx:=hG8.size;have ql9:=P9.lt;have g0:=P9.cell (o:=0) (by decide);have g1:=P9.cell (o:=1) (by decide);have g2:=P9.cell (o:=2) (by decide);have g3:=P9.cell (o:=3) (by decide);have g4:=P9.cell (o:=4) (by decide);have g5:=P9.cell (o:=5) (by decide);have g6:=P9.cell (o:=6) (by decide);have g7:=P9.cell (o:=7) (by decide);have g8:=P9.cell (o:=8) (by decide);have g9:=P9.cell (o:=9) (by decide);have g10:=P9.cell (o:=10) (by decide);have g11:=P9.cell (o:=11) (by decide);have g12:=P9.cell (o:=12) (by decide);have y0:=P9.free (o:=0) (by decide);have y1:=P9.free (o:=1) (by decide);have y2:=P9.free (o:=2) (by decide);have y3:=P9.free (o:=3) (by decide);have y4:=P9.free (o:=4) (by decide);have y5:=P9.free (o:=5) (by decide);have y6:=P9.free (o:=6) (by decide);have y7:=P9.free (o:=7) (by decide);have y8:=P9.free (o:=8) (by decide);have y9:=P9.free (o:=9) (by decide);have y10:=P9.free (o:=10) (by decide);have y11:=P9.free (o:=11) (by decide);have y12:=P9.free (o:=12) (by decide);simp at g0 g1 g2 g3 g4 g5 g6 g7 g8 g9 g10 g11 g12
     have hG9:Gs (fun k=>k=q9) wx (((((((((((((wx.setCell ⟨q9,0,none⟩ (.int .i64 u.dr)).setCell ⟨q9,1,none⟩ (.int .i64 u.dn)).setCell ⟨q9,2,none⟩ (.int .i64 u.sw)).setCell ⟨q9,3,none⟩ (.int .i64 u.sc)).setCell ⟨q9,4,none⟩ (.int .i64 u.sr)).setCell ⟨q9,5,none⟩ (.int .i64 u.k)).setCell ⟨q9,6,none⟩ (.int .i64 u.tr)).setCell ⟨q9,7,none⟩ (.int .i64 u.id)).setCell ⟨q9,8,none⟩ (.int .i64 u.pa)).setCell ⟨q9,9,none⟩ (.string u.s)).setCell ⟨q9,10,none⟩ (.int .i64 u.st)).setCell ⟨q9,11,none⟩ (.int .i64 u.en)).setCell ⟨q9,12,none⟩ (.int .i64 u.lv)):=gs_one (gs_one (gs_one (gs_one (gs_one (gs_one (gs_one (gs_one (gs_one (gs_one (gs_one (gs_one (gs_one (gs_refl _ _) _ _) _ _) _ _) _ _) _ _) _ _) _ _) _ _) _ _) _ _) _ _) _ _) _ _;have hB9:=hB8.trans (gs_to hG9 hB8.size (fun k e=>by omega));refine sZ 19 fun K hK=>?_;go_simp
     skip
     refine hK.out _ _ ?_ (fun zH2=>?_)
     ·exact kp_of hB9
     clear hK K zH;have zH:=zH2;clear zH2;(try simp only[pZ,zZ]);obtain ⟨wy,hwy⟩:∃ W,(((((((((((((wx.setCell ⟨q9,0,none⟩ (.int .i64 u.dr)).setCell ⟨q9,1,none⟩ (.int .i64 u.dn)).setCell ⟨q9,2,none⟩ (.int .i64 u.sw)).setCell ⟨q9,3,none⟩ (.int .i64 u.sc)).setCell ⟨q9,4,none⟩ (.int .i64 u.sr)).setCell ⟨q9,5,none⟩ (.int .i64 u.k)).setCell ⟨q9,6,none⟩ (.int .i64 u.tr)).setCell ⟨q9,7,none⟩ (.int .i64 u.id)).setCell ⟨q9,8,none⟩ (.int .i64 u.pa)).setCell ⟨q9,9,none⟩ (.string u.s)).setCell ⟨q9,10,none⟩ (.int .i64 u.st)).setCell ⟨q9,11,none⟩ (.int .i64 u.en)).setCell ⟨q9,12,none⟩ (.int .i64 u.lv))=W:=⟨_,rfl⟩
     rw [hwy] at hG9 hB9 zH ⊢;clear hwy g0 g1 g2 g3 g4 g5 g6 g7 g8 g9 g10 g11 g12 y0 y1 y2 y3 y4 y5 y6 y7 y8 y9 y10 y11 y12;have U9:=U8.gs hG9 hrv9;have R9:=P8.gs hG9 hq89;have hsy:=hG9.size;refine uZ 20 ?_;simp only[pZ,zZ];refine dZ ?_;go_wp2_with fail
     go_meet
     exact ⟨q8,q9,r2,rv,rc,code,rfl,rfl,rfl,R9,U9,fun p e=>⟨by have:=(hrv p e).1;have:=hb0.size;omega,by have:=(hrv p e).2;omega⟩,M1.setOk_len hset.out,hB9⟩
   ·go_simp
    refine hK.out _ _ (kp_alloc zH _) (fun zH2=>?_);clear hK K zH;have zH:=zH2;clear zH2;(try simp only[pZ,zZ]);have hc2:Below v1.heap.size v1 (v1.alloc (.cells #[.int .i64 0,.int .i64 0,.int .i64 0,.int .i64 0,.int .i64 0,.int .i64 0,.int .i64 0,.int .i64 0,.int .i64 0,.string ⟨#[]⟩,.int .i64 0,.int .i64 0,.int .i64 0] 72)):=(Below.refl _ _).alloc (Nat.le_refl _) _;have Q9:=RowAt.new v1 #[.int .i64 0,.int .i64 0,.int .i64 0,.int .i64 0,.int .i64 0,.int .i64 0,.int .i64 0,.int .i64 0,.int .i64 0,.string ⟨#[]⟩,.int .i64 0,.int .i64 0,.int .i64 0] 72;have hz9:v1.heap.size<(v1.alloc (.cells #[.int .i64 0,.int .i64 0,.int .i64 0,.int .i64 0,.int .i64 0,.int .i64 0,.int .i64 0,.int .i64 0,.int .i64 0,.string ⟨#[]⟩,.int .i64 0,.int .i64 0,.int .i64 0] 72)).heap.size:=by simp
    obtain ⟨v2,hw⟩:∃ W,v1.alloc (.cells #[.int .i64 0,.int .i64 0,.int .i64 0,.int .i64 0,.int .i64 0,.int .i64 0,.int .i64 0,.int .i64 0,.int .i64 0,.string ⟨#[]⟩,.int .i64 0,.int .i64 0,.int .i64 0] 72)=W:=⟨_,rfl⟩
    rw [hw] at hc2 Q9 hz9 zH ⊢;clear hw;obtain ⟨q9,hq9⟩:∃ z,Hid (v1.heap.size=z):=⟨_,rfl⟩
    rw [hq9.out] at Q9 ⊢;have hb2:=hb1.trans (hc2.mono hb1.size);have hs3:=hc2.size;replace hU:=hU.below hc2;refine sZ 16 fun K hK=>?_
    ·go_simp
     refine hK.out _ _ (kp_alloc zH _) (fun zH2=>?_);clear hK K zH;have zH:=zH2;clear zH2;(try simp only[pZ,zZ]);have hc3:Below v2.heap.size v2 (v2.alloc (.cells #[.int .i64 0,.int .i64 0,.int .i64 0,.int .i64 0,.slice none 0 0] 34)):=(Below.refl _ _).alloc (Nat.le_refl _) _;have Q8:=r5_new v2 (.int .i64 0) (.int .i64 0) (.int .i64 0) (.int .i64 0) (.slice none 0 0) 34;have hz8:v2.heap.size<(v2.alloc (.cells #[.int .i64 0,.int .i64 0,.int .i64 0,.int .i64 0,.slice none 0 0] 34)).heap.size:=by simp
     obtain ⟨v3,hw⟩:∃ W,v2.alloc (.cells #[.int .i64 0,.int .i64 0,.int .i64 0,.int .i64 0,.slice none 0 0] 34)=W:=⟨_,rfl⟩
     rw [hw] at hc3 Q8 hz8 zH ⊢;clear hw;obtain ⟨q8,hq8⟩:∃ z,Hid (v2.heap.size=z):=⟨_,rfl⟩
     rw [hq8.out] at Q8 ⊢;have hb3:=hb2.trans (hc3.mono hb2.size);have hs4:=hc3.size;replace hU:=hU.below hc3;replace Q9:=RowAt.below Q9 hc3;have hq89:¬q8=q9:=by have:=hq8.out;have:=hq9.out;omega
     have hrv8:∀ p,rv=some p→¬p.block=q8:=fun p e=>by have:=hrv p e;have:=hq8.out;omega
     have hrv9:∀ p,rv=some p→¬p.block=q9:=fun p e=>by have:=hrv p e;have:=hq9.out;omega
     have hl8:w1.heap.size≤q8:=by have:=hq8.out;have:=hb0.size;omega
     have hl9:w1.heap.size≤q9:=by have:=hq9.out;have:=hb0.size;omega
     obtain ⟨a0,a1,a2',a3,a4⟩:=r5_cells Q8;obtain ⟨b0,b1,b2,b3,b4⟩:=r5_free Q8;have ql8:=Q8.lt;have P8:=r5_set4 (r5_set3 (r5_set2 (r5_set1 (r5_set0 Q8 (.int .i64 r2.id)) (.int .i64 r2.a)) (.int .i64 r2.b)) (.int .i64 r2.c)) (.slice rv r2.us.length rc);have hG8:Gs (fun k=>k=q8) v3 (((((v3.setCell ⟨q8,0,none⟩ (.int .i64 r2.id)).setCell ⟨q8,1,none⟩ (.int .i64 r2.a)).setCell ⟨q8,2,none⟩ (.int .i64 r2.b)).setCell ⟨q8,3,none⟩ (.int .i64 r2.c)).setCell ⟨q8,4,none⟩ (.slice rv r2.us.length rc)):=gs_one (gs_one (gs_one (gs_one (gs_one (gs_refl _ _) _ _) _ _) _ _) _ _) _ _;have hB8:=hb3.trans (gs_to hG8 (Nat.le_trans hb3.size (Nat.le_refl _)) (fun k e=>by omega));refine sZ 18 fun K hK=>?_;go_simp
     skip
     refine hK.out _ _ ?_ (fun zH2=>?_)
     ·exact kp_of hB8
     clear hK K zH;have zH:=zH2;clear zH2;(try simp only[pZ,zZ]);obtain ⟨wx,hwx⟩:∃ W,((((v3.setCell ⟨q8,0,none⟩ (.int .i64 r2.id)).setCell ⟨q8,1,none⟩ (.int .i64 r2.a)).setCell ⟨q8,2,none⟩ (.int .i64 r2.b)).setCell ⟨q8,3,none⟩ (.int .i64 r2.c)).setCell ⟨q8,4,none⟩ (.slice rv r2.us.length rc)=W:=⟨_,rfl⟩
     rw [hwx] at P8 hG8 hB8 zH ⊢;clear hwx a0 a1 a2' a3 a4 b0 b1 b2 b3 b4;have U8:=hU.gs hG8 hrv8;have P9:=Q9.gs hG8 (fun e=>hq89 e.symm);have hsx:=hG8.size;have ql9:=P9.lt;have g0:=P9.cell (o:=0) (by decide);have g1:=P9.cell (o:=1) (by decide);have g2:=P9.cell (o:=2) (by decide);have g3:=P9.cell (o:=3) (by decide);have g4:=P9.cell (o:=4) (by decide);have g5:=P9.cell (o:=5) (by decide);have g6:=P9.cell (o:=6) (by decide);have g7:=P9.cell (o:=7) (by decide);have g8:=P9.cell (o:=8) (by decide);have g9:=P9.cell (o:=9) (by decide);have g10:=P9.cell (o:=10) (by decide);have g11:=P9.cell (o:=11) (by decide);have g12:=P9.cell (o:=12) (by decide);have y0:=P9.free (o:=0) (by decide);have y1:=P9.free (o:=1) (by decide);have y2:=P9.free (o:=2) (by decide);have y3:=P9.free (o:=3) (by decide);have y4:=P9.free (o:=4) (by decide);have y5:=P9.free (o:=5) (by decide);have y6:=P9.free (o:=6) (by decide);have y7:=P9.free (o:=7) (by decide);have y8:=P9.free (o:=8) (by decide);have y9:=P9.free (o:=9) (by decide);have y10:=P9.free (o:=10) (by decide);have y11:=P9.free (o:=11) (by decide);have y12:=P9.free (o:=12) (by decide);simp at g0 g1 g2 g3 g4 g5 g6 g7 g8 g9 g10 g11 g12
     have hG9:Gs (fun k=>k=q9) wx (((((((((((((wx.setCell ⟨q9,0,none⟩ (.int .i64 u.dr)).setCell ⟨q9,1,none⟩ (.int .i64 u.dn)).setCell ⟨q9,2,none⟩ (.int .i64 u.sw)).setCell ⟨q9,3,none⟩ (.int .i64 u.sc)).setCell ⟨q9,4,none⟩ (.int .i64 u.sr)).setCell ⟨q9,5,none⟩ (.int .i64 u.k)).setCell ⟨q9,6,none⟩ (.int .i64 u.tr)).setCell ⟨q9,7,none⟩ (.int .i64 u.id)).setCell ⟨q9,8,none⟩ (.int .i64 u.pa)).setCell ⟨q9,9,none⟩ (.string u.s)).setCell ⟨q9,10,none⟩ (.int .i64 u.st)).setCell ⟨q9,11,none⟩ (.int .i64 u.en)).setCell ⟨q9,12,none⟩ (.int .i64 u.lv)):=gs_one (gs_one (gs_one (gs_one (gs_one (gs_one (gs_one (gs_one (gs_one (gs_one (gs_one (gs_one (gs_one (gs_refl _ _) _ _) _ _) _ _) _ _) _ _) _ _) _ _) _ _) _ _) _ _) _ _) _ _) _ _;have hB9:=hB8.trans (gs_to hG9 hB8.size (fun k e=>by omega));refine sZ 19 fun K hK=>?_;go_simp
     skip
     refine hK.out _ _ ?_ (fun zH2=>?_)
     ·exact kp_of hB9
     clear hK K zH;have zH:=zH2;clear zH2;(try simp only[pZ,zZ]);obtain ⟨wy,hwy⟩:∃ W,(((((((((((((wx.setCell ⟨q9,0,none⟩ (.int .i64 u.dr)).setCell ⟨q9,1,none⟩ (.int .i64 u.dn)).setCell ⟨q9,2,none⟩ (.int .i64 u.sw)).setCell ⟨q9,3,none⟩ (.int .i64 u.sc)).setCell ⟨q9,4,none⟩ (.int .i64 u.sr)).setCell ⟨q9,5,none⟩ (.int .i64 u.k)).setCell ⟨q9,6,none⟩ (.int .i64 u.tr)).setCell ⟨q9,7,none⟩ (.int .i64 u.id)).setCell ⟨q9,8,none⟩ (.int .i64 u.pa)).setCell ⟨q9,9,none⟩ (.string u.s)).setCell ⟨q9,10,none⟩ (.int .i64 u.st)).setCell ⟨q9,11,none⟩ (.int .i64 u.en)).setCell ⟨q9,12,none⟩ (.int .i64 u.lv))=W:=⟨_,rfl⟩
     rw [hwy] at hG9 hB9 zH ⊢;clear hwy g0 g1 g2 g3 g4 g5 g6 g7 g8 g9 g10 g11 g12 y0 y1 y2 y3 y4 y5 y6 y7 y8 y9 y10 y11 y12;have U9:=U8.gs hG9 hrv9;have R9:=P8.gs hG9 hq89;have hsy:=hG9.size;refine uZ 20 ?_;simp only[pZ,zZ];refine dZ ?_;go_wp2_with fail
     go_meet
     exact ⟨q8,q9,r2,rv,rc,code,rfl,rfl,rfl,R9,U9,fun p e=>⟨by have:=(hrv p e).1;have:=hb0.size;omega,by have:=(hrv p e).2;omega⟩,M1.setOk_len hset.out,hB9⟩
  ·go_simp
   refine hK.out _ _ (kp_alloc zH _) (fun zH2=>?_);clear hK K zH;have zH:=zH2;clear zH2;(try simp only[pZ,zZ]);have hc1:Below v0.heap.size v0 (v0.alloc (.cells #[.int .i64 0,.int .i64 0,.int .i64 0,.int .i64 0,.slice none 0 0] 34)):=(Below.refl _ _).alloc (Nat.le_refl _) _;have Q8:=r5_new v0 (.int .i64 0) (.int .i64 0) (.int .i64 0) (.int .i64 0) (.slice none 0 0) 34;have hz8:v0.heap.size<(v0.alloc (.cells #[.int .i64 0,.int .i64 0,.int .i64 0,.int .i64 0,.slice none 0 0] 34)).heap.size:=by simp
   obtain ⟨v1,hw⟩:∃ W,v0.alloc (.cells #[.int .i64 0,.int .i64 0,.int .i64 0,.int .i64 0,.slice none 0 0] 34)=W:=⟨_,rfl⟩
   rw [hw] at hc1 Q8 hz8 zH ⊢;clear hw;obtain ⟨q8,hq8⟩:∃ z,Hid (v0.heap.size=z):=⟨_,rfl⟩
   rw [hq8.out] at Q8 ⊢;have hb1:=hb0.trans (hc1.mono hb0.size);have hs2:=hc1.size;refine rZ [11,17] (.cons rfl (fun K hK=>?_) (.cons rfl (fun K hK=>?_) .nil))
   ·go_simp
    refine (l5Issued_any r x now _ _ _ _ (hus.below hb1) hxs hrO).mono ?_;rintro e v2 ⟨⟨v,rfl,⟨rv,rc,rfl,mu⟩⟩,hc2⟩;go_wp2_with fail
    refine hK.out _ _ (kp_step zH hc2) (fun zH2=>?_);clear hK K zH;have zH:=zH2;clear zH2;(try simp only[pZ,zZ]);obtain ⟨r2,hr2⟩:∃ q,Hid (M1.isR r x now=q):=⟨_,rfl⟩
    obtain ⟨u,hu⟩:∃ q,Hid (M1.isU r x now=q):=⟨_,rfl⟩
    obtain ⟨code,hcode⟩:∃ q,Hid (M1.isC r x now=q):=⟨_,rfl⟩
    have hset:Hid (M1.setOk r2.us=true):=(by rw [←hr2.out];exact M1.is_setA r x now:_=_)
    rw [hr2.out] at mu ⊢;rw [hu.out,hcode.out];have hU:IsUpds v2 rv r2.us.length rc r2.us:=mu.upds rfl (short_s hset.out);have hrv:∀ p,rv=some p→v1.heap.size≤p.block∧p.block<v2.heap.size:=fun p e=>by
     rcases mu.2.2 with ⟨_,q⟩ | ⟨k,q,h1,h2,_⟩
     ·rw [e] at q;cases q
     ·rw [e] at q;cases q;exact ⟨h1,h2⟩
    clear mu;have hb2:=hb1.trans (hc2.mono hb1.size);have hs3:=hc2.size;replace Q8:=RowAt.below Q8 hc2;refine uZ 12 ?_;simp only[pZ,zZ];refine uZ 13 ?_;simp only[pZ,zZ];refine uZ 14 ?_;simp only[pZ,zZ];refine uZ 15 ?_;simp only[pZ,zZ];refine sZ 17 fun K hK=>?_
    ·go_simp
     refine hK.out _ _ (kp_alloc zH _) (fun zH2=>?_);clear hK K zH;have zH:=zH2;clear zH2;(try simp only[pZ,zZ]);have hc3:Below v2.heap.size v2 (v2.alloc (.cells #[.int .i64 0,.int .i64 0,.int .i64 0,.int .i64 0,.int .i64 0,.int .i64 0,.int .i64 0,.int .i64 0,.int .i64 0,.string ⟨#[]⟩,.int .i64 0,.int .i64 0,.int .i64 0] 72)):=(Below.refl _ _).alloc (Nat.le_refl _) _;have Q9:=RowAt.new v2 #[.int .i64 0,.int .i64 0,.int .i64 0,.int .i64 0,.int .i64 0,.int .i64 0,.int .i64 0,.int .i64 0,.int .i64 0,.string ⟨#[]⟩,.int .i64 0,.int .i64 0,.int .i64 0] 72;have hz9:v2.heap.size<(v2.alloc (.cells #[.int .i64 0,.int .i64 0,.int .i64 0,.int .i64 0,.int .i64 0,.int .i64 0,.int .i64 0,.int .i64 0,.int .i64 0,.string ⟨#[]⟩,.int .i64 0,.int .i64 0,.int .i64 0] 72)).heap.size:=by simp
     obtain ⟨v3,hw⟩:∃ W,v2.alloc (.cells #[.int .i64 0,.int .i64 0,.int .i64 0,.int .i64 0,.int .i64 0,.int .i64 0,.int .i64 0,.int .i64 0,.int .i64 0,.string ⟨#[]⟩,.int .i64 0,.int .i64 0,.int .i64 0] 72)=W:=⟨_,rfl⟩
     rw [hw] at hc3 Q9 hz9 zH ⊢;clear hw;obtain ⟨q9,hq9⟩:∃ z,Hid (v2.heap.size=z):=⟨_,rfl⟩
     rw [hq9.out] at Q9 ⊢;have hb3:=hb2.trans (hc3.mono hb2.size);have hs4:=hc3.size;replace hU:=hU.below hc3;replace Q8:=RowAt.below Q8 hc3;have hq89:¬q8=q9:=by have:=hq8.out;have:=hq9.out;omega
     have hrv8:∀ p,rv=some p→¬p.block=q8:=fun p e=>by have:=hrv p e;have:=hq8.out;omega
     have hrv9:∀ p,rv=some p→¬p.block=q9:=fun p e=>by have:=hrv p e;have:=hq9.out;omega
     have hl8:w1.heap.size≤q8:=by have:=hq8.out;have:=hb0.size;omega
     have hl9:w1.heap.size≤q9:=by have:=hq9.out;have:=hb0.size;omega
     obtain ⟨a0,a1,a2',a3,a4⟩:=r5_cells Q8;obtain ⟨b0,b1,b2,b3,b4⟩:=r5_free Q8;have ql8:=Q8.lt;have P8:=r5_set4 (r5_set3 (r5_set2 (r5_set1 (r5_set0 Q8 (.int .i64 r2.id)) (.int .i64 r2.a)) (.int .i64 r2.b)) (.int .i64 r2.c)) (.slice rv r2.us.length rc);have hG8:Gs (fun k=>k=q8) v3 (((((v3.setCell ⟨q8,0,none⟩ (.int .i64 r2.id)).setCell ⟨q8,1,none⟩ (.int .i64 r2.a)).setCell ⟨q8,2,none⟩ (.int .i64 r2.b)).setCell ⟨q8,3,none⟩ (.int .i64 r2.c)).setCell ⟨q8,4,none⟩ (.slice rv r2.us.length rc)):=gs_one (gs_one (gs_one (gs_one (gs_one (gs_refl _ _) _ _) _ _) _ _) _ _) _ _;have hB8:=hb3.trans (gs_to hG8 (Nat.le_trans hb3.size (Nat.le_refl _)) (fun k e=>by omega));refine sZ 18 fun K hK=>?_;go_simp
     skip
     refine hK.out _ _ ?_ (fun zH2=>?_)
     ·exact kp_of hB8
     clear hK K zH;have zH:=zH2;clear zH2;(try simp only[pZ,zZ]);obtain ⟨wx,hwx⟩:∃ W,((((v3.setCell ⟨q8,0,none⟩ (.int .i64 r2.id)).setCell ⟨q8,1,none⟩ (.int .i64 r2.a)).setCell ⟨q8,2,none⟩ (.int .i64 r2.b)).setCell ⟨q8,3,none⟩ (.int .i64 r2.c)).setCell ⟨q8,4,none⟩ (.slice rv r2.us.length rc)=W:=⟨_,rfl⟩
     rw [hwx] at P8 hG8 hB8 zH ⊢;clear hwx a0 a1 a2' a3 a4 b0 b1 b2 b3 b4;have U8:=hU.gs hG8 hrv8;have P9:=Q9.gs hG8 (fun e=>hq89 e.symm);have hsx:=hG8.size;have ql9:=P9.lt;have g0:=P9.cell (o:=0) (by decide);have g1:=P9.cell (o:=1) (by decide);have g2:=P9.cell (o:=2) (by decide);have g3:=P9.cell (o:=3) (by decide);have g4:=P9.cell (o:=4) (by decide);have g5:=P9.cell (o:=5) (by decide);have g6:=P9.cell (o:=6) (by decide);have g7:=P9.cell (o:=7) (by decide);have g8:=P9.cell (o:=8) (by decide);have g9:=P9.cell (o:=9) (by decide);have g10:=P9.cell (o:=10) (by decide);have g11:=P9.cell (o:=11) (by decide);have g12:=P9.cell (o:=12) (by decide);have y0:=P9.free (o:=0) (by decide);have y1:=P9.free (o:=1) (by decide);have y2:=P9.free (o:=2) (by decide);have y3:=P9.free (o:=3) (by decide);have y4:=P9.free (o:=4) (by decide);have y5:=P9.free (o:=5) (by decide);have y6:=P9.free (o:=6) (by decide);have y7:=P9.free (o:=7) (by decide);have y8:=P9.free (o:=8) (by decide);have y9:=P9.free (o:=9) (by decide);have y10:=P9.free (o:=10) (by decide);have y11:=P9.free (o:=11) (by decide);have y12:=P9.free (o:=12) (by decide);simp at g0 g1 g2 g3 g4 g5 g6 g7 g8 g9 g10 g11 g12
     have hG9:Gs (fun k=>k=q9) wx (((((((((((((wx.setCell ⟨q9,0,none⟩ (.int .i64 u.dr)).setCell ⟨q9,1,none⟩ (.int .i64 u.dn)).setCell ⟨q9,2,none⟩ (.int .i64 u.sw)).setCell ⟨q9,3,none⟩ (.int .i64 u.sc)).setCell ⟨q9,4,none⟩ (.int .i64 u.sr)).setCell ⟨q9,5,none⟩ (.int .i64 u.k)).setCell ⟨q9,6,none⟩ (.int .i64 u.tr)).setCell ⟨q9,7,none⟩ (.int .i64 u.id)).setCell ⟨q9,8,none⟩ (.int .i64 u.pa)).setCell ⟨q9,9,none⟩ (.string u.s)).setCell ⟨q9,10,none⟩ (.int .i64 u.st)).setCell ⟨q9,11,none⟩ (.int .i64 u.en)).setCell ⟨q9,12,none⟩ (.int .i64 u.lv)):=gs_one (gs_one (gs_one (gs_one (gs_one (gs_one (gs_one (gs_one (gs_one (gs_one (gs_one (gs_one (gs_one (gs_refl _ _) _ _) _ _) _ _) _ _) _ _) _ _) _ _) _ _) _ _) _ _) _ _) _ _) _ _;have hB9:=hB8.trans (gs_to hG9 hB8.size (fun k e=>by omega));refine sZ 19 fun K hK=>?_;go_simp
     skip
     refine hK.out _ _ ?_ (fun zH2=>?_)
     ·exact kp_of hB9
     clear hK K zH;have zH:=zH2;clear zH2;(try simp only[pZ,zZ]);obtain ⟨wy,hwy⟩:∃ W,(((((((((((((wx.setCell ⟨q9,0,none⟩ (.int .i64 u.dr)).setCell ⟨q9,1,none⟩ (.int .i64 u.dn)).setCell ⟨q9,2,none⟩ (.int .i64 u.sw)).setCell ⟨q9,3,none⟩ (.int .i64 u.sc)).setCell ⟨q9,4,none⟩ (.int .i64 u.sr)).setCell ⟨q9,5,none⟩ (.int .i64 u.k)).setCell ⟨q9,6,none⟩ (.int .i64 u.tr)).setCell ⟨q9,7,none⟩ (.int .i64 u.id)).setCell ⟨q9,8,none⟩ (.int .i64 u.pa)).setCell ⟨q9,9,none⟩ (.string u.s)).setCell ⟨q9,10,none⟩ (.int .i64 u.st)).setCell ⟨q9,11,none⟩ (.int .i64 u.en)).setCell ⟨q9,12,none⟩ (.int .i64 u.lv))=W:=⟨_,rfl⟩
     rw [hwy] at hG9 hB9 zH ⊢;clear hwy g0 g1 g2 g3 g4 g5 g6 g7 g8 g9 g10 g11 g12 y0 y1 y2 y3 y4 y5 y6 y7 y8 y9 y10 y11 y12;have U9:=U8.gs hG9 hrv9;have R9:=P8.gs hG9 hq89;have hsy:=hG9.size;refine uZ 20 ?_;simp only[pZ,zZ];refine dZ ?_;go_wp2_with fail
     go_meet
     exact ⟨q8,q9,r2,rv,rc,code,rfl,rfl,rfl,R9,U9,fun p e=>⟨by have:=(hrv p e).1;have:=hb0.size;omega,by have:=(hrv p e).2;omega⟩,M1.setOk_len hset.out,hB9⟩
   ·go_simp
    refine hK.out _ _ (kp_alloc zH _) (fun zH2=>?_);clear hK K zH;have zH:=zH2;clear zH2;(try simp only[pZ,zZ]);have hc2:Below v1.heap.size v1 (v1.alloc (.cells #[.int .i64 0,.int .i64 0,.int .i64 0,.int .i64 0,.int .i64 0,.int .i64 0,.int .i64 0,.int .i64 0,.int .i64 0,.string ⟨#[]⟩,.int .i64 0,.int .i64 0,.int .i64 0] 72)):=(Below.refl _ _).alloc (Nat.le_refl _) _;have Q9:=RowAt.new v1 #[.int .i64 0,.int .i64 0,.int .i64 0,.int .i64 0,.int .i64 0,.int .i64 0,.int .i64 0,.int .i64 0,.int .i64 0,.string ⟨#[]⟩,.int .i64 0,.int .i64 0,.int .i64 0] 72;have hz9:v1.heap.size<(v1.alloc (.cells #[.int .i64 0,.int .i64 0,.int .i64 0,.int .i64 0,.int .i64 0,.int .i64 0,.int .i64 0,.int .i64 0,.int .i64 0,.string ⟨#[]⟩,.int .i64 0,.int .i64 0,.int .i64 0] 72)).heap.size:=by simp
    obtain ⟨v2,hw⟩:∃ W,v1.alloc (.cells #[.int .i64 0,.int .i64 0,.int .i64 0,.int .i64 0,.int .i64 0,.int .i64 0,.int .i64 0,.int .i64 0,.int .i64 0,.string ⟨#[]⟩,.int .i64 0,.int .i64 0,.int .i64 0] 72)=W:=⟨_,rfl⟩
    rw [hw] at hc2 Q9 hz9 zH ⊢;clear hw;obtain ⟨q9,hq9⟩:∃ z,Hid (v1.heap.size=z):=⟨_,rfl⟩
    rw [hq9.out] at Q9 ⊢;have hb2:=hb1.trans (hc2.mono hb1.size);have hs3:=hc2.size;replace Q8:=RowAt.below Q8 hc2;refine sZ 11 fun K hK=>?_
    ·go_simp
     refine (l5Issued_any r x now _ _ _ _ (hus.below hb2) hxs hrO).mono ?_;rintro e v3 ⟨⟨v,rfl,⟨rv,rc,rfl,mu⟩⟩,hc3⟩;go_wp2_with fail
     refine hK.out _ _ (kp_step zH hc3) (fun zH2=>?_);clear hK K zH;have zH:=zH2;clear zH2;(try simp only[pZ,zZ]);obtain ⟨r2,hr2⟩:∃ q,Hid (M1.isR r x now=q):=⟨_,rfl⟩
     obtain ⟨u,hu⟩:∃ q,Hid (M1.isU r x now=q):=⟨_,rfl⟩
     obtain ⟨code,hcode⟩:∃ q,Hid (M1.isC r x now=q):=⟨_,rfl⟩
     have hset:Hid (M1.setOk r2.us=true):=(by rw [←hr2.out];exact M1.is_setA r x now:_=_)
     rw [hr2.out] at mu ⊢;rw [hu.out,hcode.out];have hU:IsUpds v3 rv r2.us.length rc r2.us:=mu.upds rfl (short_s hset.out);have hrv:∀ p,rv=some p→v2.heap.size≤p.block∧p.block<v3.heap.size:=fun p e=>by
      rcases mu.2.2 with ⟨_,q⟩ | ⟨k,q,h1,h2,_⟩
      ·rw [e] at q;cases q
      ·rw [e] at q;cases q;exact ⟨h1,h2⟩
     clear mu;have hb3:=hb2.trans (hc3.mono hb2.size);have hs4:=hc3.size;replace Q8:=RowAt.below Q8 hc3;replace Q9:=RowAt.below Q9 hc3;refine uZ 12 ?_;simp only[pZ,zZ];refine uZ 13 ?_;simp only[pZ,zZ];refine uZ 14 ?_;simp only[pZ,zZ];refine uZ 15 ?_;simp only[pZ,zZ];have hq89:¬q8=q9:=by have:=hq8.out;have:=hq9.out;omega
     have hrv8:∀ p,rv=some p→¬p.block=q8:=fun p e=>by have:=hrv p e;have:=hq8.out;omega
     have hrv9:∀ p,rv=some p→¬p.block=q9:=fun p e=>by have:=hrv p e;have:=hq9.out;omega
     have hl8:w1.heap.size≤q8:=by have:=hq8.out;have:=hb0.size;omega
     have hl9:w1.heap.size≤q9:=by have:=hq9.out;have:=hb0.size;omega
     obtain ⟨a0,a1,a2',a3,a4⟩:=r5_cells Q8;obtain ⟨b0,b1,b2,b3,b4⟩:=r5_free Q8;have ql8:=Q8.lt;have P8:=r5_set4 (r5_set3 (r5_set2 (r5_set1 (r5_set0 Q8 (.int .i64 r2.id)) (.int .i64 r2.a)) (.int .i64 r2.b)) (.int .i64 r2.c)) (.slice rv r2.us.length rc);have hG8:Gs (fun k=>k=q8) v3 (((((v3.setCell ⟨q8,0,none⟩ (.int .i64 r2.id)).setCell ⟨q8,1,none⟩ (.int .i64 r2.a)).setCell ⟨q8,2,none⟩ (.int .i64 r2.b)).setCell ⟨q8,3,none⟩ (.int .i64 r2.c)).setCell ⟨q8,4,none⟩ (.slice rv r2.us.length rc)):=gs_one (gs_one (gs_one (gs_one (gs_one (gs_refl _ _) _ _) _ _) _ _) _ _) _ _;have hB8:=hb3.trans (gs_to hG8 (Nat.le_trans hb3.size (Nat.le_refl _)) (fun k e=>by omega));refine sZ 18 fun K hK=>?_;go_simp
     skip
     refine hK.out _ _ ?_ (fun zH2=>?_)
     ·exact kp_of hB8
     clear hK K zH;have zH:=zH2;clear zH2;(try simp only[pZ,zZ]);obtain ⟨wx,hwx⟩:∃ W,((((v3.setCell ⟨q8,0,none⟩ (.int .i64 r2.id)).setCell ⟨q8,1,none⟩ (.int .i64 r2.a)).setCell ⟨q8,2,none⟩ (.int .i64 r2.b)).setCell ⟨q8,3,none⟩ (.int .i64 r2.c)).setCell ⟨q8,4,none⟩ (.slice rv r2.us.length rc)=W:=⟨_,rfl⟩
     rw [hwx] at P8 hG8 hB8 zH ⊢;clear hwx a0 a1 a2' a3 a4 b0 b1 b2 b3 b4;have U8:=hU.gs hG8 hrv8;have P9:=Q9.gs hG8 (fun e=>hq89 e.symm);have hsx:=hG8.size;have ql9:=P9.lt;have g0:=P9.cell (o:=0) (by decide);have g1:=P9.cell (o:=1) (by decide);have g2:=P9.cell (o:=2) (by decide);have g3:=P9.cell (o:=3) (by decide);have g4:=P9.cell (o:=4) (by decide);have g5:=P9.cell (o:=5) (by decide);have g6:=P9.cell (o:=6) (by decide);have g7:=P9.cell (o:=7) (by decide);have g8:=P9.cell (o:=8) (by decide);have g9:=P9.cell (o:=9) (by decide);have g10:=P9.cell (o:=10) (by decide);have g11:=P9.cell (o:=11) (by decide);have g12:=P9.cell (o:=12) (by decide);have y0:=P9.free (o:=0) (by decide);have y1:=P9.free (o:=1) (by decide);have y2:=P9.free (o:=2) (by decide);have y3:=P9.free (o:=3) (by decide);have y4:=P9.free (o:=4) (by decide);have y5:=P9.free (o:=5) (by decide);have y6:=P9.free (o:=6) (by decide);have y7:=P9.free (o:=7) (by decide);have y8:=P9.free (o:=8) (by decide);have y9:=P9.free (o:=9) (by decide);have y10:=P9.free (o:=10) (by decide);have y11:=P9.free (o:=11) (by decide);have y12:=P9.free (o:=12) (by decide);simp at g0 g1 g2 g3 g4 g5 g6 g7 g8 g9 g10 g11 g12
     have hG9:Gs (fun k=>k=q9) wx (((((((((((((wx.setCell ⟨q9,0,none⟩ (.int .i64 u.dr)).setCell ⟨q9,1,none⟩ (.int .i64 u.dn)).setCell ⟨q9,2,none⟩ (.int .i64 u.sw)).setCell ⟨q9,3,none⟩ (.int .i64 u.sc)).setCell ⟨q9,4,none⟩ (.int .i64 u.sr)).setCell ⟨q9,5,none⟩ (.int .i64 u.k)).setCell ⟨q9,6,none⟩ (.int .i64 u.tr)).setCell ⟨q9,7,none⟩ (.int .i64 u.id)).setCell ⟨q9,8,none⟩ (.int .i64 u.pa)).setCell ⟨q9,9,none⟩ (.string u.s)).setCell ⟨q9,10,none⟩ (.int .i64 u.st)).setCell ⟨q9,11,none⟩ (.int .i64 u.en)).setCell ⟨q9,12,none⟩ (.int .i64 u.lv)):=gs_one (gs_one (gs_one (gs_one (gs_one (gs_one (gs_one (gs_one (gs_one (gs_one (gs_one (gs_one (gs_one (gs_refl _ _) _ _) _ _) _ _) _ _) _ _) _ _) _ _) _ _) _ _) _ _) _ _) _ _) _ _;have hB9:=hB8.trans (gs_to hG9 hB8.size (fun k e=>by omega));refine sZ 19 fun K hK=>?_;go_simp
     skip
     refine hK.out _ _ ?_ (fun zH2=>?_)
     ·exact kp_of hB9
     clear hK K zH;have zH:=zH2;clear zH2;(try simp only[pZ,zZ]);obtain ⟨wy,hwy⟩:∃ W,(((((((((((((wx.setCell ⟨q9,0,none⟩ (.int .i64 u.dr)).setCell ⟨q9,1,none⟩ (.int .i64 u.dn)).setCell ⟨q9,2,none⟩ (.int .i64 u.sw)).setCell ⟨q9,3,none⟩ (.int .i64 u.sc)).setCell ⟨q9,4,none⟩ (.int .i64 u.sr)).setCell ⟨q9,5,none⟩ (.int .i64 u.k)).setCell ⟨q9,6,none⟩ (.int .i64 u.tr)).setCell ⟨q9,7,none⟩ (.int .i64 u.id)).setCell ⟨q9,8,none⟩ (.int .i64 u.pa)).setCell ⟨q9,9,none⟩ (.string u.s)).setCell ⟨q9,10,none⟩ (.int .i64 u.st)).setCell ⟨q9,11,none⟩ (.int .i64 u.en)).setCell ⟨q9,12,none⟩ (.int .i64 u.lv))=W:=⟨_,rfl⟩
     rw [hwy] at hG9 hB9 zH ⊢;clear hwy g0 g1 g2 g3 g4 g5 g6 g7 g8 g9 g10 g11 g12 y0 y1 y2 y3 y4 y5 y6 y7 y8 y9 y10 y11 y12;have U9:=U8.gs hG9 hrv9;have R9:=P8.gs hG9 hq89;have hsy:=hG9.size;refine uZ 20 ?_;simp only[pZ,zZ];refine dZ ?_;go_wp2_with fail
     go_meet
     exact ⟨q8,q9,r2,rv,rc,code,rfl,rfl,rfl,R9,U9,fun p e=>⟨by have:=(hrv p e).1;have:=hb0.size;omega,by have:=(hrv p e).2;omega⟩,M1.setOk_len hset.out,hB9⟩
  ·go_simp
   refine hK.out _ _ (kp_alloc zH _) (fun zH2=>?_);clear hK K zH;have zH:=zH2;clear zH2;(try simp only[pZ,zZ]);have hc1:Below v0.heap.size v0 (v0.alloc (.cells #[.int .i64 0,.int .i64 0,.int .i64 0,.int .i64 0,.int .i64 0,.int .i64 0,.int .i64 0,.int .i64 0,.int .i64 0,.string ⟨#[]⟩,.int .i64 0,.int .i64 0,.int .i64 0] 72)):=(Below.refl _ _).alloc (Nat.le_refl _) _;have Q9:=RowAt.new v0 #[.int .i64 0,.int .i64 0,.int .i64 0,.int .i64 0,.int .i64 0,.int .i64 0,.int .i64 0,.int .i64 0,.int .i64 0,.string ⟨#[]⟩,.int .i64 0,.int .i64 0,.int .i64 0] 72;have hz9:v0.heap.size<(v0.alloc (.cells #[.int .i64 0,.int .i64 0,.int .i64 0,.int .i64 0,.int .i64 0,.int .i64 0,.int .i64 0,.int .i64 0,.int .i64 0,.string ⟨#[]⟩,.int .i64 0,.int .i64 0,.int .i64 0] 72)).heap.size:=by simp
   obtain ⟨v1,hw⟩:∃ W,v0.alloc (.cells #[.int .i64 0,.int .i64 0,.int .i64 0,.int .i64 0,.int .i64 0,.int .i64 0,.int .i64 0,.int .i64 0,.int .i64 0,.string ⟨#[]⟩,.int .i64 0,.int .i64 0,.int .i64 0] 72)=W:=⟨_,rfl⟩
   rw [hw] at hc1 Q9 hz9 zH ⊢;clear hw;obtain ⟨q9,hq9⟩:∃ z,Hid (v0.heap.size=z):=⟨_,rfl⟩
   rw [hq9.out] at Q9 ⊢;have hb1:=hb0.trans (hc1.mono hb0.size);have hs2:=hc1.size;refine rZ [11,16] (.cons rfl (fun K hK=>?_) (.cons rfl (fun K hK=>?_) .nil))
   ·go_simp
    refine (l5Issued_any r x now _ _ _ _ (hus.below hb1) hxs hrO).mono ?_;rintro e v2 ⟨⟨v,rfl,⟨rv,rc,rfl,mu⟩⟩,hc2⟩;go_wp2_with fail
    refine hK.out _ _ (kp_step zH hc2) (fun zH2=>?_);clear hK K zH;have zH:=zH2;clear zH2;(try simp only[pZ,zZ]);obtain ⟨r2,hr2⟩:∃ q,Hid (M1.isR r x now=q):=⟨_,rfl⟩
    obtain ⟨u,hu⟩:∃ q,Hid (M1.isU r x now=q):=⟨_,rfl⟩
    obtain ⟨code,hcode⟩:∃ q,Hid (M1.isC r x now=q):=⟨_,rfl⟩
    have hset:Hid (M1.setOk r2.us=true):=(by rw [←hr2.out];exact M1.is_setA r x now:_=_)
    rw [hr2.out] at mu ⊢;rw [hu.out,hcode.out];have hU:IsUpds v2 rv r2.us.length rc r2.us:=mu.upds rfl (short_s hset.out);have hrv:∀ p,rv=some p→v1.heap.size≤p.block∧p.block<v2.heap.size:=fun p e=>by
     rcases mu.2.2 with ⟨_,q⟩ | ⟨k,q,h1,h2,_⟩
     ·rw [e] at q;cases q
     ·rw [e] at q;cases q;exact ⟨h1,h2⟩
    clear mu;have hb2:=hb1.trans (hc2.mono hb1.size);have hs3:=hc2.size;replace Q9:=RowAt.below Q9 hc2;refine uZ 12 ?_;simp only[pZ,zZ];refine uZ 13 ?_;simp only[pZ,zZ];refine uZ 14 ?_;simp only[pZ,zZ];refine uZ 15 ?_;simp only[pZ,zZ];refine sZ 16 fun K hK=>?_
    ·go_simp
     refine hK.out _ _ (kp_alloc zH _) (fun zH2=>?_);clear hK K zH;have zH:=zH2;clear zH2;(try simp only[pZ,zZ]);have hc3:Below v2.heap.size v2 (v2.alloc (.cells #[.int .i64 0,.int .i64 0,.int .i64 0,.int .i64 0,.slice none 0 0] 34)):=(Below.refl _ _).alloc (Nat.le_refl _) _;have Q8:=r5_new v2 (.int .i64 0) (.int .i64 0) (.int .i64 0) (.int .i64 0) (.slice none 0 0) 34;have hz8:v2.heap.size<(v2.alloc (.cells #[.int .i64 0,.int .i64 0,.int .i64 0,.int .i64 0,.slice none 0 0] 34)).heap.size:=by simp
     obtain ⟨v3,hw⟩:∃ W,v2.alloc (.cells #[.int .i64 0,.int .i64 0,.int .i64 0,.int .i64 0,.slice none 0 0] 34)=W:=⟨_,rfl⟩
     rw [hw] at hc3 Q8 hz8 zH ⊢;clear hw;obtain ⟨q8,hq8⟩:∃ z,Hid (v2.heap.size=z):=⟨_,rfl⟩
     rw [hq8.out] at Q8 ⊢;have hb3:=hb2.trans (hc3.mono hb2.size);have hs4:=hc3.size;replace hU:=hU.below hc3;replace Q9:=RowAt.below Q9 hc3;have hq89:¬q8=q9:=by have:=hq8.out;have:=hq9.out;omega
     have hrv8:∀ p,rv=some p→¬p.block=q8:=fun p e=>by have:=hrv p e;have:=hq8.out;omega
     have hrv9:∀ p,rv=some p→¬p.block=q9:=fun p e=>by have:=hrv p e;have:=hq9.out;omega
     have hl8:w1.heap.size≤q8:=by have:=hq8.out;have:=hb0.size;omega
     have hl9:w1.heap.size≤q9:=by have:=hq9.out;have:=hb0.size;omega
     obtain ⟨a0,a1,a2',a3,a4⟩:=r5_cells Q8;obtain ⟨b0,b1,b2,b3,b4⟩:=r5_free Q8;have ql8:=Q8.lt;have P8:=r5_set4 (r5_set3 (r5_set2 (r5_set1 (r5_set0 Q8 (.int .i64 r2.id)) (.int .i64 r2.a)) (.int .i64 r2.b)) (.int .i64 r2.c)) (.slice rv r2.us.length rc);have hG8:Gs (fun k=>k=q8) v3 (((((v3.setCell ⟨q8,0,none⟩ (.int .i64 r2.id)).setCell ⟨q8,1,none⟩ (.int .i64 r2.a)).setCell ⟨q8,2,none⟩ (.int .i64 r2.b)).setCell ⟨q8,3,none⟩ (.int .i64 r2.c)).setCell ⟨q8,4,none⟩ (.slice rv r2.us.length rc)):=gs_one (gs_one (gs_one (gs_one (gs_one (gs_refl _ _) _ _) _ _) _ _) _ _) _ _;have hB8:=hb3.trans (gs_to hG8 (Nat.le_trans hb3.size (Nat.le_refl _)) (fun k e=>by omega));refine sZ 18 fun K hK=>?_;go_simp
     skip
     refine hK.out _ _ ?_ (fun zH2=>?_)
     ·exact kp_of hB8
     clear hK K zH;have zH:=zH2;clear zH2;(try simp only[pZ,zZ]);obtain ⟨wx,hwx⟩:∃ W,((((v3.setCell ⟨q8,0,none⟩ (.int .i64 r2.id)).setCell ⟨q8,1,none⟩ (.int .i64 r2.a)).setCell ⟨q8,2,none⟩ (.int .i64 r2.b)).setCell ⟨q8,3,none⟩ (.int .i64 r2.c)).setCell ⟨q8,4,none⟩ (.slice rv r2.us.length rc)=W:=⟨_,rfl⟩
     rw [hwx] at P8 hG8 hB8 zH ⊢;clear hwx a0 a1 a2' a3 a4 b0 b1 b2 b3 b4;have U8:=hU.gs hG8 hrv8;have P9:=Q9.gs hG8 (fun e=>hq89 e.symm);have hsx:=hG8.size;have ql9:=P9.lt;have g0:=P9.cell (o:=0) (by decide);have g1:=P9.cell (o:=1) (by decide);have g2:=P9.cell (o:=2) (by decide);have g3:=P9.cell (o:=3) (by decide);have g4:=P9.cell (o:=4) (by decide);have g5:=P9.cell (o:=5) (by decide);have g6:=P9.cell (o:=6) (by decide);have g7:=P9.cell (o:=7) (by decide);have g8:=P9.cell (o:=8) (by decide);have g9:=P9.cell (o:=9) (by decide);have g10:=P9.cell (o:=10) (by decide);have g11:=P9.cell (o:=11) (by decide);have g12:=P9.cell (o:=12) (by decide);have y0:=P9.free (o:=0) (by decide);have y1:=P9.free (o:=1) (by decide);have y2:=P9.free (o:=2) (by decide);have y3:=P9.free (o:=3) (by decide);have y4:=P9.free (o:=4) (by decide);have y5:=P9.free (o:=5) (by decide);have y6:=P9.free (o:=6) (by decide);have y7:=P9.free (o:=7) (by decide);have y8:=P9.free (o:=8) (by decide);have y9:=P9.free (o:=9) (by decide);have y10:=P9.free (o:=10) (by decide);have y11:=P9.free (o:=11) (by decide);have y12:=P9.free (o:=12) (by decide);simp at g0 g1 g2 g3 g4 g5 g6 g7 g8 g9 g10 g11 g12
     have hG9:Gs (fun k=>k=q9) wx (((((((((((((wx.setCell ⟨q9,0,none⟩ (.int .i64 u.dr)).setCell ⟨q9,1,none⟩ (.int .i64 u.dn)).setCell ⟨q9,2,none⟩ (.int .i64 u.sw)).setCell ⟨q9,3,none⟩ (.int .i64 u.sc)).setCell ⟨q9,4,none⟩ (.int .i64 u.sr)).setCell ⟨q9,5,none⟩ (.int .i64 u.k)).setCell ⟨q9,6,none⟩ (.int .i64 u.tr)).setCell ⟨q9,7,none⟩ (.int .i64 u.id)).setCell ⟨q9,8,none⟩ (.int .i64 u.pa)).setCell ⟨q9,9,none⟩ (.string u.s)).setCell ⟨q9,10,none⟩ (.int .i64 u.st)).setCell ⟨q9,11,none⟩ (.int .i64 u.en)).setCell ⟨q9,12,none⟩ (.int .i64 u.lv)):=gs_one (gs_one (gs_one (gs_one (gs_one (gs_one (gs_one (gs_one (gs_one (gs_one (gs_one (gs_one (gs_one (gs_refl _ _) _ _) _ _) _ _) _ _) _ _) _ _) _ _) _ _) _ _) _ _) _ _) _ _) _ _;have hB9:=hB8.trans (gs_to hG9 hB8.size (fun k e=>by omega));refine sZ 19 fun K hK=>?_;go_simp
     skip
     refine hK.out _ _ ?_ (fun zH2=>?_)
     ·exact kp_of hB9
     clear hK K zH;have zH:=zH2;clear zH2;(try simp only[pZ,zZ]);obtain ⟨wy,hwy⟩:∃ W,(((((((((((((wx.setCell ⟨q9,0,none⟩ (.int .i64 u.dr)).setCell ⟨q9,1,none⟩ (.int .i64 u.dn)).setCell ⟨q9,2,none⟩ (.int .i64 u.sw)).setCell ⟨q9,3,none⟩ (.int .i64 u.sc)).setCell ⟨q9,4,none⟩ (.int .i64 u.sr)).setCell ⟨q9,5,none⟩ (.int .i64 u.k)).setCell ⟨q9,6,none⟩ (.int .i64 u.tr)).setCell ⟨q9,7,none⟩ (.int .i64 u.id)).setCell ⟨q9,8,none⟩ (.int .i64 u.pa)).setCell ⟨q9,9,none⟩ (.string u.s)).setCell ⟨q9,10,none⟩ (.int .i64 u.st)).setCell ⟨q9,11,none⟩ (.int .i64 u.en)).setCell ⟨q9,12,none⟩ (.int .i64 u.lv))=W:=⟨_,rfl⟩
     rw [hwy] at hG9 hB9 zH ⊢;clear hwy g0 g1 g2 g3 g4 g5 g6 g7 g8 g9 g10 g11 g12 y0 y1 y2 y3 y4 y5 y6 y7 y8 y9 y10 y11 y12;have U9:=U8.gs hG9 hrv9;have R9:=P8.gs hG9 hq89;have hsy:=hG9.size;refine uZ 20 ?_;simp only[pZ,zZ];refine dZ ?_;go_wp2_with fail
     go_meet
     exact ⟨q8,q9,r2,rv,rc,code,rfl,rfl,rfl,R9,U9,fun p e=>⟨by have:=(hrv p e).1;have:=hb0.size;omega,by have:=(hrv p e).2;omega⟩,M1.setOk_len hset.out,hB9⟩
   ·go_simp
    refine hK.out _ _ (kp_alloc zH _) (fun zH2=>?_);clear hK K zH;have zH:=zH2;clear zH2;(try simp only[pZ,zZ]);have hc2:Below v1.heap.size v1 (v1.alloc (.cells #[.int .i64 0,.int .i64 0,.int .i64 0,.int .i64 0,.slice none 0 0] 34)):=(Below.refl _ _).alloc (Nat.le_refl _) _;have Q8:=r5_new v1 (.int .i64 0) (.int .i64 0) (.int .i64 0) (.int .i64 0) (.slice none 0 0) 34;have hz8:v1.heap.size<(v1.alloc (.cells #[.int .i64 0,.int .i64 0,.int .i64 0,.int .i64 0,.slice none 0 0] 34)).heap.size:=by simp
    obtain ⟨v2,hw⟩:∃ W,v1.alloc (.cells #[.int .i64 0,.int .i64 0,.int .i64 0,.int .i64 0,.slice none 0 0] 34)=W:=⟨_,rfl⟩
    rw [hw] at hc2 Q8 hz8 zH ⊢;clear hw;obtain ⟨q8,hq8⟩:∃ z,Hid (v1.heap.size=z):=⟨_,rfl⟩
    rw [hq8.out] at Q8 ⊢;have hb2:=hb1.trans (hc2.mono hb1.size);have hs3:=hc2.size;replace Q9:=RowAt.below Q9 hc2;refine sZ 11 fun K hK=>?_
    ·go_simp
     refine (l5Issued_any r x now _ _ _ _ (hus.below hb2) hxs hrO).mono ?_;rintro e v3 ⟨⟨v,rfl,⟨rv,rc,rfl,mu⟩⟩,hc3⟩;go_wp2_with fail
     refine hK.out _ _ (kp_step zH hc3) (fun zH2=>?_);clear hK K zH;have zH:=zH2;clear zH2;(try simp only[pZ,zZ]);obtain ⟨r2,hr2⟩:∃ q,Hid (M1.isR r x now=q):=⟨_,rfl⟩
     obtain ⟨u,hu⟩:∃ q,Hid (M1.isU r x now=q):=⟨_,rfl⟩
     obtain ⟨code,hcode⟩:∃ q,Hid (M1.isC r x now=q):=⟨_,rfl⟩
     have hset:Hid (M1.setOk r2.us=true):=(by rw [←hr2.out];exact M1.is_setA r x now:_=_)
     rw [hr2.out] at mu ⊢;rw [hu.out,hcode.out];have hU:IsUpds v3 rv r2.us.length rc r2.us:=mu.upds rfl (short_s hset.out);have hrv:∀ p,rv=some p→v2.heap.size≤p.block∧p.block<v3.heap.size:=fun p e=>by
      rcases mu.2.2 with ⟨_,q⟩ | ⟨k,q,h1,h2,_⟩
      ·rw [e] at q;cases q
      ·rw [e] at q;cases q;exact ⟨h1,h2⟩
     clear mu;have hb3:=hb2.trans (hc3.mono hb2.size);have hs4:=hc3.size;replace Q8:=RowAt.below Q8 hc3;replace Q9:=RowAt.below Q9 hc3;refine uZ 12 ?_;simp only[pZ,zZ];refine uZ 13 ?_;simp only[pZ,zZ];refine uZ 14 ?_;simp only[pZ,zZ];refine uZ 15 ?_;simp only[pZ,zZ];have hq89:¬q8=q9:=by have:=hq8.out;have:=hq9.out;omega
     have hrv8:∀ p,rv=some p→¬p.block=q8:=fun p e=>by have:=hrv p e;have:=hq8.out;omega
     have hrv9:∀ p,rv=some p→¬p.block=q9:=fun p e=>by have:=hrv p e;have:=hq9.out;omega
     have hl8:w1.heap.size≤q8:=by have:=hq8.out;have:=hb0.size;omega
     have hl9:w1.heap.size≤q9:=by have:=hq9.out;have:=hb0.size;omega
     obtain ⟨a0,a1,a2',a3,a4⟩:=r5_cells Q8;obtain ⟨b0,b1,b2,b3,b4⟩:=r5_free Q8;have ql8:=Q8.lt;have P8:=r5_set4 (r5_set3 (r5_set2 (r5_set1 (r5_set0 Q8 (.int .i64 r2.id)) (.int .i64 r2.a)) (.int .i64 r2.b)) (.int .i64 r2.c)) (.slice rv r2.us.length rc);have hG8:Gs (fun k=>k=q8) v3 (((((v3.setCell ⟨q8,0,none⟩ (.int .i64 r2.id)).setCell ⟨q8,1,none⟩ (.int .i64 r2.a)).setCell ⟨q8,2,none⟩ (.int .i64 r2.b)).setCell ⟨q8,3,none⟩ (.int .i64 r2.c)).setCell ⟨q8,4,none⟩ (.slice rv r2.us.length rc)):=gs_one (gs_one (gs_one (gs_one (gs_one (gs_refl _ _) _ _) _ _) _ _) _ _) _ _;have hB8:=hb3.trans (gs_to hG8 (Nat.le_trans hb3.size (Nat.le_refl _)) (fun k e=>by omega));refine sZ 18 fun K hK=>?_;go_simp
     skip
     refine hK.out _ _ ?_ (fun zH2=>?_)
     ·exact kp_of hB8
     clear hK K zH;have zH:=zH2;clear zH2;(try simp only[pZ,zZ]);obtain ⟨wx,hwx⟩:∃ W,((((v3.setCell ⟨q8,0,none⟩ (.int .i64 r2.id)).setCell ⟨q8,1,none⟩ (.int .i64 r2.a)).setCell ⟨q8,2,none⟩ (.int .i64 r2.b)).setCell ⟨q8,3,none⟩ (.int .i64 r2.c)).setCell ⟨q8,4,none⟩ (.slice rv r2.us.length rc)=W:=⟨_,rfl⟩
     rw [hwx] at P8 hG8 hB8 zH ⊢;clear hwx a0 a1 a2' a3 a4 b0 b1 b2 b3 b4;have U8:=hU.gs hG8 hrv8;have P9:=Q9.gs hG8 (fun e=>hq89 e.symm);have hsx:=hG8.size;have ql9:=P9.lt;have g0:=P9.cell (o:=0) (by decide);have g1:=P9.cell (o:=1) (by decide);have g2:=P9.cell (o:=2) (by decide);have g3:=P9.cell (o:=3) (by decide);have g4:=P9.cell (o:=4) (by decide);have g5:=P9.cell (o:=5) (by decide);have g6:=P9.cell (o:=6) (by decide);have g7:=P9.cell (o:=7) (by decide);have g8:=P9.cell (o:=8) (by decide);have g9:=P9.cell (o:=9) (by decide);have g10:=P9.cell (o:=10) (by decide);have g11:=P9.cell (o:=11) (by decide);have g12:=P9.cell (o:=12) (by decide);have y0:=P9.free (o:=0) (by decide);have y1:=P9.free (o:=1) (by decide);have y2:=P9.free (o:=2) (by decide);have y3:=P9.free (o:=3) (by decide);have y4:=P9.free (o:=4) (by decide);have y5:=P9.free (o:=5) (by decide);have y6:=P9.free (o:=6) (by decide);have y7:=P9.free (o:=7) (by decide);have y8:=P9.free (o:=8) (by decide);have y9:=P9.free (o:=9) (by decide);have y10:=P9.free (o:=10) (by decide);have y11:=P9.free (o:=11) (by decide);have y12:=P9.free (o:=12) (by decide);simp at g0 g1 g2 g3 g4 g5 g6 g7 g8 g9 g10 g11 g12
     have hG9:Gs (fun k=>k=q9) wx (((((((((((((wx.setCell ⟨q9,0,none⟩ (.int .i64 u.dr)).setCell ⟨q9,1,none⟩ (.int .i64 u.dn)).setCell ⟨q9,2,none⟩ (.int .i64 u.sw)).setCell ⟨q9,3,none⟩ (.int .i64 u.sc)).setCell ⟨q9,4,none⟩ (.int .i64 u.sr)).setCell ⟨q9,5,none⟩ (.int .i64 u.k)).setCell ⟨q9,6,none⟩ (.int .i64 u.tr)).setCell ⟨q9,7,none⟩ (.int .i64 u.id)).setCell ⟨q9,8,none⟩ (.int .i64 u.pa)).setCell ⟨q9,9,none⟩ (.string u.s)).setCell ⟨q9,10,none⟩ (.int .i64 u.st)).setCell ⟨q9,11,none⟩ (.int .i64 u.en)).setCell ⟨q9,12,none⟩ (.int .i64 u.lv)):=gs_one (gs_one (gs_one (gs_one (gs_one (gs_one (gs_one (gs_one (gs_one (gs_one (gs_one (gs_one (gs_one (gs_refl _ _) _ _) _ _) _ _) _ _) _ _) _ _) _ _) _ _) _ _) _ _) _ _) _ _) _ _;have hB9:=hB8.trans (gs_to hG9 hB8.size (fun k e=>by omega));refine sZ 19 fun K hK=>?_;go_simp
     skip
     refine hK.out _ _ ?_ (fun zH2=>?_)
     ·exact kp_of hB9
     clear hK K zH;have zH:=zH2;clear zH2;(try simp only[pZ,zZ]);obtain ⟨wy,hwy⟩:∃ W,(((((((((((((wx.setCell ⟨q9,0,none⟩ (.int .i64 u.dr)).setCell ⟨q9,1,none⟩ (.int .i64 u.dn)).setCell ⟨q9,2,none⟩ (.int .i64 u.sw)).setCell ⟨q9,3,none⟩ (.int .i64 u.sc)).setCell ⟨q9,4,none⟩ (.int .i64 u.sr)).setCell ⟨q9,5,none⟩ (.int .i64 u.k)).setCell ⟨q9,6,none⟩ (.int .i64 u.tr)).setCell ⟨q9,7,none⟩ (.int .i64 u.id)).setCell ⟨q9,8,none⟩ (.int .i64 u.pa)).setCell ⟨q9,9,none⟩ (.string u.s)).setCell ⟨q9,10,none⟩ (.int .i64 u.st)).setCell ⟨q9,11,none⟩ (.int .i64 u.en)).setCell ⟨q9,12,none⟩ (.int .i64 u.lv))=W:=⟨_,rfl⟩
     rw [hwy] at hG9 hB9 zH ⊢;clear hwy g0 g1 g2 g3 g4 g5 g6 g7 g8 g9 g10 g11 g12 y0 y1 y2 y3 y4 y5 y6 y7 y8 y9 y10 y11 y12;have U9:=U8.gs hG9 hrv9;have R9:=P8.gs hG9 hq89;have hsy:=hG9.size;refine uZ 20 ?_;simp only[pZ,zZ];refine dZ ?_;go_wp2_with fail
     go_meet
     exact ⟨q8,q9,r2,rv,rc,code,rfl,rfl,rfl,R9,U9,fun p e=>⟨by have:=(hrv p e).1;have:=hb0.size;omega,by have:=(hrv p e).2;omega⟩,M1.setOk_len hset.out,hB9⟩
 case rest =>
  obtain ⟨q8,q9,r2,rv,rc,code,rfl,rfl,rfl,R8,U8,hrv,hr60,hb⟩:=hcut;clear d0 d1 d2 e0 e1 e2 e3 e4 e5 e6 e7 e8 e9 e10 z0 z1 z2 f0 f1 f2 dl el zl x0 x1 x2 x3 x4;have A1:=A0.below hb;have C1:=C0.below hb;have Z1:=Z0.below hb;have B1:=hA.trans (hb.mono hA.size);have hsc:=hb.size;have hpzl:=Z0.lt;obtain ⟨d0,d1,d2⟩:=r3_cells A1;obtain ⟨e0,e1,e2,e3,e4,e5,e6,e7,e8,e9,e10⟩:=r11_cells C1;have dl:=A1.lt;have el:=C1.lt;obtain ⟨g0,g1,g2,g3,g4⟩:=r5_cells R8;have gl:=R8.lt;by_cases hc0:code=0
  case neg =>
   have hcb:(code != 0)=true:=by simp [hc0]
   clear hc0 d0 d1 d2 dl;obtain ⟨d0,d1,d2⟩:=r3_cells A1;have dl:=RowAt.lt A1;obtain ⟨z0,z1,z2⟩:=r3_cells Z1;obtain ⟨f0,f1,f2⟩:=r3_free Z1;have zl:=RowAt.lt Z1;have Zz:=r3_set2 (r3_set1 (r3_set0 Z1 (.int .i64 now)) (.slice (some ⟨gR,off,none⟩) n c3)) (.slice a2 n2 c4);have hGz:Gs (fun k=>k=pz) wc (((wc.setCell ⟨pz,0,none⟩ (.int .i64 now)).setCell ⟨pz,1,none⟩ (.slice (some ⟨gR,off,none⟩) n c3)).setCell ⟨pz,2,none⟩ (.slice a2 n2 c4)):=gs_one (gs_one (gs_one (gs_refl _ _) _ _) _ _) _ _;go_wp2_with fail
   obtain ⟨Wz,hWz⟩:∃ W,((wc.setCell ⟨pz,0,none⟩ (.int .i64 now)).setCell ⟨pz,1,none⟩ (.slice (some ⟨gR,off,none⟩) n c3)).setCell ⟨pz,2,none⟩ (.slice a2 n2 c4)=W:=⟨_,rfl⟩
   rw [hWz] at Zz hGz ⊢;clear hWz z0 z1 z2 f0 f1 f2;obtain ⟨z0,z1,z2⟩:=r3_cells Zz;have B9:=B1.trans (gs_to hGz B1.size (fun k e=>by omega));refine bodyPost_ret (v:=.tuple #[.agg #[.int .i64 now,.slice (some ⟨gR,off,none⟩) n c3,.slice a2 n2 c4],.int .i64 4]) (by simp [results,Tryz.results111,go_sem,z0,z1,z2]) rfl ?_;exact ⟨_,_,_,_,_,_,rs,ms,4,rfl,fun wz hz=>HT.still (gs_trans (gs_below B9) hz),hbd.out,gs_below B9⟩
  have hcb:(code != 0)=false:=by simp [hc0]
  clear hc0;obtain ⟨hoff,hrow⟩:off=0∧RowAt wc gR (n*5) (fx xs):=by
   obtain ⟨av',c',q1,_,_,_,q4⟩:=owns_slice (HW.below B1).r.own;injection q1 with q1 q2 _;rcases q4 with ⟨q4,_⟩ | ⟨g',q4,_,_,q5⟩
   ·rw [q4] at q1;cases q1
   ·rw [q4] at q1
    injection q1 with q1;injection q1 with q6 q7 _;subst q6;rw [q2];exact ⟨q7,q5⟩
  subst hoff;have hjn:(wh.toNat-1)*5+5≤n*5:=by omega
  have t0:=hrow.cell (o:=(wh.toNat-1)*5) (by omega);have u0:=hrow.free (o:=(wh.toNat-1)*5) (by omega);have t1:=hrow.cell (o:=(wh.toNat-1)*5+1) (by omega);have u1:=hrow.free (o:=(wh.toNat-1)*5+1) (by omega);have t2:=hrow.cell (o:=(wh.toNat-1)*5+2) (by omega);have u2:=hrow.free (o:=(wh.toNat-1)*5+2) (by omega);have t3:=hrow.cell (o:=(wh.toNat-1)*5+3) (by omega);have u3:=hrow.free (o:=(wh.toNat-1)*5+3) (by omega);have t4:=hrow.cell (o:=(wh.toNat-1)*5+4) (by omega);have u4:=hrow.free (o:=(wh.toNat-1)*5+4) (by omega);have hgl4:=hrow.lt;go_upto_region 11 with fail
  obtain ⟨w5,hw5⟩:∃ W,((((wc.setCell ⟨gR,(wh.toNat-1)*5,none⟩ (.int .i64 r2.id)).setCell ⟨gR,(wh.toNat-1)*5+1,none⟩ (.int .i64 r2.a)).setCell ⟨gR,(wh.toNat-1)*5+2,none⟩ (.int .i64 r2.b)).setCell ⟨gR,(wh.toNat-1)*5+3,none⟩ (.int .i64 r2.c)).setCell ⟨gR,(wh.toNat-1)*5+4,none⟩ (.slice rv r2.us.length rc)=W:=⟨_,rfl⟩
  have hG5:Gs (fun k=>k=gR) wc w5:=by
   rw [←hw5];exact gs_one (gs_one (gs_one (gs_one (gs_one (gs_refl _ _) _ _) _ _) _ _) _ _) _ _
  have HTz:=HT.add (T':=fun k=>k=pz) (fun k q=>by omega);have hput:=fun (wz:World) (hz:Gs (fun k=>T k∨k=pz) w5 wz)=>HTz.put hlo B1 (j:=wh.toNat-1) (by omega) r2 rv r2.us.length rc U8 (fun p e=>⟨(hrv p e).2,by have:=(hrv p e).1;omega,fun q=>by
   have:=(hrv p e).1;rcases q with q | q
   ·have:=hTl _ q;omega
   ·omega⟩) hw5.symm hz
  rw [hw5];have A5:=A1.gs hG5 (by omega);have Z5:=Z1.gs hG5 (by omega);have hbd9:M1.Bd (rs.set (wh.toNat-1) r2) ms:=hbd.out.set _ r2 (by omega);clear hw5 t0 t1 t2 t3 t4 u0 u1 u2 u3 u4 d0 d1 d2 e0 e1 e2 e3 e4 e5 e6 e7 e8 e9 e10 g0 g1 g2 g3 g4 dl el gl;obtain ⟨d0,d1,d2⟩:=r3_cells A5;have dl:=RowAt.lt A5;obtain ⟨z0,z1,z2⟩:=r3_cells Z5;obtain ⟨f0,f1,f2⟩:=r3_free Z5;have zl:=RowAt.lt Z5;have Zz:=r3_set2 (r3_set1 (r3_set0 Z5 (.int .i64 now)) (.slice (some ⟨gR,0,none⟩) n c3)) (.slice a2 n2 c4);have hGz:Gs (fun k=>k=pz) w5 (((w5.setCell ⟨pz,0,none⟩ (.int .i64 now)).setCell ⟨pz,1,none⟩ (.slice (some ⟨gR,0,none⟩) n c3)).setCell ⟨pz,2,none⟩ (.slice a2 n2 c4)):=gs_one (gs_one (gs_one (gs_refl _ _) _ _) _ _) _ _;go_wp2_with fail
  obtain ⟨Wz,hWz⟩:∃ W,((w5.setCell ⟨pz,0,none⟩ (.int .i64 now)).setCell ⟨pz,1,none⟩ (.slice (some ⟨gR,0,none⟩) n c3)).setCell ⟨pz,2,none⟩ (.slice a2 n2 c4)=W:=⟨_,rfl⟩
  rw [hWz] at Zz hGz ⊢;clear hWz z0 z1 z2 f0 f1 f2;obtain ⟨z0,z1,z2⟩:=r3_cells Zz;have GG:Gs (OB (.slice (some ⟨gR,0,none⟩) n c3) (.slice a2 n2 c4)) w Wz:=gs_more (gs_trans (gs_below B1) (gs_mono hG5 (fun k e=>Or.inl (by rw [e];rfl)))) hGz k3;refine bodyPost_ret (v:=.tuple #[.agg #[.int .i64 now,.slice (some ⟨gR,0,none⟩) n c3,.slice a2 n2 c4],.int .i64 0]) (by simp [results,Tryz.results111,go_sem,z0,z1,z2]) rfl ?_;exact ⟨_,_,_,_,_,_,rs.set (wh.toNat-1) r2,ms,0,rfl,fun wz hz=>hput _ (gs_trans (gs_mono hGz (fun k e=>Or.inr e)) (gs_mono hz (fun k e=>Or.inl e))),hbd9,GG⟩
end Go.Proofs.YtgcinolbkllkkaaGreat
