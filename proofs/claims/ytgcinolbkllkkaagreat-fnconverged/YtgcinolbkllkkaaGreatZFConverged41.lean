/-
  Texts of one proof, joined: Cv8.
-/
import Derived.Test.YtgcinolbkllkkaaGreatZFConverged40b
set_option linter.unusedSimpArgs false
set_option linter.unusedVariables false
namespace Go.Proofs.YtgcinolbkllkkaaGreat
open Go.ChangeShapes Go.WideShapes Go.ChangeAt Go.RowKit
def SomeW (w':World)(e:Ending)(lo:Nat):Prop:=∃ (now:Int) (a:Option Addr) (n c:Nat) (a2:Option Addr) (n2 c2:Nat) (rs:List M1.Rg) (ms:List M1.Ml),e=.returned (.agg #[.int .i64 now,.slice a n c,.slice a2 n2 c2])∧∀ wz,Gs (fun k=>k<lo) w' wz→IsRgs wz a n c rs∧IsMls wz a2 n2 c2 ms
set_option maxHeartbeats 64000000 in
set_option maxRecDepth 100000 in
theorem world_any (g:Nat)(av:Option Addr)(len cap:Nat)(most:Int)(w:World)(h:Rdr w g av len cap)(hm0:0≤most)(hm1:most≤1000) :
  Calls Tryz.prog 21 #[.pointer (some ⟨g,0,none⟩),.int .i64 most] w fun e w'=>SomeW w' e w.heap.size∧Rdr w' g av len cap∧Gr g w w':=by
 have hg:=h.lt;have hA:Below w.heap.size w (w.alloc (.cells #[.int .i64 0,.slice none 0 0,.slice none 0 0] 27)):=(Below.refl _ _).alloc (Nat.le_refl _) _;have Z0:=r3_new w (.int .i64 0) (.slice none 0 0) (.slice none 0 0) 27;go_enter Tryz.func21,Tryz.ntmps21
 go_upto_region 1 with fail
 obtain ⟨w1,hw1⟩:∃ W,w.alloc (.cells #[.int .i64 0,.slice none 0 0,.slice none 0 0] 27)=W:=⟨_,rfl⟩
 rw [hw1] at hA Z0 ⊢;clear hw1;obtain ⟨pz,hpz⟩:∃ z,Hid (w.heap.size=z):=⟨_,rfl⟩
 rw [hpz.out] at Z0 ⊢;have kz:w.heap.size≤pz∧pz<w.heap.size+1:=by have:=hpz.out;omega
 have kzg:¬pz=g:=by omega
 have kzq:len=0∨∃ b off,av=some ⟨b,off,none⟩∧¬pz=b:=h.old kz.1;have hs1:w.heap.size+1≤w1.heap.size:=by have:=Z0.lt;have:=hpz.out;omega
 go_wp2_with fail
 refine (worldNew_spec 3 _).mono ?_;rintro e w2 ⟨av',n0,cap0,rfl,hn0,mg,hb2⟩;obtain rfl:n0=3:=hn0;have B2:=hA.trans (hb2.mono hA.size);have Z2:=Z0.below hb2;have hs2:=hb2.size;have hA3:Below w2.heap.size w2 (w2.alloc (.cells #[.int .i64 0,.slice av' 3 cap0,.slice none 0 0] 27)):=(Below.refl _ _).alloc (Nat.le_refl _) _;have P3:=r3_new w2 (.int .i64 0) (.slice av' 3 cap0) (.slice none 0 0) 27;go_upto_region 2 with fail
 obtain ⟨w3,hw3⟩:∃ W,w2.alloc (.cells #[.int .i64 0,.slice av' 3 cap0,.slice none 0 0] 27)=W:=⟨_,rfl⟩
 rw [hw3] at hA3 P3 ⊢;clear hw3;obtain ⟨pw,hpw⟩:∃ z,Hid (w2.heap.size=z):=⟨_,rfl⟩
 rw [hpw.out] at P3 ⊢;have kw:w.heap.size+1≤pw:=by have:=hpw.out;omega
 have kwg:¬pw=g:=by omega
 have kwq:len=0∨∃ b off,av=some ⟨b,off,none⟩∧¬pw=b:=h.old (by omega);have kwz:¬pw=pz:=by omega
 obtain ⟨S,hS⟩:∃ S:Nat→Prop,S=fun k=>k<w.heap.size+1∨k=pw:=⟨_,rfl⟩
 have Spw:S pw:=by rw [hS];exact Or.inr rfl
 have Spz:S pz:=by rw [hS];exact Or.inl kz.2
 have Sg:S g:=by rw [hS];exact Or.inl (by omega)
 have Slo:∀ k,k<w.heap.size→S k:=fun k hk=>by rw [hS];exact Or.inl (by omega)
 have Sup:∀ k,S k→k<pw+1:=fun k hk=>by
  rw [hS] at hk;rcases hk with hk | hk <;> omega
 obtain ⟨gR0,Q2⟩:=new_wq mg (S:=S) (fun k h1 h2 e=>by
  rw [hS] at e;have:=hpw.out;rcases e with e | e <;> omega)
 clear hS;have Q3:=Q2.gs (gs_below hA3);have Z3:=Z2.below hA3;have R3':Rdr w3 g av len cap:=(h.below B2).below hA3;have G3:Gr g w w3:=gr_trans (gr_below B2) (gr_below hA3);clear Q2 Z2 Z0 mg;go_wp2_with fail
 refine (below_any _ _ _ _ _ _ R3' (by omega) (by omega)).mono ?_;rintro e w4 ⟨z0,rfl,y0,y1,R4,G4⟩;have G04:=gr_trans G3 G4;have P4:=RowAt.gr P3 G4 kwg;have Z4:=RowAt.gr Z3 G4 kzg;have Q4:=Q3.gs (gs_gr G4 Sg);clear P3 Z3 R3' G3 G4 Q3;go_wp2_with fail
 go_loopw [7] (fun i wr=>∃ (z:Int) (now:Int) (a:Option Addr) (n c:Nat) (a2:Option Addr) (n2 c2:Nat) (rs:List M1.Rg) (ms:List M1.Ml) (gR gM:Nat) (f h':Nat→Value),i=.int .i64 z∧0≤z∧z≤1000∧R3 wr pw (.int .i64 now) (.slice a n c) (.slice a2 n2 c2)∧R3 wr pz (.int .i64 0) (.slice none 0 0) (.slice none 0 0)∧WQ wr S gR gM f h' a n c a2 n2 c2 rs ms∧Hid (M1.wOk now rs ms=true)∧Rdr wr g av len cap∧Gr g w wr) (fun i _=>(intOf i).toNat)
 case atStart=>exact ⟨z0,0,_,3,_,none,0,0,M1.rsN,[],gR0,0,_,_,rfl,y0,by omega,P4,Z4,Q4,M1.wOk_new,R4,G04⟩
 case round =>
  clear P4 Z4 Q4 R4 G04;obtain ⟨z,now,a,n,c,a2,n2,c2,rs,ms,gR,gM,f,h',rfl,hz0,hz1,PW,PZ,QQ,hwk,RR,GG⟩:=hrel;obtain ⟨_,hn2',hn5',hn40',hok0,hml0,_,hbd0⟩:=M1.wOk_has hwk.out;have hnn:2≤n:=by have:=QQ.hn;omega
  have hn40:n2≤40:=by have:=QQ.hm;omega
  have hset0:Hid (M1.setOk (M1.rgA rs 0).us=true):=M1.rOk_set (hok0 0 (by omega));clear hn2' hn5' hn40' hok0 hml0 hbd0;by_cases hlt:0<z
  ·go_wp2_with fail
   refine wp_region_held_drew (S:=fun w'=>True) (by kernel_rfl) ?_ (fun zH=>?_)
   ·exact trivial
   refine uZ 1 ?_;simp only[pZ,zZ];obtain ⟨v0,hv0⟩:∃ W,wr.drew=W:=⟨_,rfl⟩
   have hb0:Below wr.heap.size wr wr.drew:=(Below.refl _ _).drew;rw [hv0] at hb0 ⊢;clear hv0;have RR0:=RR.below hb0;have GG0:=gr_trans GG (gr_below hb0);have PW0:R3 v0 pw (.int .i64 now) (.slice a n c) (.slice a2 n2 c2):=RowAt.below PW hb0;have PZ0:R3 v0 pz (.int .i64 0) (.slice none 0 0) (.slice none 0 0):=RowAt.below PZ hb0;have QQ0:=QQ.gs (gs_below hb0);obtain ⟨d0_0,d1_0,d2_0⟩:=r3_cells PW0;have dl0:=PW0.lt;refine rZ [0,2] (.cons rfl (fun K hK=>?_) (.cons rfl (fun K hK=>?_) .nil))
   ·go_simp
    refine hK.out _ _ trivial (fun zH2=>?_);clear hK K zH;have zH:=zH2;clear zH2;(try simp only[pZ,zZ]);refine sZ 2 fun K hK=>?_
    ·go_simp
     refine hK.out _ _ trivial (fun zH2=>?_);clear hK K zH;have zH:=zH2;clear zH2;(try simp only[pZ,zZ]);refine sZ 3 fun K hK=>?_
     ·go_simp
      refine (wact_any g av len cap now a n c a2 n2 c2 _ RR0 (by omega)).mono ?_;rintro e v1 ⟨kd,wh,tt,ta,x,rfl,hx,RR1,hg1⟩;go_wp2_with fail
      refine hK.out _ _ trivial (fun zH2=>?_);clear hK K zH;have zH:=zH2;clear zH2;(try simp only[pZ,zZ]);have GG1:=gr_trans GG0 hg1;have PW1:R3 v1 pw (.int .i64 now) (.slice a n c) (.slice a2 n2 c2):=RowAt.gr PW0 hg1 kwg;have PZ1:R3 v1 pz (.int .i64 0) (.slice none 0 0) (.slice none 0 0):=RowAt.gr PZ0 hg1 kzg;have QQ1:=QQ0.gs (gs_gr hg1 Sg);obtain ⟨d0_1,d1_1,d2_1⟩:=r3_cells PW1;have dl1:=PW1.lt;clear d0_0 d1_0 d2_0 dl0;refine sZ 4 fun K hK=>?_
      ·go_simp
       refine (worldDo_spec now a n c a2 n2 c2 rs ms kd wh tt ta x _ QQ1.both.1 QQ1.both.2 (by unfold maxLen;omega) hwk).mono ?_;rintro e v2 ⟨⟨nw,b1,m1,f1,b2,m2,f2,xs,ys,rs2,ms2,code,rfl,HC,hok2⟩,hc2⟩;go_wp2_with fail
       refine hK.out _ _ trivial (fun zH2=>?_);clear hK K zH;have zH:=zH2;clear zH2;(try simp only[pZ,zZ]);refine uZ 5 ?_;simp only[pZ,zZ];refine uZ 6 ?_;simp only[pZ,zZ];refine uZ 7 ?_;simp only[pZ,zZ];have hok2':Hid (M1.wOk nw rs2 ms2=true):=hok2;have hm1':0<m1:=by have:=(M1.wOk_has hok2).2.1;have:=HC.rgs.hlen;omega
       have plt:=PW1.lt;obtain ⟨gR2,gM2,Q9⟩:=HC.wq hm1' (S:=S) (fun k e=>by have:=Sup k e;omega);have RR2:=RR1.below hc2;have GG2:=gr_trans GG1 (gr_below hc2);have PW2:R3 v2 pw (.int .i64 now) (.slice a n c) (.slice a2 n2 c2):=RowAt.below PW1 hc2;have PZ2:R3 v2 pz (.int .i64 0) (.slice none 0 0) (.slice none 0 0):=RowAt.below PZ1 hc2;obtain ⟨y0,y1,y2⟩:=r3_cells PW2;obtain ⟨g0,g1,g2⟩:=r3_free PW2;have yl:=PW2.lt;have PWz:=r3_set2 (r3_set1 (r3_set0 PW2 (.int .i64 nw)) (.slice b1 m1 f1)) (.slice b2 m2 f2);have hGz:Gs (fun k=>k=pw) v2 (((v2.setCell ⟨pw,0,none⟩ (.int .i64 nw)).setCell ⟨pw,1,none⟩ (.slice b1 m1 f1)).setCell ⟨pw,2,none⟩ (.slice b2 m2 f2)):=gs_one (gs_one (gs_one (gs_refl _ _) _ _) _ _) _ _;refine sZ 8 fun K hK=>?_;go_simp
       skip
       refine hK.out _ _ ?_ (fun zH2=>?_)
       ·exact trivial
       clear hK K zH;have zH:=zH2;clear zH2;(try simp only[pZ,zZ]);refine dZ ?_;generalize ((v2.setCell ⟨pw,0,none⟩ (.int .i64 nw)).setCell ⟨pw,1,none⟩ (.slice b1 m1 f1)).setCell ⟨pw,2,none⟩ (.slice b2 m2 f2)=W9 at PWz hGz ⊢;have Qz:=Q9.gs (gs_mono hGz (fun k e=>by rw [e];exact Spw));have PZz:R3 W9 pz (.int .i64 0) (.slice none 0 0) (.slice none 0 0):=RowAt.gs PZ2 hGz (fun e=>kwz e.symm);go_wp2_with fail
       exact ⟨⟨z-1,nw,b1,m1,f1,b2,m2,f2,rs2,ms2,gR2,gM2,_,_,by go_num,by omega,by omega,PWz,PZz,Qz,hok2',RR2.gs hGz kwg kwq,gr_gs GG2 hGz (by omega)⟩,by simp [intOf];omega⟩
   ·go_simp
    refine hK.out _ _ trivial (fun zH2=>?_);clear hK K zH;have zH:=zH2;clear zH2;(try simp only[pZ,zZ]);refine rZ [0,3] (.cons rfl (fun K hK=>?_) (.cons rfl (fun K hK=>?_) .nil))
    ·go_simp
     refine hK.out _ _ trivial (fun zH2=>?_);clear hK K zH;have zH:=zH2;clear zH2;(try simp only[pZ,zZ]);refine sZ 3 fun K hK=>?_
     ·go_simp
      refine (wact_any g av len cap now a n c a2 n2 c2 _ RR0 (by omega)).mono ?_;rintro e v1 ⟨kd,wh,tt,ta,x,rfl,hx,RR1,hg1⟩;go_wp2_with fail
      refine hK.out _ _ trivial (fun zH2=>?_);clear hK K zH;have zH:=zH2;clear zH2;(try simp only[pZ,zZ]);have GG1:=gr_trans GG0 hg1;have PW1:R3 v1 pw (.int .i64 now) (.slice a n c) (.slice a2 n2 c2):=RowAt.gr PW0 hg1 kwg;have PZ1:R3 v1 pz (.int .i64 0) (.slice none 0 0) (.slice none 0 0):=RowAt.gr PZ0 hg1 kzg;have QQ1:=QQ0.gs (gs_gr hg1 Sg);obtain ⟨d0_1,d1_1,d2_1⟩:=r3_cells PW1;have dl1:=PW1.lt;clear d0_0 d1_0 d2_0 dl0;refine sZ 4 fun K hK=>?_
      ·go_simp
       refine (worldDo_spec now a n c a2 n2 c2 rs ms kd wh tt ta x _ QQ1.both.1 QQ1.both.2 (by unfold maxLen;omega) hwk).mono ?_;rintro e v2 ⟨⟨nw,b1,m1,f1,b2,m2,f2,xs,ys,rs2,ms2,code,rfl,HC,hok2⟩,hc2⟩;go_wp2_with fail
       refine hK.out _ _ trivial (fun zH2=>?_);clear hK K zH;have zH:=zH2;clear zH2;(try simp only[pZ,zZ]);refine uZ 5 ?_;simp only[pZ,zZ];refine uZ 6 ?_;simp only[pZ,zZ];refine uZ 7 ?_;simp only[pZ,zZ];have hok2':Hid (M1.wOk nw rs2 ms2=true):=hok2;have hm1':0<m1:=by have:=(M1.wOk_has hok2).2.1;have:=HC.rgs.hlen;omega
       have plt:=PW1.lt;obtain ⟨gR2,gM2,Q9⟩:=HC.wq hm1' (S:=S) (fun k e=>by have:=Sup k e;omega);have RR2:=RR1.below hc2;have GG2:=gr_trans GG1 (gr_below hc2);have PW2:R3 v2 pw (.int .i64 now) (.slice a n c) (.slice a2 n2 c2):=RowAt.below PW1 hc2;have PZ2:R3 v2 pz (.int .i64 0) (.slice none 0 0) (.slice none 0 0):=RowAt.below PZ1 hc2;obtain ⟨y0,y1,y2⟩:=r3_cells PW2;obtain ⟨g0,g1,g2⟩:=r3_free PW2;have yl:=PW2.lt;have PWz:=r3_set2 (r3_set1 (r3_set0 PW2 (.int .i64 nw)) (.slice b1 m1 f1)) (.slice b2 m2 f2);have hGz:Gs (fun k=>k=pw) v2 (((v2.setCell ⟨pw,0,none⟩ (.int .i64 nw)).setCell ⟨pw,1,none⟩ (.slice b1 m1 f1)).setCell ⟨pw,2,none⟩ (.slice b2 m2 f2)):=gs_one (gs_one (gs_one (gs_refl _ _) _ _) _ _) _ _;refine sZ 8 fun K hK=>?_;go_simp
       skip
       refine hK.out _ _ ?_ (fun zH2=>?_)
       ·exact trivial
       clear hK K zH;have zH:=zH2;clear zH2;(try simp only[pZ,zZ]);refine dZ ?_;generalize ((v2.setCell ⟨pw,0,none⟩ (.int .i64 nw)).setCell ⟨pw,1,none⟩ (.slice b1 m1 f1)).setCell ⟨pw,2,none⟩ (.slice b2 m2 f2)=W9 at PWz hGz ⊢;have Qz:=Q9.gs (gs_mono hGz (fun k e=>by rw [e];exact Spw));have PZz:R3 W9 pz (.int .i64 0) (.slice none 0 0) (.slice none 0 0):=RowAt.gs PZ2 hGz (fun e=>kwz e.symm);go_wp2_with fail
       exact ⟨⟨z-1,nw,b1,m1,f1,b2,m2,f2,rs2,ms2,gR2,gM2,_,_,by go_num,by omega,by omega,PWz,PZz,Qz,hok2',RR2.gs hGz kwg kwq,gr_gs GG2 hGz (by omega)⟩,by simp [intOf];omega⟩
    ·go_simp
     refine (wact_any g av len cap now a n c a2 n2 c2 _ RR0 (by omega)).mono ?_;rintro e v1 ⟨kd,wh,tt,ta,x,rfl,hx,RR1,hg1⟩;go_wp2_with fail
     refine hK.out _ _ trivial (fun zH2=>?_);clear hK K zH;have zH:=zH2;clear zH2;(try simp only[pZ,zZ]);have GG1:=gr_trans GG0 hg1;have PW1:R3 v1 pw (.int .i64 now) (.slice a n c) (.slice a2 n2 c2):=RowAt.gr PW0 hg1 kwg;have PZ1:R3 v1 pz (.int .i64 0) (.slice none 0 0) (.slice none 0 0):=RowAt.gr PZ0 hg1 kzg;have QQ1:=QQ0.gs (gs_gr hg1 Sg);obtain ⟨d0_1,d1_1,d2_1⟩:=r3_cells PW1;have dl1:=PW1.lt;clear d0_0 d1_0 d2_0 dl0;refine sZ 0 fun K hK=>?_
     ·go_simp
      refine hK.out _ _ trivial (fun zH2=>?_);clear hK K zH;have zH:=zH2;clear zH2;(try simp only[pZ,zZ]);refine sZ 4 fun K hK=>?_
      ·go_simp
       refine (worldDo_spec now a n c a2 n2 c2 rs ms kd wh tt ta x _ QQ1.both.1 QQ1.both.2 (by unfold maxLen;omega) hwk).mono ?_;rintro e v2 ⟨⟨nw,b1,m1,f1,b2,m2,f2,xs,ys,rs2,ms2,code,rfl,HC,hok2⟩,hc2⟩;go_wp2_with fail
       refine hK.out _ _ trivial (fun zH2=>?_);clear hK K zH;have zH:=zH2;clear zH2;(try simp only[pZ,zZ]);refine uZ 5 ?_;simp only[pZ,zZ];refine uZ 6 ?_;simp only[pZ,zZ];refine uZ 7 ?_;simp only[pZ,zZ];have hok2':Hid (M1.wOk nw rs2 ms2=true):=hok2;have hm1':0<m1:=by have:=(M1.wOk_has hok2).2.1;have:=HC.rgs.hlen;omega
       have plt:=PW1.lt;obtain ⟨gR2,gM2,Q9⟩:=HC.wq hm1' (S:=S) (fun k e=>by have:=Sup k e;omega);have RR2:=RR1.below hc2;have GG2:=gr_trans GG1 (gr_below hc2);have PW2:R3 v2 pw (.int .i64 now) (.slice a n c) (.slice a2 n2 c2):=RowAt.below PW1 hc2;have PZ2:R3 v2 pz (.int .i64 0) (.slice none 0 0) (.slice none 0 0):=RowAt.below PZ1 hc2;obtain ⟨y0,y1,y2⟩:=r3_cells PW2;obtain ⟨g0,g1,g2⟩:=r3_free PW2;have yl:=PW2.lt;have PWz:=r3_set2 (r3_set1 (r3_set0 PW2 (.int .i64 nw)) (.slice b1 m1 f1)) (.slice b2 m2 f2);have hGz:Gs (fun k=>k=pw) v2 (((v2.setCell ⟨pw,0,none⟩ (.int .i64 nw)).setCell ⟨pw,1,none⟩ (.slice b1 m1 f1)).setCell ⟨pw,2,none⟩ (.slice b2 m2 f2)):=gs_one (gs_one (gs_one (gs_refl _ _) _ _) _ _) _ _;refine sZ 8 fun K hK=>?_;go_simp
       skip
       refine hK.out _ _ ?_ (fun zH2=>?_)
       ·exact trivial
       clear hK K zH;have zH:=zH2;clear zH2;(try simp only[pZ,zZ]);refine dZ ?_;generalize ((v2.setCell ⟨pw,0,none⟩ (.int .i64 nw)).setCell ⟨pw,1,none⟩ (.slice b1 m1 f1)).setCell ⟨pw,2,none⟩ (.slice b2 m2 f2)=W9 at PWz hGz ⊢;have Qz:=Q9.gs (gs_mono hGz (fun k e=>by rw [e];exact Spw));have PZz:R3 W9 pz (.int .i64 0) (.slice none 0 0) (.slice none 0 0):=RowAt.gs PZ2 hGz (fun e=>kwz e.symm);go_wp2_with fail
       exact ⟨⟨z-1,nw,b1,m1,f1,b2,m2,f2,rs2,ms2,gR2,gM2,_,_,by go_num,by omega,by omega,PWz,PZz,Qz,hok2',RR2.gs hGz kwg kwq,gr_gs GG2 hGz (by omega)⟩,by simp [intOf];omega⟩
  ·have hzz:¬(0:Int)<z:=hlt
   go_wp2_with fail
   refine (below_any _ _ _ _ _ _ RR (by omega) (by omega)).mono ?_;rintro e u1 ⟨kk,rfl,y0,y1,RR1,hg1⟩;have GG1:=gr_trans GG hg1;have PW1:R3 u1 pw (.int .i64 now) (.slice a n c) (.slice a2 n2 c2):=RowAt.gr PW hg1 kwg;have PZ1:R3 u1 pz (.int .i64 0) (.slice none 0 0) (.slice none 0 0):=RowAt.gr PZ hg1 kzg;have QQ1:=QQ.gs (gs_gr hg1 Sg);clear PW PZ QQ RR GG;by_cases hk8:kk=38
   case pos =>
    have b8:(kk==38)=true:=by simp [hk8]
    clear hk8;go_wp2_with fail
    refine (off_any _ _ _ _ _ _ _ RR1 (by omega) (by omega) (by omega)).mono ?_;rintro e u2 ⟨y,rfl,_,_,RR2,hg2⟩;have GG2:=gr_trans GG1 hg2;have PW2:R3 u2 pw (.int .i64 now) (.slice a n c) (.slice a2 n2 c2):=RowAt.gr PW1 hg2 kwg;have PZ2:R3 u2 pz (.int .i64 0) (.slice none 0 0) (.slice none 0 0):=RowAt.gr PZ1 hg2 kzg;have QQ2:=QQ1.gs (gs_gr hg2 Sg);obtain ⟨d0,d1,d2⟩:=r3_cells PW2;obtain ⟨g0,g1,g2⟩:=r3_free PW2;have dl:=PW2.lt;have PW3:=r3_set0 PW2 (.int .i64 y);have hG3:Gs (fun k=>k=pw) u2 (u2.setCell ⟨pw,0,none⟩ (.int .i64 y)):=gs_one (gs_refl _ _) _ _;go_upto_region 12 with fail
    obtain ⟨u3,hu3⟩:∃ W,u2.setCell ⟨pw,0,none⟩ (.int .i64 y)=W:=⟨_,rfl⟩
    rw [hu3] at PW3 hG3 ⊢;clear hu3 d0 d1 d2 g0 g1 g2 dl;have PZ3:R3 u3 pz (.int .i64 0) (.slice none 0 0) (.slice none 0 0):=RowAt.gs PZ2 hG3 (fun e=>kwz e.symm);have QQ3:=QQ2.gs (gs_mono hG3 (fun k e=>by rw [e];exact Spw));have RR3:=RR2.gs hG3 kwg kwq;have GG3:=gr_gs GG2 hG3 (by omega);obtain ⟨d0,d1,d2⟩:=r3_cells PW3;have dl:=RowAt.lt PW3;obtain ⟨z0,z1,z2⟩:=r3_cells PZ3;obtain ⟨f0,f1,f2⟩:=r3_free PZ3;have zl:=RowAt.lt PZ3;have Zz:=r3_set2 (r3_set1 (r3_set0 PZ3 (.int .i64 y)) (.slice a n c)) (.slice a2 n2 c2);have hGz:Gs (fun k=>k=pz) u3 (((u3.setCell ⟨pz,0,none⟩ (.int .i64 y)).setCell ⟨pz,1,none⟩ (.slice a n c)).setCell ⟨pz,2,none⟩ (.slice a2 n2 c2)):=gs_one (gs_one (gs_one (gs_refl _ _) _ _) _ _) _ _;go_wp2_with fail
    obtain ⟨Wz,hWz⟩:∃ W,(((u3.setCell ⟨pz,0,none⟩ (.int .i64 y)).setCell ⟨pz,1,none⟩ (.slice a n c)).setCell ⟨pz,2,none⟩ (.slice a2 n2 c2))=W:=⟨_,rfl⟩
    rw [hWz] at Zz hGz ⊢;clear hWz z0 z1 z2 f0 f1 f2;obtain ⟨z0,z1,z2⟩:=r3_cells Zz;have hGs:Gs S u3 Wz:=gs_mono hGz (fun k e=>by rw [e];exact Spz);refine bodyPost_ret (v:=.agg #[.int .i64 y,.slice a n c,.slice a2 n2 c2]) (by simp [results,Tryz.results21,go_sem,z0,z1,z2]) rfl ?_;exact ⟨⟨_,_,_,_,_,_,_,_,_,rfl,fun wz hz=>((QQ3.gs hGs).gs (gs_mono hz Slo)).both⟩,RR3.gs hGz kzg kzq,gr_gs GG3 hGz kz.1⟩
   have b8:(kk==38)=false:=by simp [hk8]
   clear hk8;by_cases hk9:kk=39
   case neg =>
    have b9:(kk==39)=false:=by simp [hk9]
    clear hk9;obtain ⟨d0,d1,d2⟩:=r3_cells PW1;have dl:=RowAt.lt PW1;obtain ⟨z0,z1,z2⟩:=r3_cells PZ1;obtain ⟨f0,f1,f2⟩:=r3_free PZ1;have zl:=RowAt.lt PZ1;have Zz:=r3_set2 (r3_set1 (r3_set0 PZ1 (.int .i64 now)) (.slice a n c)) (.slice a2 n2 c2);have hGz:Gs (fun k=>k=pz) u1 (((u1.setCell ⟨pz,0,none⟩ (.int .i64 now)).setCell ⟨pz,1,none⟩ (.slice a n c)).setCell ⟨pz,2,none⟩ (.slice a2 n2 c2)):=gs_one (gs_one (gs_one (gs_refl _ _) _ _) _ _) _ _;go_wp2_with fail
    obtain ⟨Wz,hWz⟩:∃ W,(((u1.setCell ⟨pz,0,none⟩ (.int .i64 now)).setCell ⟨pz,1,none⟩ (.slice a n c)).setCell ⟨pz,2,none⟩ (.slice a2 n2 c2))=W:=⟨_,rfl⟩
    rw [hWz] at Zz hGz ⊢;clear hWz z0 z1 z2 f0 f1 f2;obtain ⟨z0,z1,z2⟩:=r3_cells Zz;have hGs:Gs S u1 Wz:=gs_mono hGz (fun k e=>by rw [e];exact Spz);refine bodyPost_ret (v:=.agg #[.int .i64 now,.slice a n c,.slice a2 n2 c2]) (by simp [results,Tryz.results21,go_sem,z0,z1,z2]) rfl ?_;exact ⟨⟨_,_,_,_,_,_,_,_,_,rfl,fun wz hz=>((QQ1.gs hGs).gs (gs_mono hz Slo)).both⟩,RR1.gs hGz kzg kzq,gr_gs GG1 hGz kz.1⟩
   have b9:(kk==39)=true:=by simp [hk9]
   clear hk9;obtain ⟨sv,sm,sc,x0,x1,x2,x3,x4',hu,ha⟩:=QQ1.x 0 (by have:=QQ1.hn;omega);have x4:f 4=.slice sv sm sc:=x4';have hsl:Hid ((M1.rgA rs 0).us.length=sm):=hu.hlen;obtain rfl:=QQ1.ea;have c4:=(QQ1.rR.cell (o:=4) (by omega)).trans (congrArg some x4);have i0:(0:Int)<(n:Int):=by omega
   have i1:0<n:=by omega
   have rl:=QQ1.rR.lt;obtain ⟨d0,d1,d2⟩:=r3_cells PW1;have dl:=PW1.lt;by_cases hm0':0<sm
   case neg =>
    have n0:¬0<sm:=hm0';have n1:¬(0:Int)<(sm:Int):=by omega
    clear d0 d1 d2 dl;obtain ⟨d0,d1,d2⟩:=r3_cells PW1;have dl:=PW1.lt;go_upto_region 12 with fail
    clear d0 d1 d2 dl;obtain ⟨d0,d1,d2⟩:=r3_cells PW1;have dl:=RowAt.lt PW1;obtain ⟨z0,z1,z2⟩:=r3_cells PZ1;obtain ⟨f0,f1,f2⟩:=r3_free PZ1;have zl:=RowAt.lt PZ1;have Zz:=r3_set2 (r3_set1 (r3_set0 PZ1 (.int .i64 now)) (.slice (some ⟨gR,0,none⟩) n c)) (.slice a2 n2 c2);have hGz:Gs (fun k=>k=pz) u1 (((u1.setCell ⟨pz,0,none⟩ (.int .i64 now)).setCell ⟨pz,1,none⟩ (.slice (some ⟨gR,0,none⟩) n c)).setCell ⟨pz,2,none⟩ (.slice a2 n2 c2)):=gs_one (gs_one (gs_one (gs_refl _ _) _ _) _ _) _ _;go_wp2_with fail
    obtain ⟨Wz,hWz⟩:∃ W,(((u1.setCell ⟨pz,0,none⟩ (.int .i64 now)).setCell ⟨pz,1,none⟩ (.slice (some ⟨gR,0,none⟩) n c)).setCell ⟨pz,2,none⟩ (.slice a2 n2 c2))=W:=⟨_,rfl⟩
    rw [hWz] at Zz hGz ⊢;clear hWz z0 z1 z2 f0 f1 f2;obtain ⟨z0,z1,z2⟩:=r3_cells Zz;have hGs:Gs S u1 Wz:=gs_mono hGz (fun k e=>by rw [e];exact Spz);refine bodyPost_ret (v:=.agg #[.int .i64 now,.slice (some ⟨gR,0,none⟩) n c,.slice a2 n2 c2]) (by simp [results,Tryz.results21,go_sem,z0,z1,z2]) rfl ?_;exact ⟨⟨_,_,_,_,_,_,_,_,_,rfl,fun wz hz=>((QQ1.gs hGs).gs (gs_mono hz Slo)).both⟩,RR1.gs hGz kzg kzq,gr_gs GG1 hGz kz.1⟩
   have n1:(0:Int)<(sm:Int):=by omega
   obtain ⟨d,hd⟩:∃ d,sv=some ⟨d,0,none⟩:=by
    obtain ⟨v0,k0,c0,e4,_,mu,_⟩:=QQ1.f0 (by have:=QQ1.hn;omega);rw [x4] at e4;injection e4 with e5 e6 _;rcases mu.2.2 with ⟨e,_⟩ | ⟨d,e,_⟩
    ·omega
    ·exact ⟨d,e5.trans e⟩
   subst hd;have hdl:d<u1.heap.size:=(ha _ rfl).1;have hdS:¬S d:=(ha _ rfl).2.1;have hdg:¬d=g:=fun e=>hdS (by rw [e];exact Sg);have hdw:¬d=pw:=fun e=>hdS (by rw [e];exact Spw);have hdz:¬d=pz:=fun e=>hdS (by rw [e];exact Spz);have hdlo:w.heap.size≤d:=by
    rcases Nat.lt_or_ge d w.heap.size with e | e
    ·exact absurd (Slo d e) hdS
    ·exact e
   have hdR:¬d=gR:=(QQ1.d d ⟨_,_,_,x4,rfl⟩).1;have hgRg:¬gR=g:=fun e=>QQ1.lR (by rw [e];exact Sg);have hdq:len=0∨∃ b off,av=some ⟨b,off,none⟩∧¬d=b:=h.old hdlo;have htx:∀ i,i<sm→(M1.up (M1.rgA rs 0).us i).s.size≤maxLen:=hu.htxt;go_upto_region 11 with fail
   refine wp_region_held_drew (S:=fun w'=>w'.cell? ⟨pw,1,none⟩=some (.slice (some ⟨gR,0,none⟩) n c)∧w'.cell? ⟨gR,4,none⟩=some (.slice (some ⟨d,0,none⟩) sm sc)) (by kernel_rfl) ?_ (fun zH=>?_)
   ·exact ⟨d1,c4⟩
   refine uZ 0 ?_;simp only[pZ,zZ];refine uZ 1 ?_;simp only[pZ,zZ];refine uZ 2 ?_;simp only[pZ,zZ];refine uZ 3 ?_;simp only[pZ,zZ];refine uZ 4 ?_;simp only[pZ,zZ];refine uZ 5 ?_;simp only[pZ,zZ];obtain ⟨v0,hv0⟩:∃ W,u1.drew=W:=⟨_,rfl⟩
   have hb0:Below u1.heap.size u1 u1.drew:=(Below.refl _ _).drew;rw [hv0] at hb0 zH ⊢;clear hv0;have RR2:=RR1.below hb0;have hz0:=hb0.size;refine sZ 6 fun K hK=>?_;go_simp
   (refine (off_any _ _ _ _ 1 3 _ RR2 (by omega) (by omega) (by omega)).mono ?_;rintro e v1 ⟨y,rfl,_,_,RR3,hg3⟩;go_wp2_with fail)
   refine hK.out _ _ ?_ (fun zH2=>?_)
   ·exact ⟨(gr_cell hg3 (by show pw<v0.heap.size;omega) kwg 1).trans zH.1,(gr_cell hg3 (by show gR<v0.heap.size;omega) hgRg 4).trans zH.2⟩
   clear hK K zH;have zH:=zH2;clear zH2;(try simp only[pZ,zZ]);have GG3:=gr_trans (gr_trans GG1 (gr_below hb0)) hg3;have PW3:R3 v1 pw (.int .i64 now) (.slice (some ⟨gR,0,none⟩) n c) (.slice a2 n2 c2):=RowAt.gr (PW1.below hb0) hg3 kwg;have PZ3:R3 v1 pz (.int .i64 0) (.slice none 0 0) (.slice none 0 0):=RowAt.gr (PZ1.below hb0) hg3 kzg;have QQ3:=(QQ1.gs (gs_below hb0)).gs (gs_gr hg3 Sg);obtain ⟨rs9,hR9⟩:=QQ3.trace (by have:=QQ1.hn;omega) x4 hm0' y htx;have row3:RowAt v1 d (sm*13) (ucell (M1.rgA rs 0).us):=by
    obtain ⟨v0',k0,c0,e4,hl,mu,_⟩:=QQ3.f0 (by have:=QQ1.hn;omega);rw [x4] at e4;injection e4 with e5 e6 _;subst e5 e6;rcases mu.2.2 with ⟨e,_⟩ | ⟨d',e,_,_,r⟩
    ·omega
    ·injection e with e
     injection e with e _ _;subst e;exact r
   have q6:=row3.cell (o:=6) (by omega);have q7:=row3.free (o:=6) (by omega);have ql:=row3.lt;refine uZ 7 ?_;simp only[pZ,zZ];refine uZ 8 ?_;simp only[pZ,zZ];refine sZ 9 fun K hK=>?_;go_simp
   skip
   refine hK.out _ _ ?_ (fun zH2=>?_)
   ·exact ⟨(World.cell?_setCell_other _ _ _ _ (by intro q;injection q with q1 _ _;omega)).trans zH.1,(World.cell?_setCell_other _ _ _ _ (by intro q;injection q with q1 _ _;omega)).trans zH.2⟩
   clear hK K zH;have zH:=zH2;clear zH2;(try simp only[pZ,zZ]);refine dZ ?_;have hG4:Gs (fun k=>k=d) v1 (v1.setCell ⟨d,6,none⟩ (.int .i64 y)):=gs_one (gs_refl _ _) _ _;generalize v1.setCell ⟨d,6,none⟩ (.int .i64 y)=v2 at hG4 hR9 ⊢;have PW4:R3 v2 pw (.int .i64 now) (.slice (some ⟨gR,0,none⟩) n c) (.slice a2 n2 c2):=RowAt.gs PW3 hG4 (fun e=>hdw e.symm);have PZ4:R3 v2 pz (.int .i64 0) (.slice none 0 0) (.slice none 0 0):=RowAt.gs PZ3 hG4 (fun e=>hdz e.symm);have RR4:=RR3.gs hG4 hdg hdq;have GG4:=gr_gs GG3 hG4 hdlo;clear d0 d1 d2 dl;obtain ⟨d0,d1,d2⟩:=r3_cells PW4;have dl:=RowAt.lt PW4;obtain ⟨z0,z1,z2⟩:=r3_cells PZ4;obtain ⟨f0,f1,f2⟩:=r3_free PZ4;have zl:=RowAt.lt PZ4;have Zz:=r3_set2 (r3_set1 (r3_set0 PZ4 (.int .i64 now)) (.slice (some ⟨gR,0,none⟩) n c)) (.slice a2 n2 c2);have hGz:Gs (fun k=>k=pz) v2 (((v2.setCell ⟨pz,0,none⟩ (.int .i64 now)).setCell ⟨pz,1,none⟩ (.slice (some ⟨gR,0,none⟩) n c)).setCell ⟨pz,2,none⟩ (.slice a2 n2 c2)):=gs_one (gs_one (gs_one (gs_refl _ _) _ _) _ _) _ _;go_wp2_with fail
   obtain ⟨Wz,hWz⟩:∃ W,(((v2.setCell ⟨pz,0,none⟩ (.int .i64 now)).setCell ⟨pz,1,none⟩ (.slice (some ⟨gR,0,none⟩) n c)).setCell ⟨pz,2,none⟩ (.slice a2 n2 c2))=W:=⟨_,rfl⟩
   rw [hWz] at Zz hGz ⊢;clear hWz z0 z1 z2 f0 f1 f2;obtain ⟨z0,z1,z2⟩:=r3_cells Zz;have hGs:Gs S v2 Wz:=gs_mono hGz (fun k e=>by rw [e];exact Spz);refine bodyPost_ret (v:=.agg #[.int .i64 now,.slice (some ⟨gR,0,none⟩) n c,.slice a2 n2 c2]) (by simp [results,Tryz.results21,go_sem,z0,z1,z2]) rfl ?_;exact ⟨⟨_,_,_,_,_,_,_,_,_,rfl,fun wz hz=>hR9 wz (gs_trans hGs (gs_mono hz Slo))⟩,RR4.gs hGz kzg kzq,gr_gs GG4 hGz kz.1⟩
set_option maxHeartbeats 16000000 in
set_option maxRecDepth 100000 in
theorem drawWorldOk_any (av:Option Addr)(len cap:Nat)(w:World)(h:IsBytes w av len cap) :
  Calls Tryz.prog 6 #[.slice av len cap] w fun e w'=>SomeW w' e w.heap.size∧Below w.heap.size w w':=by
 have hA:Below w.heap.size w (w.alloc (.cells #[.int .i64 0,.slice none 0 0,.slice none 0 0] 27)):=(Below.refl _ _).alloc (Nat.le_refl _) _;have Z0:=r3_new w (.int .i64 0) (.slice none 0 0) (.slice none 0 0) 27;go_enter Tryz.func6,Tryz.ntmps6
 go_upto_region 1 with fail
 obtain ⟨w1,hw1⟩:∃ W,w.alloc (.cells #[.int .i64 0,.slice none 0 0,.slice none 0 0] 27)=W:=⟨_,rfl⟩
 rw [hw1] at hA Z0 ⊢;clear hw1;obtain ⟨pz,hpz⟩:∃ z,Hid (w.heap.size=z):=⟨_,rfl⟩
 rw [hpz.out] at Z0 ⊢;have kz:w.heap.size≤pz:=by have:=hpz.out;omega
 have kz1:pz<w1.heap.size:=Z0.lt;go_wp2_with fail
 refine (l1Open_any _ _ _ _ (h.below (Nat.le_refl _) hA)).mono ?_;rintro e w2 ⟨rfl,R2,hb2⟩;obtain ⟨g,hg⟩:∃ g,Hid (w1.heap.size=g):=⟨_,rfl⟩
 rw [hg.out] at R2 ⊢;have hgw:w.heap.size≤g:=by have:=hg.out;have:=hA.size;omega
 have B2:=hA.trans (hb2.mono hA.size);have Z2:=Z0.below hb2;have kg:¬pz=g:=by have:=hg.out;omega
 have hs2:=B2.size;go_wp2_with fail
 refine (world_any _ _ _ _ 14 _ R2 (by omega) (by omega)).mono ?_;rintro e w3 ⟨⟨now,a,n,c,a2,n2,c2,rs,ms,rfl,hRM⟩,R3',G3⟩;have Z3:=RowAt.gr Z2 G3 kg;have B3:=B2.trans (gr_to G3 hs2 hgw);obtain ⟨z0,z1,z2⟩:=r3_cells Z3;obtain ⟨f0,f1,f2⟩:=r3_free Z3;have zl:=Z3.lt;have hs1:=hb2.size;have Zz:=r3_set2 (r3_set1 (r3_set0 Z3 (.int .i64 now)) (.slice a n c)) (.slice a2 n2 c2);have hGz:Gs (fun k=>k=pz) w3 (((w3.setCell ⟨pz,0,none⟩ (.int .i64 now)).setCell ⟨pz,1,none⟩ (.slice a n c)).setCell ⟨pz,2,none⟩ (.slice a2 n2 c2)):=gs_one (gs_one (gs_one (gs_refl _ _) _ _) _ _) _ _;have B4:=B3.trans (gs_to hGz B3.size (fun k e=>by omega));go_wp2_with fail
 obtain ⟨Wz,hWz⟩:∃ W,((w3.setCell ⟨pz,0,none⟩ (.int .i64 now)).setCell ⟨pz,1,none⟩ (.slice a n c)).setCell ⟨pz,2,none⟩ (.slice a2 n2 c2)=W:=⟨_,rfl⟩
 rw [hWz] at Zz hGz B4 ⊢;clear hWz z0 z1 z2 f0 f1 f2;obtain ⟨z0,z1,z2⟩:=r3_cells Zz;refine bodyPost_ret (v:=.agg #[.int .i64 now,.slice a n c,.slice a2 n2 c2]) (by simp [results,Tryz.results6,go_sem,z0,z1,z2]) rfl ?_;exact ⟨⟨_,_,_,_,_,_,_,rs,ms,rfl,fun wz hz=>hRM wz (gs_trans (gs_mono hGz (fun k e=>by omega)) (gs_mono hz (fun k e=>by omega)))⟩,B4⟩
end Go.Proofs.YtgcinolbkllkkaaGreat
