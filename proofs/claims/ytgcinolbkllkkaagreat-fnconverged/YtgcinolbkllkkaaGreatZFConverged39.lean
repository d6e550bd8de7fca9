/-
  Texts of one proof, joined: Cv6.
-/
import Derived.Test.YtgcinolbkllkkaaGreatZFConverged27
import Derived.Test.YtgcinolbkllkkaaGreatZFConverged38
set_option linter.unusedSimpArgs false
set_option linter.unusedVariables false
namespace Go.Proofs.YtgcinolbkllkkaaGreat
open Go.ChangeShapes Go.WideShapes Go.ChangeAt Go.RowKit
theorem Rdr.gs {w w':World}{g p:Nat}{av:Option Addr}{len cap:Nat}(h:Rdr w g av len cap)(hg:Gs (fun k=>k=p) w w')(hp:¬p=g)(hq:len=0∨∃ b off,av=some ⟨b,off,none⟩∧¬p=b):Rdr w' g av len cap:=by
 have bg:=hg.block g h.lt (fun e=>hp e.symm);have c:∀ o,w'.cell? ⟨g,o,none⟩=w.cell? ⟨g,o,none⟩:=fun o=>World.cell?_of_block (w:=w) (a:=⟨g,o,none⟩) bg;have f:∀ o,w'.frozen? ⟨g,o,none⟩=w.frozen? ⟨g,o,none⟩:=fun o=>World.frozen?_of_block (w:=w) (a:=⟨g,o,none⟩) bg;obtain ⟨q,hq1,h1⟩:=h.c1;refine ⟨Nat.lt_of_lt_of_le h.lt hg.size,(c 0).trans h.c0,⟨q,hq1,(c 1).trans h1⟩,(f 0).trans h.f0,(f 1).trans h.f1,h.hc,h.hm,?_⟩;rcases hq with hq | ⟨b1,off1,e1,hq⟩
 ·exact Or.inl hq
 ·refine h.lies.imp id fun ⟨b,off,e,hlt,hn,hz⟩=>⟨b,off,e,Nat.lt_of_lt_of_le hlt hg.size,hn,fun i hi=>?_⟩
  obtain ⟨z,h2,h3⟩:=hz i hi;rw [e1] at e;injection e with e;injection e with e3 _ _;have bb:=hg.block b hlt (fun e4=>hq (by rw [e3];exact e4.symm));exact ⟨z,(World.cell?_of_block (w:=w) (a:=⟨b,off+i,none⟩) bb).trans h2,h3⟩
theorem gr_gs {g p:Nat}{a b c:World}(h:Gr g a b)(hz:Gs (fun k=>k=p) b c)(hp:a.heap.size≤p):Gr g a c :=
 ⟨hz.os.trans h.os,hz.tape.trans h.tape,hz.output.trans h.output,Nat.le_trans h.size hz.size,fun k hk hn=>(hz.block k (Nat.lt_of_lt_of_le hk h.size) (fun e=>by omega)).trans (h.block k hk hn)⟩
theorem r11_put {w:World}{p:Nat}{f:Nat→Value}(h:RowAt w p 11 f)(kd wh tt ta:Int)(x:M1.OpV):R11 (((((((((((w.setCell ⟨p,0,none⟩ (.int .i64 (kd))).setCell ⟨p,1,none⟩ (.int .i64 (wh))).setCell ⟨p,2,none⟩ (.int .i64 (tt))).setCell ⟨p,3,none⟩ (.int .i64 (ta))).setCell ⟨p,4,none⟩ (.int .i64 (x).k)).setCell ⟨p,5,none⟩ (.int .i64 (x).t)).setCell ⟨p,6,none⟩ (.int .i64 (x).id)).setCell ⟨p,7,none⟩ (.int .i64 (x).pa)).setCell ⟨p,8,none⟩ (.string (x).s)).setCell ⟨p,9,none⟩ (.int .i64 (x).st)).setCell ⟨p,10,none⟩ (.int .i64 (x).en)) p kd wh tt ta x :=
 RowAt.same (((((((((((h.set (o:=0) (by omega) _).set (o:=1) (by omega) _).set (o:=2) (by omega) _).set (o:=3) (by omega) _).set (o:=4) (by omega) _).set (o:=5) (by omega) _).set (o:=6) (by omega) _).set (o:=7) (by omega) _).set (o:=8) (by omega) _).set (o:=9) (by omega) _).set (o:=10) (by omega) _) fun o ho=>by
  match o,ho with
  | 0,_=>rfl
  | 1,_=>rfl
  | 2,_=>rfl
  | 3,_=>rfl
  | 4,_=>rfl
  | 5,_=>rfl
  | 6,_=>rfl
  | 7,_=>rfl
  | 8,_=>rfl
  | 9,_=>rfl
  | 10,_=>rfl
theorem r11_gs (w:World)(p:Nat)(kd wh tt ta:Int)(x:M1.OpV):Gs (fun k=>k=p) w (((((((((((w.setCell ⟨p,0,none⟩ (.int .i64 (kd))).setCell ⟨p,1,none⟩ (.int .i64 (wh))).setCell ⟨p,2,none⟩ (.int .i64 (tt))).setCell ⟨p,3,none⟩ (.int .i64 (ta))).setCell ⟨p,4,none⟩ (.int .i64 (x).k)).setCell ⟨p,5,none⟩ (.int .i64 (x).t)).setCell ⟨p,6,none⟩ (.int .i64 (x).id)).setCell ⟨p,7,none⟩ (.int .i64 (x).pa)).setCell ⟨p,8,none⟩ (.string (x).s)).setCell ⟨p,9,none⟩ (.int .i64 (x).st)).setCell ⟨p,10,none⟩ (.int .i64 (x).en)):=gs_one (gs_one (gs_one (gs_one (gs_one (gs_one (gs_one (gs_one (gs_one (gs_one (gs_one (gs_refl _ _) _ _) _ _) _ _) _ _) _ _) _ _) _ _) _ _) _ _) _ _) _ _
theorem r11_frees {w:World}{p:Nat}{f:Nat→Value}(h:RowAt w p 11 f):w.frozen? ⟨p,0,none⟩=false∧w.frozen? ⟨p,1,none⟩=false∧w.frozen? ⟨p,2,none⟩=false∧w.frozen? ⟨p,3,none⟩=false∧w.frozen? ⟨p,4,none⟩=false∧w.frozen? ⟨p,5,none⟩=false∧w.frozen? ⟨p,6,none⟩=false∧w.frozen? ⟨p,7,none⟩=false∧w.frozen? ⟨p,8,none⟩=false∧w.frozen? ⟨p,9,none⟩=false∧w.frozen? ⟨p,10,none⟩=false :=
 ⟨h.free (o:=0) (by omega),h.free (o:=1) (by omega),h.free (o:=2) (by omega),h.free (o:=3) (by omega),h.free (o:=4) (by omega),h.free (o:=5) (by omega),h.free (o:=6) (by omega),h.free (o:=7) (by omega),h.free (o:=8) (by omega),h.free (o:=9) (by omega),h.free (o:=10) (by omega)⟩
theorem two_cell {w:World}{q i:Nat}(h:RowAt w q 2 (fun o=>(#[Value.int .i64 4,.int .i64 5]:Array Value).getD o undef))(hi:i<2):∃ k:Int,w.cell? ⟨q,i,none⟩=some (.int .i64 k):=by
 have:=h.cell hi
 match i,hi with
 | 0,_=>exact ⟨4,this⟩
 | 1,_=>exact ⟨5,this⟩
def ActO (w w':World)(e:Ending)(g:Nat)(av:Option Addr)(len cap:Nat):Prop:=∃ (kd wh tt ta:Int) (x:M1.OpV),e=.returned (.agg #[.int .i64 kd,.int .i64 wh,.int .i64 tt,.int .i64 ta,.int .i64 x.k,.int .i64 x.t,.int .i64 x.id,.int .i64 x.pa,.string x.s,.int .i64 x.st,.int .i64 x.en])∧x.s.size≤4∧Rdr w' g av len cap∧Gr g w w'
set_option maxHeartbeats 64000000 in
set_option maxRecDepth 100000 in
theorem wact_any (g:Nat)(av:Option Addr)(len cap:Nat)(now:Int)(a:Option Addr)(n c:Nat)(a2:Option Addr)(n2 c2:Nat)(w:World)(h:Rdr w g av len cap)(hn2:n2≤1000000) :
  Calls Tryz.prog 52 #[.pointer (some ⟨g,0,none⟩),.agg #[.int .i64 now,.slice a n c,.slice a2 n2 c2]] w fun e w'=>ActO w w' e g av len cap:=by
 have hg:=h.lt;have hA:Below w.heap.size w ((w.alloc (.cells #[.int .i64 now,.slice a n c,.slice a2 n2 c2] 27)).alloc (.cells #[.int .i64 0,.int .i64 0,.int .i64 0,.int .i64 0,.int .i64 0,.int .i64 0,.int .i64 0,.int .i64 0,.string ⟨#[]⟩,.int .i64 0,.int .i64 0] 112)):=((Below.refl _ _).alloc (Nat.le_refl _) _).alloc (by simp) _;have A0:R3 ((w.alloc (.cells #[.int .i64 now,.slice a n c,.slice a2 n2 c2] 27)).alloc (.cells #[.int .i64 0,.int .i64 0,.int .i64 0,.int .i64 0,.int .i64 0,.int .i64 0,.int .i64 0,.int .i64 0,.string ⟨#[]⟩,.int .i64 0,.int .i64 0] 112)) w.heap.size (.int .i64 now) (.slice a n c) (.slice a2 n2 c2):=(r3_new w (.int .i64 now) (.slice a n c) (.slice a2 n2 c2) 27).alloc _;have Z0:R11 ((w.alloc (.cells #[.int .i64 now,.slice a n c,.slice a2 n2 c2] 27)).alloc (.cells #[.int .i64 0,.int .i64 0,.int .i64 0,.int .i64 0,.int .i64 0,.int .i64 0,.int .i64 0,.int .i64 0,.string ⟨#[]⟩,.int .i64 0,.int .i64 0] 112)) (w.alloc (.cells #[.int .i64 now,.slice a n c,.slice a2 n2 c2] 27)).heap.size 0 0 0 0 ⟨0,0,0,0,⟨#[]⟩,0,0⟩:=r11_new (w.alloc (.cells #[.int .i64 now,.slice a n c,.slice a2 n2 c2] 27)) 0 0 0 0 ⟨0,0,0,0,⟨#[]⟩,0,0⟩ 112;rw [show (w.alloc (.cells #[.int .i64 now,.slice a n c,.slice a2 n2 c2] 27)).heap.size=w.heap.size+1 by simp] at Z0;go_enter Tryz.func52,Tryz.ntmps52
 go_upto_region 1 with fail
 obtain ⟨w1,hw1⟩:∃ W,((w.alloc (.cells #[.int .i64 now,.slice a n c,.slice a2 n2 c2] 27)).alloc (.cells #[.int .i64 0,.int .i64 0,.int .i64 0,.int .i64 0,.int .i64 0,.int .i64 0,.int .i64 0,.int .i64 0,.string ⟨#[]⟩,.int .i64 0,.int .i64 0] 112))=W:=⟨_,rfl⟩
 rw [hw1] at hA A0 Z0 ⊢;clear hw1;obtain ⟨pz,hpz⟩:∃ z,Hid (w.heap.size+1=z):=⟨_,rfl⟩
 obtain ⟨pw,hpw⟩:∃ z,Hid (w.heap.size=z):=⟨_,rfl⟩
 rw [hpz.out] at Z0 ⊢;rw [hpw.out] at A0 ⊢;have k3:w.heap.size≤pz:=by have:=hpz.out;omega
 have kg:¬pz=g:=by omega
 have kgw:¬pw=g:=by have:=hpw.out;omega
 have kq:len=0∨∃ b off,av=some ⟨b,off,none⟩∧¬pz=b:=h.old k3;have R1:Rdr w1 g av len cap:=h.below hA;have G1:Gr g w w1:=gr_below hA;have zl1:=Z0.lt;go_wp2_with fail
 refine (below_any _ _ _ _ _ _ R1 (by omega) (by omega)).mono ?_;rintro e w2 ⟨x1,rfl,y1,q1,R2,G2⟩;go_wp2_with fail
 refine (below_any _ _ _ _ _ _ R2 (by omega) (by omega)).mono ?_;rintro e w3 ⟨kk,rfl,y2,q2,R3',G3⟩;have G03:=gr_trans G1 (gr_trans G2 G3);have A3:=(RowAt.gr A0 G2 kgw).gr G3 kgw;have Z3:R11 w3 pz 0 0 0 0 ⟨0,0,0,0,⟨#[]⟩,0,0⟩:=(RowAt.gr Z0 G2 kg).gr G3 kg;clear A0 Z0 R1 R2 G1 G2 G3 zl1;obtain ⟨d0,d1,d2⟩:=r3_cells A3;have dl:=A3.lt;obtain ⟨z0,z1,z2,z3,z4,z5,z6,z7,z8,z9,z10⟩:=r11_cells Z3;obtain ⟨f0,f1,f2,f3,f4,f5,f6,f7,f8,f9,f10⟩:=r11_frees Z3;have zl:=Z3.lt;by_cases hk0:kk=0
 case pos =>
  have b0:(kk==0)=true:=by simp [hk0]
  have b1:(kk==1)=false:=by simp [hk0]
  have b2:(kk==2)=false:=by simp [hk0]
  have b3:(kk==3)=false:=by simp [hk0]
  have b4:(kk==4)=false:=by simp [hk0]
  have b5:(kk==5)=false:=by simp [hk0]
  clear y2 q2 hk0;have hm0:0≤(1+x1) % 3:=Int.emod_nonneg _ (by omega);have hm1:(1+x1) % 3<3:=Int.emod_lt_of_pos _ (by omega);obtain ⟨tv,htv⟩:∃ k,Hid ((1+x1) % 3+1=k):=⟨_,rfl⟩
  have Zz:R11 (((((((((((w3.setCell ⟨pz,0,none⟩ (.int .i64 (2))).setCell ⟨pz,1,none⟩ (.int .i64 (1+x1))).setCell ⟨pz,2,none⟩ (.int .i64 ((1+x1) % 3+1))).setCell ⟨pz,3,none⟩ (.int .i64 (0))).setCell ⟨pz,4,none⟩ (.int .i64 0)).setCell ⟨pz,5,none⟩ (.int .i64 0)).setCell ⟨pz,6,none⟩ (.int .i64 0)).setCell ⟨pz,7,none⟩ (.int .i64 0)).setCell ⟨pz,8,none⟩ (.string ⟨#[]⟩)).setCell ⟨pz,9,none⟩ (.int .i64 0)).setCell ⟨pz,10,none⟩ (.int .i64 0)) pz (2) (1+x1) ((1+x1) % 3+1) (0) ⟨0,0,0,0,⟨#[]⟩,0,0⟩:=r11_put Z3 (2) (1+x1) ((1+x1) % 3+1) (0) ⟨0,0,0,0,⟨#[]⟩,0,0⟩;have hGz:Gs (fun k=>k=pz) w3 (((((((((((w3.setCell ⟨pz,0,none⟩ (.int .i64 (2))).setCell ⟨pz,1,none⟩ (.int .i64 (1+x1))).setCell ⟨pz,2,none⟩ (.int .i64 ((1+x1) % 3+1))).setCell ⟨pz,3,none⟩ (.int .i64 (0))).setCell ⟨pz,4,none⟩ (.int .i64 0)).setCell ⟨pz,5,none⟩ (.int .i64 0)).setCell ⟨pz,6,none⟩ (.int .i64 0)).setCell ⟨pz,7,none⟩ (.int .i64 0)).setCell ⟨pz,8,none⟩ (.string ⟨#[]⟩)).setCell ⟨pz,9,none⟩ (.int .i64 0)).setCell ⟨pz,10,none⟩ (.int .i64 0)):=r11_gs w3 pz (2) (1+x1) ((1+x1) % 3+1) (0) ⟨0,0,0,0,⟨#[]⟩,0,0⟩;go_wp2_with fail
  obtain ⟨Wz,hWz⟩:∃ W,(((((((((((w3.setCell ⟨pz,0,none⟩ (.int .i64 (2))).setCell ⟨pz,1,none⟩ (.int .i64 (1+x1))).setCell ⟨pz,2,none⟩ (.int .i64 ((1+x1) % 3+1))).setCell ⟨pz,3,none⟩ (.int .i64 (0))).setCell ⟨pz,4,none⟩ (.int .i64 0)).setCell ⟨pz,5,none⟩ (.int .i64 0)).setCell ⟨pz,6,none⟩ (.int .i64 0)).setCell ⟨pz,7,none⟩ (.int .i64 0)).setCell ⟨pz,8,none⟩ (.string ⟨#[]⟩)).setCell ⟨pz,9,none⟩ (.int .i64 0)).setCell ⟨pz,10,none⟩ (.int .i64 0))=W:=⟨_,rfl⟩
  rw [hWz] at Zz hGz ⊢;clear hWz;clear z0 z1 z2 z3 z4 z5 z6 z7 z8 z9 z10 f0 f1 f2 f3 f4 f5 f6 f7 f8 f9 f10;obtain ⟨z0,z1,z2,z3,z4,z5,z6,z7,z8,z9,z10⟩:=r11_cells Zz;refine bodyPost_ret (v:=.agg #[.int .i64 (2),.int .i64 (1+x1),.int .i64 ((1+x1) % 3+1),.int .i64 (0),.int .i64 0,.int .i64 0,.int .i64 0,.int .i64 0,.string ⟨#[]⟩,.int .i64 0,.int .i64 0]) (by simp [results,Tryz.results52,go_sem,z0,z1,z2,z3,z4,z5,z6,z7,z8,z9,z10]) rfl ?_;exact ⟨_,_,_,_,⟨0,0,0,0,⟨#[]⟩,0,0⟩,rfl,by decide,R3'.gs hGz kg kq,gr_gs G03 hGz k3⟩
 by_cases hk1:kk=1
 case pos =>
  have b0:(kk==0)=false:=by simp [hk1]
  have b1:(kk==1)=true:=by simp [hk1]
  have b2:(kk==2)=false:=by simp [hk1]
  have b3:(kk==3)=false:=by simp [hk1]
  have b4:(kk==4)=false:=by simp [hk1]
  have b5:(kk==5)=false:=by simp [hk1]
  clear y2 q2 hk0 hk1;have hm0:0≤(1+x1) % 3:=Int.emod_nonneg _ (by omega);have hm1:(1+x1) % 3<3:=Int.emod_lt_of_pos _ (by omega);obtain ⟨tv,htv⟩:∃ k,Hid ((1+x1) % 3+1=k):=⟨_,rfl⟩
  have Zz:R11 (((((((((((w3.setCell ⟨pz,0,none⟩ (.int .i64 (2))).setCell ⟨pz,1,none⟩ (.int .i64 (1+x1))).setCell ⟨pz,2,none⟩ (.int .i64 ((1+x1) % 3+1))).setCell ⟨pz,3,none⟩ (.int .i64 (0))).setCell ⟨pz,4,none⟩ (.int .i64 0)).setCell ⟨pz,5,none⟩ (.int .i64 0)).setCell ⟨pz,6,none⟩ (.int .i64 0)).setCell ⟨pz,7,none⟩ (.int .i64 0)).setCell ⟨pz,8,none⟩ (.string ⟨#[]⟩)).setCell ⟨pz,9,none⟩ (.int .i64 0)).setCell ⟨pz,10,none⟩ (.int .i64 0)) pz (2) (1+x1) ((1+x1) % 3+1) (0) ⟨0,0,0,0,⟨#[]⟩,0,0⟩:=r11_put Z3 (2) (1+x1) ((1+x1) % 3+1) (0) ⟨0,0,0,0,⟨#[]⟩,0,0⟩;have hGz:Gs (fun k=>k=pz) w3 (((((((((((w3.setCell ⟨pz,0,none⟩ (.int .i64 (2))).setCell ⟨pz,1,none⟩ (.int .i64 (1+x1))).setCell ⟨pz,2,none⟩ (.int .i64 ((1+x1) % 3+1))).setCell ⟨pz,3,none⟩ (.int .i64 (0))).setCell ⟨pz,4,none⟩ (.int .i64 0)).setCell ⟨pz,5,none⟩ (.int .i64 0)).setCell ⟨pz,6,none⟩ (.int .i64 0)).setCell ⟨pz,7,none⟩ (.int .i64 0)).setCell ⟨pz,8,none⟩ (.string ⟨#[]⟩)).setCell ⟨pz,9,none⟩ (.int .i64 0)).setCell ⟨pz,10,none⟩ (.int .i64 0)):=r11_gs w3 pz (2) (1+x1) ((1+x1) % 3+1) (0) ⟨0,0,0,0,⟨#[]⟩,0,0⟩;go_wp2_with fail
  obtain ⟨Wz,hWz⟩:∃ W,(((((((((((w3.setCell ⟨pz,0,none⟩ (.int .i64 (2))).setCell ⟨pz,1,none⟩ (.int .i64 (1+x1))).setCell ⟨pz,2,none⟩ (.int .i64 ((1+x1) % 3+1))).setCell ⟨pz,3,none⟩ (.int .i64 (0))).setCell ⟨pz,4,none⟩ (.int .i64 0)).setCell ⟨pz,5,none⟩ (.int .i64 0)).setCell ⟨pz,6,none⟩ (.int .i64 0)).setCell ⟨pz,7,none⟩ (.int .i64 0)).setCell ⟨pz,8,none⟩ (.string ⟨#[]⟩)).setCell ⟨pz,9,none⟩ (.int .i64 0)).setCell ⟨pz,10,none⟩ (.int .i64 0))=W:=⟨_,rfl⟩
  rw [hWz] at Zz hGz ⊢;clear hWz;clear z0 z1 z2 z3 z4 z5 z6 z7 z8 z9 z10 f0 f1 f2 f3 f4 f5 f6 f7 f8 f9 f10;obtain ⟨z0,z1,z2,z3,z4,z5,z6,z7,z8,z9,z10⟩:=r11_cells Zz;refine bodyPost_ret (v:=.agg #[.int .i64 (2),.int .i64 (1+x1),.int .i64 ((1+x1) % 3+1),.int .i64 (0),.int .i64 0,.int .i64 0,.int .i64 0,.int .i64 0,.string ⟨#[]⟩,.int .i64 0,.int .i64 0]) (by simp [results,Tryz.results52,go_sem,z0,z1,z2,z3,z4,z5,z6,z7,z8,z9,z10]) rfl ?_;exact ⟨_,_,_,_,⟨0,0,0,0,⟨#[]⟩,0,0⟩,rfl,by decide,R3'.gs hGz kg kq,gr_gs G03 hGz k3⟩
 by_cases hk2:kk=2
 case pos =>
  have b0:(kk==0)=false:=by simp [hk2]
  have b1:(kk==1)=false:=by simp [hk2]
  have b2:(kk==2)=true:=by simp [hk2]
  have b3:(kk==3)=false:=by simp [hk2]
  have b4:(kk==4)=false:=by simp [hk2]
  have b5:(kk==5)=false:=by simp [hk2]
  clear y2 q2 hk0 hk1 hk2;by_cases hl:0<n2
  case pos =>
   have hl1:(0:Int)<(n2:Int):=by omega
   clear z0 z1 z2 z3 z4 z5 z6 z7 z8 z9 z10 f0 f1 f2 f3 f4 f5 f6 f7 f8 f9 f10;go_wp2_with fail
   refine (below_any _ _ _ _ _ _ R3' (by omega) (by omega)).mono ?_;rintro e w4 ⟨x4,rfl,y4,q4,R4,G4⟩;have G04:=gr_trans G03 G4;have Z4:R11 w4 pz 0 0 0 0 ⟨0,0,0,0,⟨#[]⟩,0,0⟩:=RowAt.gr Z3 G4 kg;obtain ⟨z0,z1,z2,z3,z4,z5,z6,z7,z8,z9,z10⟩:=r11_cells Z4;obtain ⟨f0,f1,f2,f3,f4,f5,f6,f7,f8,f9,f10⟩:=r11_frees Z4;have zl':=Z4.lt;have Zz:R11 (((((((((((w4.setCell ⟨pz,0,none⟩ (.int .i64 (3))).setCell ⟨pz,1,none⟩ (.int .i64 (0))).setCell ⟨pz,2,none⟩ (.int .i64 (0))).setCell ⟨pz,3,none⟩ (.int .i64 (x4))).setCell ⟨pz,4,none⟩ (.int .i64 0)).setCell ⟨pz,5,none⟩ (.int .i64 0)).setCell ⟨pz,6,none⟩ (.int .i64 0)).setCell ⟨pz,7,none⟩ (.int .i64 0)).setCell ⟨pz,8,none⟩ (.string ⟨#[]⟩)).setCell ⟨pz,9,none⟩ (.int .i64 0)).setCell ⟨pz,10,none⟩ (.int .i64 0)) pz (3) (0) (0) (x4) ⟨0,0,0,0,⟨#[]⟩,0,0⟩:=r11_put Z4 (3) (0) (0) (x4) ⟨0,0,0,0,⟨#[]⟩,0,0⟩;have hGz:Gs (fun k=>k=pz) w4 (((((((((((w4.setCell ⟨pz,0,none⟩ (.int .i64 (3))).setCell ⟨pz,1,none⟩ (.int .i64 (0))).setCell ⟨pz,2,none⟩ (.int .i64 (0))).setCell ⟨pz,3,none⟩ (.int .i64 (x4))).setCell ⟨pz,4,none⟩ (.int .i64 0)).setCell ⟨pz,5,none⟩ (.int .i64 0)).setCell ⟨pz,6,none⟩ (.int .i64 0)).setCell ⟨pz,7,none⟩ (.int .i64 0)).setCell ⟨pz,8,none⟩ (.string ⟨#[]⟩)).setCell ⟨pz,9,none⟩ (.int .i64 0)).setCell ⟨pz,10,none⟩ (.int .i64 0)):=r11_gs w4 pz (3) (0) (0) (x4) ⟨0,0,0,0,⟨#[]⟩,0,0⟩;go_wp2_with fail
   obtain ⟨Wz,hWz⟩:∃ W,(((((((((((w4.setCell ⟨pz,0,none⟩ (.int .i64 (3))).setCell ⟨pz,1,none⟩ (.int .i64 (0))).setCell ⟨pz,2,none⟩ (.int .i64 (0))).setCell ⟨pz,3,none⟩ (.int .i64 (x4))).setCell ⟨pz,4,none⟩ (.int .i64 0)).setCell ⟨pz,5,none⟩ (.int .i64 0)).setCell ⟨pz,6,none⟩ (.int .i64 0)).setCell ⟨pz,7,none⟩ (.int .i64 0)).setCell ⟨pz,8,none⟩ (.string ⟨#[]⟩)).setCell ⟨pz,9,none⟩ (.int .i64 0)).setCell ⟨pz,10,none⟩ (.int .i64 0))=W:=⟨_,rfl⟩
   rw [hWz] at Zz hGz ⊢;clear hWz;clear z0 z1 z2 z3 z4 z5 z6 z7 z8 z9 z10 f0 f1 f2 f3 f4 f5 f6 f7 f8 f9 f10;obtain ⟨z0,z1,z2,z3,z4,z5,z6,z7,z8,z9,z10⟩:=r11_cells Zz;refine bodyPost_ret (v:=.agg #[.int .i64 (3),.int .i64 (0),.int .i64 (0),.int .i64 (x4),.int .i64 0,.int .i64 0,.int .i64 0,.int .i64 0,.string ⟨#[]⟩,.int .i64 0,.int .i64 0]) (by simp [results,Tryz.results52,go_sem,z0,z1,z2,z3,z4,z5,z6,z7,z8,z9,z10]) rfl ?_;exact ⟨_,_,_,_,⟨0,0,0,0,⟨#[]⟩,0,0⟩,rfl,by decide,R4.gs hGz kg kq,gr_gs G04 hGz k3⟩
  have hl1:¬(0:Int)<(n2:Int):=by omega
  have hl2:¬0<n2:=hl;clear hl;clear z0 z1 z2 z3 z4 z5 z6 z7 z8 z9 z10 f0 f1 f2 f3 f4 f5 f6 f7 f8 f9 f10;go_wp2_with fail
  refine (op_any _ _ _ _ _ R3').mono ?_;rintro e t1 ⟨⟨x,rfl,hx⟩,Ra,Ga⟩;have Gb:=gr_trans G03 Ga;have Za:R11 t1 pz 0 0 0 0 ⟨0,0,0,0,⟨#[]⟩,0,0⟩:=RowAt.gr Z3 Ga kg;have hsa:=Gb.size;have hAt:Below t1.heap.size t1 (t1.alloc (.cells #[.int .i64 1,.int .i64 (1+x1),.int .i64 0,.int .i64 0,.int .i64 x.k,.int .i64 x.t,.int .i64 x.id,.int .i64 x.pa,.string x.s,.int .i64 x.st,.int .i64 x.en] 112)):=(Below.refl _ _).alloc (Nat.le_refl _) _;have Q2:=r11_new t1 1 (1+x1) 0 0 x 112;go_upto_region 15 with fail
  obtain ⟨t2,ht2⟩:∃ W,t1.alloc (.cells #[.int .i64 1,.int .i64 (1+x1),.int .i64 0,.int .i64 0,.int .i64 x.k,.int .i64 x.t,.int .i64 x.id,.int .i64 x.pa,.string x.s,.int .i64 x.st,.int .i64 x.en] 112)=W:=⟨_,rfl⟩
  rw [ht2] at hAt Q2 ⊢;clear ht2;obtain ⟨pq,hpq⟩:∃ z,Hid (t1.heap.size=z):=⟨_,rfl⟩
  rw [hpq.out] at Q2 ⊢;have kq2:w.heap.size≤pq:=by have:=hpq.out;omega
  have kqg:¬pq=g:=by omega
  have kqz:¬pq=pz:=by have:=hpq.out;have:=Za.lt;omega
  have kqq:len=0∨∃ b off,av=some ⟨b,off,none⟩∧¬pq=b:=h.old kq2;have Rb:=Ra.below hAt;have Zb:R11 t2 pz 0 0 0 0 ⟨0,0,0,0,⟨#[]⟩,0,0⟩:=RowAt.below Za hAt;have Gc:=gr_trans Gb (gr_below hAt);go_wp2_with fail
  refine (once_any _ _ _ _ _ _ Rb (by omega) (by omega)).mono ?_;rintro e t3 ⟨b3,rfl,Rc,Gd⟩;have Ge:=gr_trans Gc Gd;have Q3:R11 t3 pq 1 (1+x1) 0 0 x:=RowAt.gr Q2 Gd kqg;have Zc:R11 t3 pz 0 0 0 0 ⟨0,0,0,0,⟨#[]⟩,0,0⟩:=RowAt.gr Zb Gd kg
  cases b3 with
  | false =>
   obtain ⟨s0,s1,s2,s3,s4,s5,s6,s7,s8,s9,s10⟩:=r11_cells Q3;have sl:=Q3.lt;obtain ⟨z0,z1,z2,z3,z4,z5,z6,z7,z8,z9,z10⟩:=r11_cells Zc;obtain ⟨f0,f1,f2,f3,f4,f5,f6,f7,f8,f9,f10⟩:=r11_frees Zc;have zl':=Zc.lt;have Zz:R11 (((((((((((t3.setCell ⟨pz,0,none⟩ (.int .i64 (1))).setCell ⟨pz,1,none⟩ (.int .i64 (1+x1))).setCell ⟨pz,2,none⟩ (.int .i64 (0))).setCell ⟨pz,3,none⟩ (.int .i64 (0))).setCell ⟨pz,4,none⟩ (.int .i64 x.k)).setCell ⟨pz,5,none⟩ (.int .i64 x.t)).setCell ⟨pz,6,none⟩ (.int .i64 x.id)).setCell ⟨pz,7,none⟩ (.int .i64 x.pa)).setCell ⟨pz,8,none⟩ (.string x.s)).setCell ⟨pz,9,none⟩ (.int .i64 x.st)).setCell ⟨pz,10,none⟩ (.int .i64 x.en)) pz (1) (1+x1) (0) (0) x:=r11_put Zc (1) (1+x1) (0) (0) x;have hGz:Gs (fun k=>k=pz) t3 (((((((((((t3.setCell ⟨pz,0,none⟩ (.int .i64 (1))).setCell ⟨pz,1,none⟩ (.int .i64 (1+x1))).setCell ⟨pz,2,none⟩ (.int .i64 (0))).setCell ⟨pz,3,none⟩ (.int .i64 (0))).setCell ⟨pz,4,none⟩ (.int .i64 x.k)).setCell ⟨pz,5,none⟩ (.int .i64 x.t)).setCell ⟨pz,6,none⟩ (.int .i64 x.id)).setCell ⟨pz,7,none⟩ (.int .i64 x.pa)).setCell ⟨pz,8,none⟩ (.string x.s)).setCell ⟨pz,9,none⟩ (.int .i64 x.st)).setCell ⟨pz,10,none⟩ (.int .i64 x.en)):=r11_gs t3 pz (1) (1+x1) (0) (0) x;go_wp2_with fail
   obtain ⟨Wz,hWz⟩:∃ W,(((((((((((t3.setCell ⟨pz,0,none⟩ (.int .i64 (1))).setCell ⟨pz,1,none⟩ (.int .i64 (1+x1))).setCell ⟨pz,2,none⟩ (.int .i64 (0))).setCell ⟨pz,3,none⟩ (.int .i64 (0))).setCell ⟨pz,4,none⟩ (.int .i64 x.k)).setCell ⟨pz,5,none⟩ (.int .i64 x.t)).setCell ⟨pz,6,none⟩ (.int .i64 x.id)).setCell ⟨pz,7,none⟩ (.int .i64 x.pa)).setCell ⟨pz,8,none⟩ (.string x.s)).setCell ⟨pz,9,none⟩ (.int .i64 x.st)).setCell ⟨pz,10,none⟩ (.int .i64 x.en))=W:=⟨_,rfl⟩
   rw [hWz] at Zz hGz ⊢;clear hWz;clear z0 z1 z2 z3 z4 z5 z6 z7 z8 z9 z10 f0 f1 f2 f3 f4 f5 f6 f7 f8 f9 f10;obtain ⟨z0,z1,z2,z3,z4,z5,z6,z7,z8,z9,z10⟩:=r11_cells Zz;refine bodyPost_ret (v:=.agg #[.int .i64 (1),.int .i64 (1+x1),.int .i64 (0),.int .i64 (0),.int .i64 x.k,.int .i64 x.t,.int .i64 x.id,.int .i64 x.pa,.string x.s,.int .i64 x.st,.int .i64 x.en]) (by simp [results,Tryz.results52,go_sem,z0,z1,z2,z3,z4,z5,z6,z7,z8,z9,z10]) rfl ?_;exact ⟨_,_,_,_,x,rfl,hx,Rc.gs hGz kg kq,gr_gs Ge hGz k3⟩
  | true =>
   go_wp2_with fail
   refine (off_any _ _ _ _ _ _ _ Rc (by omega) (by omega) (by omega)).mono ?_;rintro e t4 ⟨y,rfl,_,_,Rd,Gf⟩;have Gg:=gr_trans Ge Gf;have Q4:R11 t4 pq 1 (1+x1) 0 0 x:=RowAt.gr Q3 Gf kqg;have Zd:R11 t4 pz 0 0 0 0 ⟨0,0,0,0,⟨#[]⟩,0,0⟩:=RowAt.gr Zc Gf kg;obtain ⟨s0,s1,s2,s3,s4,s5,s6,s7,s8,s9,s10⟩:=r11_cells Q4;obtain ⟨g0,g1,g2,g3,g4,g5,g6,g7,g8,g9,g10⟩:=r11_frees Q4;have sl:=Q4.lt;have Q5:R11 (t4.setCell ⟨pq,0,none⟩ (.int .i64 y)) pq y (1+x1) 0 0 x:=RowAt.same (Q4.set (o:=0) (by omega) (.int .i64 y)) fun o ho=>by
    match o,ho with
    | 0,_=>rfl
    | 1,_=>rfl
    | 2,_=>rfl
    | 3,_=>rfl
    | 4,_=>rfl
    | 5,_=>rfl
    | 6,_=>rfl
    | 7,_=>rfl
    | 8,_=>rfl
    | 9,_=>rfl
    | 10,_=>rfl
   have hGq:Gs (fun k=>k=pq) t4 (t4.setCell ⟨pq,0,none⟩ (.int .i64 y)):=gs_one (gs_refl _ _) _ _;have Re:=Rd.gs hGq kqg kqq;have Gh:=gr_gs Gg hGq kq2;have Ze:R11 (t4.setCell ⟨pq,0,none⟩ (.int .i64 y)) pz 0 0 0 0 ⟨0,0,0,0,⟨#[]⟩,0,0⟩:=Zd.far (p:=⟨pq,0,none⟩) kqz (.int .i64 y);go_upto_region 17 with fail
   obtain ⟨t5,ht5⟩:∃ W,t4.setCell ⟨pq,0,none⟩ (.int .i64 y)=W:=⟨_,rfl⟩
   rw [ht5] at Q5 Re Gh Ze ⊢;clear ht5 s0 s1 s2 s3 s4 s5 s6 s7 s8 s9 s10 g0 g1 g2 g3 g4 g5 g6 g7 g8 g9 g10 sl;obtain ⟨s0,s1,s2,s3,s4,s5,s6,s7,s8,s9,s10⟩:=r11_cells Q5;have sl:=Q5.lt;obtain ⟨z0,z1,z2,z3,z4,z5,z6,z7,z8,z9,z10⟩:=r11_cells Ze;obtain ⟨f0,f1,f2,f3,f4,f5,f6,f7,f8,f9,f10⟩:=r11_frees Ze;have zl':=Ze.lt;have Zz:R11 (((((((((((t5.setCell ⟨pz,0,none⟩ (.int .i64 (y))).setCell ⟨pz,1,none⟩ (.int .i64 (1+x1))).setCell ⟨pz,2,none⟩ (.int .i64 (0))).setCell ⟨pz,3,none⟩ (.int .i64 (0))).setCell ⟨pz,4,none⟩ (.int .i64 x.k)).setCell ⟨pz,5,none⟩ (.int .i64 x.t)).setCell ⟨pz,6,none⟩ (.int .i64 x.id)).setCell ⟨pz,7,none⟩ (.int .i64 x.pa)).setCell ⟨pz,8,none⟩ (.string x.s)).setCell ⟨pz,9,none⟩ (.int .i64 x.st)).setCell ⟨pz,10,none⟩ (.int .i64 x.en)) pz (y) (1+x1) (0) (0) x:=r11_put Ze (y) (1+x1) (0) (0) x;have hGz:Gs (fun k=>k=pz) t5 (((((((((((t5.setCell ⟨pz,0,none⟩ (.int .i64 (y))).setCell ⟨pz,1,none⟩ (.int .i64 (1+x1))).setCell ⟨pz,2,none⟩ (.int .i64 (0))).setCell ⟨pz,3,none⟩ (.int .i64 (0))).setCell ⟨pz,4,none⟩ (.int .i64 x.k)).setCell ⟨pz,5,none⟩ (.int .i64 x.t)).setCell ⟨pz,6,none⟩ (.int .i64 x.id)).setCell ⟨pz,7,none⟩ (.int .i64 x.pa)).setCell ⟨pz,8,none⟩ (.string x.s)).setCell ⟨pz,9,none⟩ (.int .i64 x.st)).setCell ⟨pz,10,none⟩ (.int .i64 x.en)):=r11_gs t5 pz (y) (1+x1) (0) (0) x;go_wp2_with fail
   obtain ⟨Wz,hWz⟩:∃ W,(((((((((((t5.setCell ⟨pz,0,none⟩ (.int .i64 (y))).setCell ⟨pz,1,none⟩ (.int .i64 (1+x1))).setCell ⟨pz,2,none⟩ (.int .i64 (0))).setCell ⟨pz,3,none⟩ (.int .i64 (0))).setCell ⟨pz,4,none⟩ (.int .i64 x.k)).setCell ⟨pz,5,none⟩ (.int .i64 x.t)).setCell ⟨pz,6,none⟩ (.int .i64 x.id)).setCell ⟨pz,7,none⟩ (.int .i64 x.pa)).setCell ⟨pz,8,none⟩ (.string x.s)).setCell ⟨pz,9,none⟩ (.int .i64 x.st)).setCell ⟨pz,10,none⟩ (.int .i64 x.en))=W:=⟨_,rfl⟩
   rw [hWz] at Zz hGz ⊢;clear hWz;clear z0 z1 z2 z3 z4 z5 z6 z7 z8 z9 z10 f0 f1 f2 f3 f4 f5 f6 f7 f8 f9 f10;obtain ⟨z0,z1,z2,z3,z4,z5,z6,z7,z8,z9,z10⟩:=r11_cells Zz;refine bodyPost_ret (v:=.agg #[.int .i64 (y),.int .i64 (1+x1),.int .i64 (0),.int .i64 (0),.int .i64 x.k,.int .i64 x.t,.int .i64 x.id,.int .i64 x.pa,.string x.s,.int .i64 x.st,.int .i64 x.en]) (by simp [results,Tryz.results52,go_sem,z0,z1,z2,z3,z4,z5,z6,z7,z8,z9,z10]) rfl ?_;exact ⟨_,_,_,_,x,rfl,hx,Re.gs hGz kg kq,gr_gs Gh hGz k3⟩
 by_cases hk3:kk=3
 case pos =>
  have b0:(kk==0)=false:=by simp [hk3]
  have b1:(kk==1)=false:=by simp [hk3]
  have b2:(kk==2)=false:=by simp [hk3]
  have b3:(kk==3)=true:=by simp [hk3]
  have b4:(kk==4)=false:=by simp [hk3]
  have b5:(kk==5)=false:=by simp [hk3]
  clear y2 q2 hk0 hk1 hk2 hk3;by_cases hl:0<n2
  case pos =>
   have hl1:(0:Int)<(n2:Int):=by omega
   clear z0 z1 z2 z3 z4 z5 z6 z7 z8 z9 z10 f0 f1 f2 f3 f4 f5 f6 f7 f8 f9 f10;go_wp2_with fail
   refine (below_any _ _ _ _ _ _ R3' (by omega) (by omega)).mono ?_;rintro e w4 ⟨x4,rfl,y4,q4,R4,G4⟩;have G04:=gr_trans G03 G4;have Z4:R11 w4 pz 0 0 0 0 ⟨0,0,0,0,⟨#[]⟩,0,0⟩:=RowAt.gr Z3 G4 kg;obtain ⟨z0,z1,z2,z3,z4,z5,z6,z7,z8,z9,z10⟩:=r11_cells Z4;obtain ⟨f0,f1,f2,f3,f4,f5,f6,f7,f8,f9,f10⟩:=r11_frees Z4;have zl':=Z4.lt;have Zz:R11 (((((((((((w4.setCell ⟨pz,0,none⟩ (.int .i64 (3))).setCell ⟨pz,1,none⟩ (.int .i64 (0))).setCell ⟨pz,2,none⟩ (.int .i64 (0))).setCell ⟨pz,3,none⟩ (.int .i64 (x4))).setCell ⟨pz,4,none⟩ (.int .i64 0)).setCell ⟨pz,5,none⟩ (.int .i64 0)).setCell ⟨pz,6,none⟩ (.int .i64 0)).setCell ⟨pz,7,none⟩ (.int .i64 0)).setCell ⟨pz,8,none⟩ (.string ⟨#[]⟩)).setCell ⟨pz,9,none⟩ (.int .i64 0)).setCell ⟨pz,10,none⟩ (.int .i64 0)) pz (3) (0) (0) (x4) ⟨0,0,0,0,⟨#[]⟩,0,0⟩:=r11_put Z4 (3) (0) (0) (x4) ⟨0,0,0,0,⟨#[]⟩,0,0⟩;have hGz:Gs (fun k=>k=pz) w4 (((((((((((w4.setCell ⟨pz,0,none⟩ (.int .i64 (3))).setCell ⟨pz,1,none⟩ (.int .i64 (0))).setCell ⟨pz,2,none⟩ (.int .i64 (0))).setCell ⟨pz,3,none⟩ (.int .i64 (x4))).setCell ⟨pz,4,none⟩ (.int .i64 0)).setCell ⟨pz,5,none⟩ (.int .i64 0)).setCell ⟨pz,6,none⟩ (.int .i64 0)).setCell ⟨pz,7,none⟩ (.int .i64 0)).setCell ⟨pz,8,none⟩ (.string ⟨#[]⟩)).setCell ⟨pz,9,none⟩ (.int .i64 0)).setCell ⟨pz,10,none⟩ (.int .i64 0)):=r11_gs w4 pz (3) (0) (0) (x4) ⟨0,0,0,0,⟨#[]⟩,0,0⟩;go_wp2_with fail
   obtain ⟨Wz,hWz⟩:∃ W,(((((((((((w4.setCell ⟨pz,0,none⟩ (.int .i64 (3))).setCell ⟨pz,1,none⟩ (.int .i64 (0))).setCell ⟨pz,2,none⟩ (.int .i64 (0))).setCell ⟨pz,3,none⟩ (.int .i64 (x4))).setCell ⟨pz,4,none⟩ (.int .i64 0)).setCell ⟨pz,5,none⟩ (.int .i64 0)).setCell ⟨pz,6,none⟩ (.int .i64 0)).setCell ⟨pz,7,none⟩ (.int .i64 0)).setCell ⟨pz,8,none⟩ (.string ⟨#[]⟩)).setCell ⟨pz,9,none⟩ (.int .i64 0)).setCell ⟨pz,10,none⟩ (.int .i64 0))=W:=⟨_,rfl⟩
   rw [hWz] at Zz hGz ⊢;clear hWz;clear z0 z1 z2 z3 z4 z5 z6 z7 z8 z9 z10 f0 f1 f2 f3 f4 f5 f6 f7 f8 f9 f10;obtain ⟨z0,z1,z2,z3,z4,z5,z6,z7,z8,z9,z10⟩:=r11_cells Zz;refine bodyPost_ret (v:=.agg #[.int .i64 (3),.int .i64 (0),.int .i64 (0),.int .i64 (x4),.int .i64 0,.int .i64 0,.int .i64 0,.int .i64 0,.string ⟨#[]⟩,.int .i64 0,.int .i64 0]) (by simp [results,Tryz.results52,go_sem,z0,z1,z2,z3,z4,z5,z6,z7,z8,z9,z10]) rfl ?_;exact ⟨_,_,_,_,⟨0,0,0,0,⟨#[]⟩,0,0⟩,rfl,by decide,R4.gs hGz kg kq,gr_gs G04 hGz k3⟩
  have hl1:¬(0:Int)<(n2:Int):=by omega
  have hl2:¬0<n2:=hl;clear hl;clear z0 z1 z2 z3 z4 z5 z6 z7 z8 z9 z10 f0 f1 f2 f3 f4 f5 f6 f7 f8 f9 f10;go_wp2_with fail
  refine (op_any _ _ _ _ _ R3').mono ?_;rintro e t1 ⟨⟨x,rfl,hx⟩,Ra,Ga⟩;have Gb:=gr_trans G03 Ga;have Za:R11 t1 pz 0 0 0 0 ⟨0,0,0,0,⟨#[]⟩,0,0⟩:=RowAt.gr Z3 Ga kg;have hsa:=Gb.size;have hAt:Below t1.heap.size t1 (t1.alloc (.cells #[.int .i64 1,.int .i64 (1+x1),.int .i64 0,.int .i64 0,.int .i64 x.k,.int .i64 x.t,.int .i64 x.id,.int .i64 x.pa,.string x.s,.int .i64 x.st,.int .i64 x.en] 112)):=(Below.refl _ _).alloc (Nat.le_refl _) _;have Q2:=r11_new t1 1 (1+x1) 0 0 x 112;go_upto_region 15 with fail
  obtain ⟨t2,ht2⟩:∃ W,t1.alloc (.cells #[.int .i64 1,.int .i64 (1+x1),.int .i64 0,.int .i64 0,.int .i64 x.k,.int .i64 x.t,.int .i64 x.id,.int .i64 x.pa,.string x.s,.int .i64 x.st,.int .i64 x.en] 112)=W:=⟨_,rfl⟩
  rw [ht2] at hAt Q2 ⊢;clear ht2;obtain ⟨pq,hpq⟩:∃ z,Hid (t1.heap.size=z):=⟨_,rfl⟩
  rw [hpq.out] at Q2 ⊢;have kq2:w.heap.size≤pq:=by have:=hpq.out;omega
  have kqg:¬pq=g:=by omega
  have kqz:¬pq=pz:=by have:=hpq.out;have:=Za.lt;omega
  have kqq:len=0∨∃ b off,av=some ⟨b,off,none⟩∧¬pq=b:=h.old kq2;have Rb:=Ra.below hAt;have Zb:R11 t2 pz 0 0 0 0 ⟨0,0,0,0,⟨#[]⟩,0,0⟩:=RowAt.below Za hAt;have Gc:=gr_trans Gb (gr_below hAt);go_wp2_with fail
  refine (once_any _ _ _ _ _ _ Rb (by omega) (by omega)).mono ?_;rintro e t3 ⟨b3,rfl,Rc,Gd⟩;have Ge:=gr_trans Gc Gd;have Q3:R11 t3 pq 1 (1+x1) 0 0 x:=RowAt.gr Q2 Gd kqg;have Zc:R11 t3 pz 0 0 0 0 ⟨0,0,0,0,⟨#[]⟩,0,0⟩:=RowAt.gr Zb Gd kg
  cases b3 with
  | false =>
   obtain ⟨s0,s1,s2,s3,s4,s5,s6,s7,s8,s9,s10⟩:=r11_cells Q3;have sl:=Q3.lt;obtain ⟨z0,z1,z2,z3,z4,z5,z6,z7,z8,z9,z10⟩:=r11_cells Zc;obtain ⟨f0,f1,f2,f3,f4,f5,f6,f7,f8,f9,f10⟩:=r11_frees Zc;have zl':=Zc.lt;have Zz:R11 (((((((((((t3.setCell ⟨pz,0,none⟩ (.int .i64 (1))).setCell ⟨pz,1,none⟩ (.int .i64 (1+x1))).setCell ⟨pz,2,none⟩ (.int .i64 (0))).setCell ⟨pz,3,none⟩ (.int .i64 (0))).setCell ⟨pz,4,none⟩ (.int .i64 x.k)).setCell ⟨pz,5,none⟩ (.int .i64 x.t)).setCell ⟨pz,6,none⟩ (.int .i64 x.id)).setCell ⟨pz,7,none⟩ (.int .i64 x.pa)).setCell ⟨pz,8,none⟩ (.string x.s)).setCell ⟨pz,9,none⟩ (.int .i64 x.st)).setCell ⟨pz,10,none⟩ (.int .i64 x.en)) pz (1) (1+x1) (0) (0) x:=r11_put Zc (1) (1+x1) (0) (0) x;have hGz:Gs (fun k=>k=pz) t3 (((((((((((t3.setCell ⟨pz,0,none⟩ (.int .i64 (1))).setCell ⟨pz,1,none⟩ (.int .i64 (1+x1))).setCell ⟨pz,2,none⟩ (.int .i64 (0))).setCell ⟨pz,3,none⟩ (.int .i64 (0))).setCell ⟨pz,4,none⟩ (.int .i64 x.k)).setCell ⟨pz,5,none⟩ (.int .i64 x.t)).setCell ⟨pz,6,none⟩ (.int .i64 x.id)).setCell ⟨pz,7,none⟩ (.int .i64 x.pa)).setCell ⟨pz,8,none⟩ (.string x.s)).setCell ⟨pz,9,none⟩ (.int .i64 x.st)).setCell ⟨pz,10,none⟩ (.int .i64 x.en)):=r11_gs t3 pz (1) (1+x1) (0) (0) x;go_wp2_with fail
   obtain ⟨Wz,hWz⟩:∃ W,(((((((((((t3.setCell ⟨pz,0,none⟩ (.int .i64 (1))).setCell ⟨pz,1,none⟩ (.int .i64 (1+x1))).setCell ⟨pz,2,none⟩ (.int .i64 (0))).setCell ⟨pz,3,none⟩ (.int .i64 (0))).setCell ⟨pz,4,none⟩ (.int .i64 x.k)).setCell ⟨pz,5,none⟩ (.int .i64 x.t)).setCell ⟨pz,6,none⟩ (.int .i64 x.id)).setCell ⟨pz,7,none⟩ (.int .i64 x.pa)).setCell ⟨pz,8,none⟩ (.string x.s)).setCell ⟨pz,9,none⟩ (.int .i64 x.st)).setCell ⟨pz,10,none⟩ (.int .i64 x.en))=W:=⟨_,rfl⟩
   rw [hWz] at Zz hGz ⊢;clear hWz;clear z0 z1 z2 z3 z4 z5 z6 z7 z8 z9 z10 f0 f1 f2 f3 f4 f5 f6 f7 f8 f9 f10;obtain ⟨z0,z1,z2,z3,z4,z5,z6,z7,z8,z9,z10⟩:=r11_cells Zz;refine bodyPost_ret (v:=.agg #[.int .i64 (1),.int .i64 (1+x1),.int .i64 (0),.int .i64 (0),.int .i64 x.k,.int .i64 x.t,.int .i64 x.id,.int .i64 x.pa,.string x.s,.int .i64 x.st,.int .i64 x.en]) (by simp [results,Tryz.results52,go_sem,z0,z1,z2,z3,z4,z5,z6,z7,z8,z9,z10]) rfl ?_;exact ⟨_,_,_,_,x,rfl,hx,Rc.gs hGz kg kq,gr_gs Ge hGz k3⟩
  | true =>
   go_wp2_with fail
   refine (off_any _ _ _ _ _ _ _ Rc (by omega) (by omega) (by omega)).mono ?_;rintro e t4 ⟨y,rfl,_,_,Rd,Gf⟩;have Gg:=gr_trans Ge Gf;have Q4:R11 t4 pq 1 (1+x1) 0 0 x:=RowAt.gr Q3 Gf kqg;have Zd:R11 t4 pz 0 0 0 0 ⟨0,0,0,0,⟨#[]⟩,0,0⟩:=RowAt.gr Zc Gf kg;obtain ⟨s0,s1,s2,s3,s4,s5,s6,s7,s8,s9,s10⟩:=r11_cells Q4;obtain ⟨g0,g1,g2,g3,g4,g5,g6,g7,g8,g9,g10⟩:=r11_frees Q4;have sl:=Q4.lt;have Q5:R11 (t4.setCell ⟨pq,0,none⟩ (.int .i64 y)) pq y (1+x1) 0 0 x:=RowAt.same (Q4.set (o:=0) (by omega) (.int .i64 y)) fun o ho=>by
    match o,ho with
    | 0,_=>rfl
    | 1,_=>rfl
    | 2,_=>rfl
    | 3,_=>rfl
    | 4,_=>rfl
    | 5,_=>rfl
    | 6,_=>rfl
    | 7,_=>rfl
    | 8,_=>rfl
    | 9,_=>rfl
    | 10,_=>rfl
   have hGq:Gs (fun k=>k=pq) t4 (t4.setCell ⟨pq,0,none⟩ (.int .i64 y)):=gs_one (gs_refl _ _) _ _;have Re:=Rd.gs hGq kqg kqq;have Gh:=gr_gs Gg hGq kq2;have Ze:R11 (t4.setCell ⟨pq,0,none⟩ (.int .i64 y)) pz 0 0 0 0 ⟨0,0,0,0,⟨#[]⟩,0,0⟩:=Zd.far (p:=⟨pq,0,none⟩) kqz (.int .i64 y);go_upto_region 17 with fail
   obtain ⟨t5,ht5⟩:∃ W,t4.setCell ⟨pq,0,none⟩ (.int .i64 y)=W:=⟨_,rfl⟩
   rw [ht5] at Q5 Re Gh Ze ⊢;clear ht5 s0 s1 s2 s3 s4 s5 s6 s7 s8 s9 s10 g0 g1 g2 g3 g4 g5 g6 g7 g8 g9 g10 sl;obtain ⟨s0,s1,s2,s3,s4,s5,s6,s7,s8,s9,s10⟩:=r11_cells Q5;have sl:=Q5.lt;obtain ⟨z0,z1,z2,z3,z4,z5,z6,z7,z8,z9,z10⟩:=r11_cells Ze;obtain ⟨f0,f1,f2,f3,f4,f5,f6,f7,f8,f9,f10⟩:=r11_frees Ze;have zl':=Ze.lt;have Zz:R11 (((((((((((t5.setCell ⟨pz,0,none⟩ (.int .i64 (y))).setCell ⟨pz,1,none⟩ (.int .i64 (1+x1))).setCell ⟨pz,2,none⟩ (.int .i64 (0))).setCell ⟨pz,3,none⟩ (.int .i64 (0))).setCell ⟨pz,4,none⟩ (.int .i64 x.k)).setCell ⟨pz,5,none⟩ (.int .i64 x.t)).setCell ⟨pz,6,none⟩ (.int .i64 x.id)).setCell ⟨pz,7,none⟩ (.int .i64 x.pa)).setCell ⟨pz,8,none⟩ (.string x.s)).setCell ⟨pz,9,none⟩ (.int .i64 x.st)).setCell ⟨pz,10,none⟩ (.int .i64 x.en)) pz (y) (1+x1) (0) (0) x:=r11_put Ze (y) (1+x1) (0) (0) x;have hGz:Gs (fun k=>k=pz) t5 (((((((((((t5.setCell ⟨pz,0,none⟩ (.int .i64 (y))).setCell ⟨pz,1,none⟩ (.int .i64 (1+x1))).setCell ⟨pz,2,none⟩ (.int .i64 (0))).setCell ⟨pz,3,none⟩ (.int .i64 (0))).setCell ⟨pz,4,none⟩ (.int .i64 x.k)).setCell ⟨pz,5,none⟩ (.int .i64 x.t)).setCell ⟨pz,6,none⟩ (.int .i64 x.id)).setCell ⟨pz,7,none⟩ (.int .i64 x.pa)).setCell ⟨pz,8,none⟩ (.string x.s)).setCell ⟨pz,9,none⟩ (.int .i64 x.st)).setCell ⟨pz,10,none⟩ (.int .i64 x.en)):=r11_gs t5 pz (y) (1+x1) (0) (0) x;go_wp2_with fail
   obtain ⟨Wz,hWz⟩:∃ W,(((((((((((t5.setCell ⟨pz,0,none⟩ (.int .i64 (y))).setCell ⟨pz,1,none⟩ (.int .i64 (1+x1))).setCell ⟨pz,2,none⟩ (.int .i64 (0))).setCell ⟨pz,3,none⟩ (.int .i64 (0))).setCell ⟨pz,4,none⟩ (.int .i64 x.k)).setCell ⟨pz,5,none⟩ (.int .i64 x.t)).setCell ⟨pz,6,none⟩ (.int .i64 x.id)).setCell ⟨pz,7,none⟩ (.int .i64 x.pa)).setCell ⟨pz,8,none⟩ (.string x.s)).setCell ⟨pz,9,none⟩ (.int .i64 x.st)).setCell ⟨pz,10,none⟩ (.int .i64 x.en))=W:=⟨_,rfl⟩
   rw [hWz] at Zz hGz ⊢;clear hWz;clear z0 z1 z2 z3 z4 z5 z6 z7 z8 z9 z10 f0 f1 f2 f3 f4 f5 f6 f7 f8 f9 f10;obtain ⟨z0,z1,z2,z3,z4,z5,z6,z7,z8,z9,z10⟩:=r11_cells Zz;refine bodyPost_ret (v:=.agg #[.int .i64 (y),.int .i64 (1+x1),.int .i64 (0),.int .i64 (0),.int .i64 x.k,.int .i64 x.t,.int .i64 x.id,.int .i64 x.pa,.string x.s,.int .i64 x.st,.int .i64 x.en]) (by simp [results,Tryz.results52,go_sem,z0,z1,z2,z3,z4,z5,z6,z7,z8,z9,z10]) rfl ?_;exact ⟨_,_,_,_,x,rfl,hx,Re.gs hGz kg kq,gr_gs Gh hGz k3⟩
 by_cases hk4:kk=4
 case pos =>
  have b0:(kk==0)=false:=by simp [hk4]
  have b1:(kk==1)=false:=by simp [hk4]
  have b2:(kk==2)=false:=by simp [hk4]
  have b3:(kk==3)=false:=by simp [hk4]
  have b4:(kk==4)=true:=by simp [hk4]
  have b5:(kk==5)=false:=by simp [hk4]
  clear y2 q2 hk0 hk1 hk2 hk3 hk4;by_cases hl:0<n2
  case pos =>
   have hl1:(0:Int)<(n2:Int):=by omega
   clear z0 z1 z2 z3 z4 z5 z6 z7 z8 z9 z10 f0 f1 f2 f3 f4 f5 f6 f7 f8 f9 f10;go_wp2_with fail
   refine (below_any _ _ _ _ _ _ R3' (by omega) (by omega)).mono ?_;rintro e w4 ⟨x4,rfl,y4,q4,R4,G4⟩;have G04:=gr_trans G03 G4;have Z4:R11 w4 pz 0 0 0 0 ⟨0,0,0,0,⟨#[]⟩,0,0⟩:=RowAt.gr Z3 G4 kg;obtain ⟨z0,z1,z2,z3,z4,z5,z6,z7,z8,z9,z10⟩:=r11_cells Z4;obtain ⟨f0,f1,f2,f3,f4,f5,f6,f7,f8,f9,f10⟩:=r11_frees Z4;have zl':=Z4.lt;have Zz:R11 (((((((((((w4.setCell ⟨pz,0,none⟩ (.int .i64 (3))).setCell ⟨pz,1,none⟩ (.int .i64 (0))).setCell ⟨pz,2,none⟩ (.int .i64 (0))).setCell ⟨pz,3,none⟩ (.int .i64 (x4))).setCell ⟨pz,4,none⟩ (.int .i64 0)).setCell ⟨pz,5,none⟩ (.int .i64 0)).setCell ⟨pz,6,none⟩ (.int .i64 0)).setCell ⟨pz,7,none⟩ (.int .i64 0)).setCell ⟨pz,8,none⟩ (.string ⟨#[]⟩)).setCell ⟨pz,9,none⟩ (.int .i64 0)).setCell ⟨pz,10,none⟩ (.int .i64 0)) pz (3) (0) (0) (x4) ⟨0,0,0,0,⟨#[]⟩,0,0⟩:=r11_put Z4 (3) (0) (0) (x4) ⟨0,0,0,0,⟨#[]⟩,0,0⟩;have hGz:Gs (fun k=>k=pz) w4 (((((((((((w4.setCell ⟨pz,0,none⟩ (.int .i64 (3))).setCell ⟨pz,1,none⟩ (.int .i64 (0))).setCell ⟨pz,2,none⟩ (.int .i64 (0))).setCell ⟨pz,3,none⟩ (.int .i64 (x4))).setCell ⟨pz,4,none⟩ (.int .i64 0)).setCell ⟨pz,5,none⟩ (.int .i64 0)).setCell ⟨pz,6,none⟩ (.int .i64 0)).setCell ⟨pz,7,none⟩ (.int .i64 0)).setCell ⟨pz,8,none⟩ (.string ⟨#[]⟩)).setCell ⟨pz,9,none⟩ (.int .i64 0)).setCell ⟨pz,10,none⟩ (.int .i64 0)):=r11_gs w4 pz (3) (0) (0) (x4) ⟨0,0,0,0,⟨#[]⟩,0,0⟩;go_wp2_with fail
   obtain ⟨Wz,hWz⟩:∃ W,(((((((((((w4.setCell ⟨pz,0,none⟩ (.int .i64 (3))).setCell ⟨pz,1,none⟩ (.int .i64 (0))).setCell ⟨pz,2,none⟩ (.int .i64 (0))).setCell ⟨pz,3,none⟩ (.int .i64 (x4))).setCell ⟨pz,4,none⟩ (.int .i64 0)).setCell ⟨pz,5,none⟩ (.int .i64 0)).setCell ⟨pz,6,none⟩ (.int .i64 0)).setCell ⟨pz,7,none⟩ (.int .i64 0)).setCell ⟨pz,8,none⟩ (.string ⟨#[]⟩)).setCell ⟨pz,9,none⟩ (.int .i64 0)).setCell ⟨pz,10,none⟩ (.int .i64 0))=W:=⟨_,rfl⟩
   rw [hWz] at Zz hGz ⊢;clear hWz;clear z0 z1 z2 z3 z4 z5 z6 z7 z8 z9 z10 f0 f1 f2 f3 f4 f5 f6 f7 f8 f9 f10;obtain ⟨z0,z1,z2,z3,z4,z5,z6,z7,z8,z9,z10⟩:=r11_cells Zz;refine bodyPost_ret (v:=.agg #[.int .i64 (3),.int .i64 (0),.int .i64 (0),.int .i64 (x4),.int .i64 0,.int .i64 0,.int .i64 0,.int .i64 0,.string ⟨#[]⟩,.int .i64 0,.int .i64 0]) (by simp [results,Tryz.results52,go_sem,z0,z1,z2,z3,z4,z5,z6,z7,z8,z9,z10]) rfl ?_;exact ⟨_,_,_,_,⟨0,0,0,0,⟨#[]⟩,0,0⟩,rfl,by decide,R4.gs hGz kg kq,gr_gs G04 hGz k3⟩
  have hl1:¬(0:Int)<(n2:Int):=by omega
  have hl2:¬0<n2:=hl;clear hl;clear z0 z1 z2 z3 z4 z5 z6 z7 z8 z9 z10 f0 f1 f2 f3 f4 f5 f6 f7 f8 f9 f10;go_wp2_with fail
  refine (op_any _ _ _ _ _ R3').mono ?_;rintro e t1 ⟨⟨x,rfl,hx⟩,Ra,Ga⟩;have Gb:=gr_trans G03 Ga;have Za:R11 t1 pz 0 0 0 0 ⟨0,0,0,0,⟨#[]⟩,0,0⟩:=RowAt.gr Z3 Ga kg;have hsa:=Gb.size;have hAt:Below t1.heap.size t1 (t1.alloc (.cells #[.int .i64 1,.int .i64 (1+x1),.int .i64 0,.int .i64 0,.int .i64 x.k,.int .i64 x.t,.int .i64 x.id,.int .i64 x.pa,.string x.s,.int .i64 x.st,.int .i64 x.en] 112)):=(Below.refl _ _).alloc (Nat.le_refl _) _;have Q2:=r11_new t1 1 (1+x1) 0 0 x 112;go_upto_region 15 with fail
  obtain ⟨t2,ht2⟩:∃ W,t1.alloc (.cells #[.int .i64 1,.int .i64 (1+x1),.int .i64 0,.int .i64 0,.int .i64 x.k,.int .i64 x.t,.int .i64 x.id,.int .i64 x.pa,.string x.s,.int .i64 x.st,.int .i64 x.en] 112)=W:=⟨_,rfl⟩
  rw [ht2] at hAt Q2 ⊢;clear ht2;obtain ⟨pq,hpq⟩:∃ z,Hid (t1.heap.size=z):=⟨_,rfl⟩
  rw [hpq.out] at Q2 ⊢;have kq2:w.heap.size≤pq:=by have:=hpq.out;omega
  have kqg:¬pq=g:=by omega
  have kqz:¬pq=pz:=by have:=hpq.out;have:=Za.lt;omega
  have kqq:len=0∨∃ b off,av=some ⟨b,off,none⟩∧¬pq=b:=h.old kq2;have Rb:=Ra.below hAt;have Zb:R11 t2 pz 0 0 0 0 ⟨0,0,0,0,⟨#[]⟩,0,0⟩:=RowAt.below Za hAt;have Gc:=gr_trans Gb (gr_below hAt);go_wp2_with fail
  refine (once_any _ _ _ _ _ _ Rb (by omega) (by omega)).mono ?_;rintro e t3 ⟨b3,rfl,Rc,Gd⟩;have Ge:=gr_trans Gc Gd;have Q3:R11 t3 pq 1 (1+x1) 0 0 x:=RowAt.gr Q2 Gd kqg;have Zc:R11 t3 pz 0 0 0 0 ⟨0,0,0,0,⟨#[]⟩,0,0⟩:=RowAt.gr Zb Gd kg
  cases b3 with
  | false =>
   obtain ⟨s0,s1,s2,s3,s4,s5,s6,s7,s8,s9,s10⟩:=r11_cells Q3;have sl:=Q3.lt;obtain ⟨z0,z1,z2,z3,z4,z5,z6,z7,z8,z9,z10⟩:=r11_cells Zc;obtain ⟨f0,f1,f2,f3,f4,f5,f6,f7,f8,f9,f10⟩:=r11_frees Zc;have zl':=Zc.lt;have Zz:R11 (((((((((((t3.setCell ⟨pz,0,none⟩ (.int .i64 (1))).setCell ⟨pz,1,none⟩ (.int .i64 (1+x1))).setCell ⟨pz,2,none⟩ (.int .i64 (0))).setCell ⟨pz,3,none⟩ (.int .i64 (0))).setCell ⟨pz,4,none⟩ (.int .i64 x.k)).setCell ⟨pz,5,none⟩ (.int .i64 x.t)).setCell ⟨pz,6,none⟩ (.int .i64 x.id)).setCell ⟨pz,7,none⟩ (.int .i64 x.pa)).setCell ⟨pz,8,none⟩ (.string x.s)).setCell ⟨pz,9,none⟩ (.int .i64 x.st)).setCell ⟨pz,10,none⟩ (.int .i64 x.en)) pz (1) (1+x1) (0) (0) x:=r11_put Zc (1) (1+x1) (0) (0) x;have hGz:Gs (fun k=>k=pz) t3 (((((((((((t3.setCell ⟨pz,0,none⟩ (.int .i64 (1))).setCell ⟨pz,1,none⟩ (.int .i64 (1+x1))).setCell ⟨pz,2,none⟩ (.int .i64 (0))).setCell ⟨pz,3,none⟩ (.int .i64 (0))).setCell ⟨pz,4,none⟩ (.int .i64 x.k)).setCell ⟨pz,5,none⟩ (.int .i64 x.t)).setCell ⟨pz,6,none⟩ (.int .i64 x.id)).setCell ⟨pz,7,none⟩ (.int .i64 x.pa)).setCell ⟨pz,8,none⟩ (.string x.s)).setCell ⟨pz,9,none⟩ (.int .i64 x.st)).setCell ⟨pz,10,none⟩ (.int .i64 x.en)):=r11_gs t3 pz (1) (1+x1) (0) (0) x;go_wp2_with fail
   obtain ⟨Wz,hWz⟩:∃ W,(((((((((((t3.setCell ⟨pz,0,none⟩ (.int .i64 (1))).setCell ⟨pz,1,none⟩ (.int .i64 (1+x1))).setCell ⟨pz,2,none⟩ (.int .i64 (0))).setCell ⟨pz,3,none⟩ (.int .i64 (0))).setCell ⟨pz,4,none⟩ (.int .i64 x.k)).setCell ⟨pz,5,none⟩ (.int .i64 x.t)).setCell ⟨pz,6,none⟩ (.int .i64 x.id)).setCell ⟨pz,7,none⟩ (.int .i64 x.pa)).setCell ⟨pz,8,none⟩ (.string x.s)).setCell ⟨pz,9,none⟩ (.int .i64 x.st)).setCell ⟨pz,10,none⟩ (.int .i64 x.en))=W:=⟨_,rfl⟩
   rw [hWz] at Zz hGz ⊢;clear hWz;clear z0 z1 z2 z3 z4 z5 z6 z7 z8 z9 z10 f0 f1 f2 f3 f4 f5 f6 f7 f8 f9 f10;obtain ⟨z0,z1,z2,z3,z4,z5,z6,z7,z8,z9,z10⟩:=r11_cells Zz;refine bodyPost_ret (v:=.agg #[.int .i64 (1),.int .i64 (1+x1),.int .i64 (0),.int .i64 (0),.int .i64 x.k,.int .i64 x.t,.int .i64 x.id,.int .i64 x.pa,.string x.s,.int .i64 x.st,.int .i64 x.en]) (by simp [results,Tryz.results52,go_sem,z0,z1,z2,z3,z4,z5,z6,z7,z8,z9,z10]) rfl ?_;exact ⟨_,_,_,_,x,rfl,hx,Rc.gs hGz kg kq,gr_gs Ge hGz k3⟩
  | true =>
   go_wp2_with fail
   refine (off_any _ _ _ _ _ _ _ Rc (by omega) (by omega) (by omega)).mono ?_;rintro e t4 ⟨y,rfl,_,_,Rd,Gf⟩;have Gg:=gr_trans Ge Gf;have Q4:R11 t4 pq 1 (1+x1) 0 0 x:=RowAt.gr Q3 Gf kqg;have Zd:R11 t4 pz 0 0 0 0 ⟨0,0,0,0,⟨#[]⟩,0,0⟩:=RowAt.gr Zc Gf kg;obtain ⟨s0,s1,s2,s3,s4,s5,s6,s7,s8,s9,s10⟩:=r11_cells Q4;obtain ⟨g0,g1,g2,g3,g4,g5,g6,g7,g8,g9,g10⟩:=r11_frees Q4;have sl:=Q4.lt;have Q5:R11 (t4.setCell ⟨pq,0,none⟩ (.int .i64 y)) pq y (1+x1) 0 0 x:=RowAt.same (Q4.set (o:=0) (by omega) (.int .i64 y)) fun o ho=>by
    match o,ho with
    | 0,_=>rfl
    | 1,_=>rfl
    | 2,_=>rfl
    | 3,_=>rfl
    | 4,_=>rfl
    | 5,_=>rfl
    | 6,_=>rfl
    | 7,_=>rfl
    | 8,_=>rfl
    | 9,_=>rfl
    | 10,_=>rfl
   have hGq:Gs (fun k=>k=pq) t4 (t4.setCell ⟨pq,0,none⟩ (.int .i64 y)):=gs_one (gs_refl _ _) _ _;have Re:=Rd.gs hGq kqg kqq;have Gh:=gr_gs Gg hGq kq2;have Ze:R11 (t4.setCell ⟨pq,0,none⟩ (.int .i64 y)) pz 0 0 0 0 ⟨0,0,0,0,⟨#[]⟩,0,0⟩:=Zd.far (p:=⟨pq,0,none⟩) kqz (.int .i64 y);go_upto_region 17 with fail
   obtain ⟨t5,ht5⟩:∃ W,t4.setCell ⟨pq,0,none⟩ (.int .i64 y)=W:=⟨_,rfl⟩
   rw [ht5] at Q5 Re Gh Ze ⊢;clear ht5 s0 s1 s2 s3 s4 s5 s6 s7 s8 s9 s10 g0 g1 g2 g3 g4 g5 g6 g7 g8 g9 g10 sl;obtain ⟨s0,s1,s2,s3,s4,s5,s6,s7,s8,s9,s10⟩:=r11_cells Q5;have sl:=Q5.lt;obtain ⟨z0,z1,z2,z3,z4,z5,z6,z7,z8,z9,z10⟩:=r11_cells Ze;obtain ⟨f0,f1,f2,f3,f4,f5,f6,f7,f8,f9,f10⟩:=r11_frees Ze;have zl':=Ze.lt;have Zz:R11 (((((((((((t5.setCell ⟨pz,0,none⟩ (.int .i64 (y))).setCell ⟨pz,1,none⟩ (.int .i64 (1+x1))).setCell ⟨pz,2,none⟩ (.int .i64 (0))).setCell ⟨pz,3,none⟩ (.int .i64 (0))).setCell ⟨pz,4,none⟩ (.int .i64 x.k)).setCell ⟨pz,5,none⟩ (.int .i64 x.t)).setCell ⟨pz,6,none⟩ (.int .i64 x.id)).setCell ⟨pz,7,none⟩ (.int .i64 x.pa)).setCell ⟨pz,8,none⟩ (.string x.s)).setCell ⟨pz,9,none⟩ (.int .i64 x.st)).setCell ⟨pz,10,none⟩ (.int .i64 x.en)) pz (y) (1+x1) (0) (0) x:=r11_put Ze (y) (1+x1) (0) (0) x;have hGz:Gs (fun k=>k=pz) t5 (((((((((((t5.setCell ⟨pz,0,none⟩ (.int .i64 (y))).setCell ⟨pz,1,none⟩ (.int .i64 (1+x1))).setCell ⟨pz,2,none⟩ (.int .i64 (0))).setCell ⟨pz,3,none⟩ (.int .i64 (0))).setCell ⟨pz,4,none⟩ (.int .i64 x.k)).setCell ⟨pz,5,none⟩ (.int .i64 x.t)).setCell ⟨pz,6,none⟩ (.int .i64 x.id)).setCell ⟨pz,7,none⟩ (.int .i64 x.pa)).setCell ⟨pz,8,none⟩ (.string x.s)).setCell ⟨pz,9,none⟩ (.int .i64 x.st)).setCell ⟨pz,10,none⟩ (.int .i64 x.en)):=r11_gs t5 pz (y) (1+x1) (0) (0) x;go_wp2_with fail
   obtain ⟨Wz,hWz⟩:∃ W,(((((((((((t5.setCell ⟨pz,0,none⟩ (.int .i64 (y))).setCell ⟨pz,1,none⟩ (.int .i64 (1+x1))).setCell ⟨pz,2,none⟩ (.int .i64 (0))).setCell ⟨pz,3,none⟩ (.int .i64 (0))).setCell ⟨pz,4,none⟩ (.int .i64 x.k)).setCell ⟨pz,5,none⟩ (.int .i64 x.t)).setCell ⟨pz,6,none⟩ (.int .i64 x.id)).setCell ⟨pz,7,none⟩ (.int .i64 x.pa)).setCell ⟨pz,8,none⟩ (.string x.s)).setCell ⟨pz,9,none⟩ (.int .i64 x.st)).setCell ⟨pz,10,none⟩ (.int .i64 x.en))=W:=⟨_,rfl⟩
   rw [hWz] at Zz hGz ⊢;clear hWz;clear z0 z1 z2 z3 z4 z5 z6 z7 z8 z9 z10 f0 f1 f2 f3 f4 f5 f6 f7 f8 f9 f10;obtain ⟨z0,z1,z2,z3,z4,z5,z6,z7,z8,z9,z10⟩:=r11_cells Zz;refine bodyPost_ret (v:=.agg #[.int .i64 (y),.int .i64 (1+x1),.int .i64 (0),.int .i64 (0),.int .i64 x.k,.int .i64 x.t,.int .i64 x.id,.int .i64 x.pa,.string x.s,.int .i64 x.st,.int .i64 x.en]) (by simp [results,Tryz.results52,go_sem,z0,z1,z2,z3,z4,z5,z6,z7,z8,z9,z10]) rfl ?_;exact ⟨_,_,_,_,x,rfl,hx,Re.gs hGz kg kq,gr_gs Gh hGz k3⟩
 by_cases hk5:kk=5
 case pos =>
  have b0:(kk==0)=false:=by simp [hk5]
  have b1:(kk==1)=false:=by simp [hk5]
  have b2:(kk==2)=false:=by simp [hk5]
  have b3:(kk==3)=false:=by simp [hk5]
  have b4:(kk==4)=false:=by simp [hk5]
  have b5:(kk==5)=true:=by simp [hk5]
  clear y2 q2 hk0 hk1 hk2 hk3 hk4 hk5;clear z0 z1 z2 z3 z4 z5 z6 z7 z8 z9 z10 f0 f1 f2 f3 f4 f5 f6 f7 f8 f9 f10;go_wp2_with fail
  refine (once_any _ _ _ _ _ _ R3' (by omega) (by omega)).mono ?_;rintro e w4 ⟨b4',rfl,R4,G4⟩;have G04:=gr_trans G03 G4;have Z4:R11 w4 pz 0 0 0 0 ⟨0,0,0,0,⟨#[]⟩,0,0⟩:=RowAt.gr Z3 G4 kg;have A4:=RowAt.gr A3 G4 kgw;obtain ⟨z0,z1,z2,z3,z4,z5,z6,z7,z8,z9,z10⟩:=r11_cells Z4;obtain ⟨f0,f1,f2,f3,f4,f5,f6,f7,f8,f9,f10⟩:=r11_frees Z4
  cases b4' with
  | false =>
   clear z0 z1 z2 z3 z4 z5 z6 z7 z8 z9 z10 f0 f1 f2 f3 f4 f5 f6 f7 f8 f9 f10;go_wp2_with fail
   refine (op_any _ _ _ _ _ R4).mono ?_;rintro e t1 ⟨⟨x,rfl,hx⟩,Ra,Ga⟩;have Gb:=gr_trans G04 Ga;have Za:R11 t1 pz 0 0 0 0 ⟨0,0,0,0,⟨#[]⟩,0,0⟩:=RowAt.gr Z4 Ga kg;have hsa:=Gb.size;have hAt:Below t1.heap.size t1 (t1.alloc (.cells #[.int .i64 1,.int .i64 (1+x1),.int .i64 0,.int .i64 0,.int .i64 x.k,.int .i64 x.t,.int .i64 x.id,.int .i64 x.pa,.string x.s,.int .i64 x.st,.int .i64 x.en] 112)):=(Below.refl _ _).alloc (Nat.le_refl _) _;have Q2:=r11_new t1 1 (1+x1) 0 0 x 112;go_upto_region 15 with fail
   obtain ⟨t2,ht2⟩:∃ W,t1.alloc (.cells #[.int .i64 1,.int .i64 (1+x1),.int .i64 0,.int .i64 0,.int .i64 x.k,.int .i64 x.t,.int .i64 x.id,.int .i64 x.pa,.string x.s,.int .i64 x.st,.int .i64 x.en] 112)=W:=⟨_,rfl⟩
   rw [ht2] at hAt Q2 ⊢;clear ht2;obtain ⟨pq,hpq⟩:∃ z,Hid (t1.heap.size=z):=⟨_,rfl⟩
   rw [hpq.out] at Q2 ⊢;have kq2:w.heap.size≤pq:=by have:=hpq.out;omega
   have kqg:¬pq=g:=by omega
   have kqz:¬pq=pz:=by have:=hpq.out;have:=Za.lt;omega
   have kqq:len=0∨∃ b off,av=some ⟨b,off,none⟩∧¬pq=b:=h.old kq2;have Rb:=Ra.below hAt;have Zb:R11 t2 pz 0 0 0 0 ⟨0,0,0,0,⟨#[]⟩,0,0⟩:=RowAt.below Za hAt;have Gc:=gr_trans Gb (gr_below hAt);go_wp2_with fail
   refine (once_any _ _ _ _ _ _ Rb (by omega) (by omega)).mono ?_;rintro e t3 ⟨b3,rfl,Rc,Gd⟩;have Ge:=gr_trans Gc Gd;have Q3:R11 t3 pq 1 (1+x1) 0 0 x:=RowAt.gr Q2 Gd kqg;have Zc:R11 t3 pz 0 0 0 0 ⟨0,0,0,0,⟨#[]⟩,0,0⟩:=RowAt.gr Zb Gd kg
   cases b3 with
   | false =>
    obtain ⟨s0,s1,s2,s3,s4,s5,s6,s7,s8,s9,s10⟩:=r11_cells Q3;have sl:=Q3.lt;obtain ⟨z0,z1,z2,z3,z4,z5,z6,z7,z8,z9,z10⟩:=r11_cells Zc;obtain ⟨f0,f1,f2,f3,f4,f5,f6,f7,f8,f9,f10⟩:=r11_frees Zc;have zl':=Zc.lt;have Zz:R11 (((((((((((t3.setCell ⟨pz,0,none⟩ (.int .i64 (1))).setCell ⟨pz,1,none⟩ (.int .i64 (1+x1))).setCell ⟨pz,2,none⟩ (.int .i64 (0))).setCell ⟨pz,3,none⟩ (.int .i64 (0))).setCell ⟨pz,4,none⟩ (.int .i64 x.k)).setCell ⟨pz,5,none⟩ (.int .i64 x.t)).setCell ⟨pz,6,none⟩ (.int .i64 x.id)).setCell ⟨pz,7,none⟩ (.int .i64 x.pa)).setCell ⟨pz,8,none⟩ (.string x.s)).setCell ⟨pz,9,none⟩ (.int .i64 x.st)).setCell ⟨pz,10,none⟩ (.int .i64 x.en)) pz (1) (1+x1) (0) (0) x:=r11_put Zc (1) (1+x1) (0) (0) x;have hGz:Gs (fun k=>k=pz) t3 (((((((((((t3.setCell ⟨pz,0,none⟩ (.int .i64 (1))).setCell ⟨pz,1,none⟩ (.int .i64 (1+x1))).setCell ⟨pz,2,none⟩ (.int .i64 (0))).setCell ⟨pz,3,none⟩ (.int .i64 (0))).setCell ⟨pz,4,none⟩ (.int .i64 x.k)).setCell ⟨pz,5,none⟩ (.int .i64 x.t)).setCell ⟨pz,6,none⟩ (.int .i64 x.id)).setCell ⟨pz,7,none⟩ (.int .i64 x.pa)).setCell ⟨pz,8,none⟩ (.string x.s)).setCell ⟨pz,9,none⟩ (.int .i64 x.st)).setCell ⟨pz,10,none⟩ (.int .i64 x.en)):=r11_gs t3 pz (1) (1+x1) (0) (0) x;go_wp2_with fail
    obtain ⟨Wz,hWz⟩:∃ W,(((((((((((t3.setCell ⟨pz,0,none⟩ (.int .i64 (1))).setCell ⟨pz,1,none⟩ (.int .i64 (1+x1))).setCell ⟨pz,2,none⟩ (.int .i64 (0))).setCell ⟨pz,3,none⟩ (.int .i64 (0))).setCell ⟨pz,4,none⟩ (.int .i64 x.k)).setCell ⟨pz,5,none⟩ (.int .i64 x.t)).setCell ⟨pz,6,none⟩ (.int .i64 x.id)).setCell ⟨pz,7,none⟩ (.int .i64 x.pa)).setCell ⟨pz,8,none⟩ (.string x.s)).setCell ⟨pz,9,none⟩ (.int .i64 x.st)).setCell ⟨pz,10,none⟩ (.int .i64 x.en))=W:=⟨_,rfl⟩
    rw [hWz] at Zz hGz ⊢;clear hWz;clear z0 z1 z2 z3 z4 z5 z6 z7 z8 z9 z10 f0 f1 f2 f3 f4 f5 f6 f7 f8 f9 f10;obtain ⟨z0,z1,z2,z3,z4,z5,z6,z7,z8,z9,z10⟩:=r11_cells Zz;refine bodyPost_ret (v:=.agg #[.int .i64 (1),.int .i64 (1+x1),.int .i64 (0),.int .i64 (0),.int .i64 x.k,.int .i64 x.t,.int .i64 x.id,.int .i64 x.pa,.string x.s,.int .i64 x.st,.int .i64 x.en]) (by simp [results,Tryz.results52,go_sem,z0,z1,z2,z3,z4,z5,z6,z7,z8,z9,z10]) rfl ?_;exact ⟨_,_,_,_,x,rfl,hx,Rc.gs hGz kg kq,gr_gs Ge hGz k3⟩
   | true =>
    go_wp2_with fail
    refine (off_any _ _ _ _ _ _ _ Rc (by omega) (by omega) (by omega)).mono ?_;rintro e t4 ⟨y,rfl,_,_,Rd,Gf⟩;have Gg:=gr_trans Ge Gf;have Q4:R11 t4 pq 1 (1+x1) 0 0 x:=RowAt.gr Q3 Gf kqg;have Zd:R11 t4 pz 0 0 0 0 ⟨0,0,0,0,⟨#[]⟩,0,0⟩:=RowAt.gr Zc Gf kg;obtain ⟨s0,s1,s2,s3,s4,s5,s6,s7,s8,s9,s10⟩:=r11_cells Q4;obtain ⟨g0,g1,g2,g3,g4,g5,g6,g7,g8,g9,g10⟩:=r11_frees Q4;have sl:=Q4.lt;have Q5:R11 (t4.setCell ⟨pq,0,none⟩ (.int .i64 y)) pq y (1+x1) 0 0 x:=RowAt.same (Q4.set (o:=0) (by omega) (.int .i64 y)) fun o ho=>by
     match o,ho with
     | 0,_=>rfl
     | 1,_=>rfl
     | 2,_=>rfl
     | 3,_=>rfl
     | 4,_=>rfl
     | 5,_=>rfl
     | 6,_=>rfl
     | 7,_=>rfl
     | 8,_=>rfl
     | 9,_=>rfl
     | 10,_=>rfl
    have hGq:Gs (fun k=>k=pq) t4 (t4.setCell ⟨pq,0,none⟩ (.int .i64 y)):=gs_one (gs_refl _ _) _ _;have Re:=Rd.gs hGq kqg kqq;have Gh:=gr_gs Gg hGq kq2;have Ze:R11 (t4.setCell ⟨pq,0,none⟩ (.int .i64 y)) pz 0 0 0 0 ⟨0,0,0,0,⟨#[]⟩,0,0⟩:=Zd.far (p:=⟨pq,0,none⟩) kqz (.int .i64 y);go_upto_region 17 with fail
    obtain ⟨t5,ht5⟩:∃ W,t4.setCell ⟨pq,0,none⟩ (.int .i64 y)=W:=⟨_,rfl⟩
    rw [ht5] at Q5 Re Gh Ze ⊢;clear ht5 s0 s1 s2 s3 s4 s5 s6 s7 s8 s9 s10 g0 g1 g2 g3 g4 g5 g6 g7 g8 g9 g10 sl;obtain ⟨s0,s1,s2,s3,s4,s5,s6,s7,s8,s9,s10⟩:=r11_cells Q5;have sl:=Q5.lt;obtain ⟨z0,z1,z2,z3,z4,z5,z6,z7,z8,z9,z10⟩:=r11_cells Ze;obtain ⟨f0,f1,f2,f3,f4,f5,f6,f7,f8,f9,f10⟩:=r11_frees Ze;have zl':=Ze.lt;have Zz:R11 (((((((((((t5.setCell ⟨pz,0,none⟩ (.int .i64 (y))).setCell ⟨pz,1,none⟩ (.int .i64 (1+x1))).setCell ⟨pz,2,none⟩ (.int .i64 (0))).setCell ⟨pz,3,none⟩ (.int .i64 (0))).setCell ⟨pz,4,none⟩ (.int .i64 x.k)).setCell ⟨pz,5,none⟩ (.int .i64 x.t)).setCell ⟨pz,6,none⟩ (.int .i64 x.id)).setCell ⟨pz,7,none⟩ (.int .i64 x.pa)).setCell ⟨pz,8,none⟩ (.string x.s)).setCell ⟨pz,9,none⟩ (.int .i64 x.st)).setCell ⟨pz,10,none⟩ (.int .i64 x.en)) pz (y) (1+x1) (0) (0) x:=r11_put Ze (y) (1+x1) (0) (0) x;have hGz:Gs (fun k=>k=pz) t5 (((((((((((t5.setCell ⟨pz,0,none⟩ (.int .i64 (y))).setCell ⟨pz,1,none⟩ (.int .i64 (1+x1))).setCell ⟨pz,2,none⟩ (.int .i64 (0))).setCell ⟨pz,3,none⟩ (.int .i64 (0))).setCell ⟨pz,4,none⟩ (.int .i64 x.k)).setCell ⟨pz,5,none⟩ (.int .i64 x.t)).setCell ⟨pz,6,none⟩ (.int .i64 x.id)).setCell ⟨pz,7,none⟩ (.int .i64 x.pa)).setCell ⟨pz,8,none⟩ (.string x.s)).setCell ⟨pz,9,none⟩ (.int .i64 x.st)).setCell ⟨pz,10,none⟩ (.int .i64 x.en)):=r11_gs t5 pz (y) (1+x1) (0) (0) x;go_wp2_with fail
    obtain ⟨Wz,hWz⟩:∃ W,(((((((((((t5.setCell ⟨pz,0,none⟩ (.int .i64 (y))).setCell ⟨pz,1,none⟩ (.int .i64 (1+x1))).setCell ⟨pz,2,none⟩ (.int .i64 (0))).setCell ⟨pz,3,none⟩ (.int .i64 (0))).setCell ⟨pz,4,none⟩ (.int .i64 x.k)).setCell ⟨pz,5,none⟩ (.int .i64 x.t)).setCell ⟨pz,6,none⟩ (.int .i64 x.id)).setCell ⟨pz,7,none⟩ (.int .i64 x.pa)).setCell ⟨pz,8,none⟩ (.string x.s)).setCell ⟨pz,9,none⟩ (.int .i64 x.st)).setCell ⟨pz,10,none⟩ (.int .i64 x.en))=W:=⟨_,rfl⟩
    rw [hWz] at Zz hGz ⊢;clear hWz;clear z0 z1 z2 z3 z4 z5 z6 z7 z8 z9 z10 f0 f1 f2 f3 f4 f5 f6 f7 f8 f9 f10;obtain ⟨z0,z1,z2,z3,z4,z5,z6,z7,z8,z9,z10⟩:=r11_cells Zz;refine bodyPost_ret (v:=.agg #[.int .i64 (y),.int .i64 (1+x1),.int .i64 (0),.int .i64 (0),.int .i64 x.k,.int .i64 x.t,.int .i64 x.id,.int .i64 x.pa,.string x.s,.int .i64 x.st,.int .i64 x.en]) (by simp [results,Tryz.results52,go_sem,z0,z1,z2,z3,z4,z5,z6,z7,z8,z9,z10]) rfl ?_;exact ⟨_,_,_,_,x,rfl,hx,Re.gs hGz kg kq,gr_gs Gh hGz k3⟩
  | true =>
   clear z0 z1 z2 z3 z4 z5 z6 z7 z8 z9 z10 f0 f1 f2 f3 f4 f5 f6 f7 f8 f9 f10;go_upto_region 13 with fail
   refine wp_region_held_drew (S:=fun w'=>True) (by kernel_rfl) ?_ (fun zH=>?_)
   ·exact trivial
   refine uZ 1 ?_;simp only[pZ,zZ];refine uZ 5 ?_;simp only[pZ,zZ];obtain ⟨v0,hv0⟩:∃ W,w4.drew=W:=⟨_,rfl⟩
   have hb0:Below w4.heap.size w4 w4.drew:=(Below.refl _ _).drew;rw [hv0] at hb0 ⊢;clear hv0;have RR0:=R4.below hb0;have GG0:=gr_trans G04 (gr_below hb0);have ZZ0:R11 v0 pz 0 0 0 0 ⟨0,0,0,0,⟨#[]⟩,0,0⟩:=RowAt.below Z4 hb0;refine rZ [0,2] (.cons rfl (fun K hK=>?_) (.cons rfl (fun K hK=>?_) .nil))
   ·go_simp
    refine hK.out _ _ trivial (fun zH2=>?_);clear hK K zH;have zH:=zH2;clear zH2;(try simp only[pZ,zZ]);have hc1:Below v0.heap.size v0 (v0.alloc (.cells #[.int .i64 4,.int .i64 5] 2)):=(Below.refl _ _).alloc (Nat.le_refl _) _;have QQ1:=RowAt.new v0 #[.int .i64 4,.int .i64 5] 2;obtain ⟨v1,hw⟩:∃ W,v0.alloc (.cells #[.int .i64 4,.int .i64 5] 2)=W:=⟨_,rfl⟩
    rw [hw] at hc1 QQ1 ⊢;clear hw;obtain ⟨qq,hqq⟩:∃ z,Hid (v0.heap.size=z):=⟨_,rfl⟩
    rw [hqq.out] at QQ1 ⊢;have RR1:=RR0.below hc1;have GG1:=gr_trans GG0 (gr_below hc1);have ZZ1:R11 v1 pz 0 0 0 0 ⟨0,0,0,0,⟨#[]⟩,0,0⟩:=RowAt.below ZZ0 hc1;have kqq:¬qq=g:=by have:=hqq.out;have:=RR0.lt;omega
    refine sZ 2 fun K hK=>?_
    ·go_simp
     refine (below_any _ _ _ _ 2 _ RR1 (by omega) (by omega)).mono ?_;rintro e v2 ⟨x5,rfl,x5a,x5b,RR2,hg2⟩;go_wp2_with fail
     refine hK.out _ _ trivial (fun zH2=>?_);clear hK K zH;have zH:=zH2;clear zH2;(try simp only[pZ,zZ]);have GG2:=gr_trans GG1 hg2;have ZZ2:R11 v2 pz 0 0 0 0 ⟨0,0,0,0,⟨#[]⟩,0,0⟩:=RowAt.gr ZZ1 hg2 kg;have QQ2:=RowAt.gr QQ1 hg2 kqq;have i0:(0:Int)≤x5:=by omega
     have i1:x5<(2:Int):=by omega
     have i2:x5.toNat<2:=by omega
     refine tZ (i:=3) (v:=.pointer (some ⟨qq,x5.toNat,none⟩)) rfl (.inl ⟨by rfl,?_⟩) zH ?_
     ·(intro w hSw;(try dsimp only at hSw);go_simp;skip)
     (try simp only[pZ,zZ]);obtain ⟨kd,hkd2⟩:∃ k:Int,v2.cell? ⟨qq,x5.toNat,none⟩=some (.int .i64 k):=two_cell QQ2 i2;have ql2:=QQ2.lt;refine rZ [4,6] (.cons rfl (fun K hK=>?_) (.cons rfl (fun K hK=>?_) .nil))
     ·go_simp
      refine hK.out _ _ trivial (fun zH2=>?_);clear hK K zH;have zH:=zH2;clear zH2;(try simp only[pZ,zZ]);refine sZ 6 fun K hK=>?_
      ·go_simp
       refine (below_any _ _ _ _ 3 _ RR2 (by omega) (by omega)).mono ?_;rintro e v3 ⟨x6,rfl,x6a,x6b,RR3,hg3⟩;go_wp2_with fail
       refine hK.out _ _ trivial (fun zH2=>?_);clear hK K zH;have zH:=zH2;clear zH2;(try simp only[pZ,zZ]);have GG3:=gr_trans GG2 hg3;have ZZ3:R11 v3 pz 0 0 0 0 ⟨0,0,0,0,⟨#[]⟩,0,0⟩:=RowAt.gr ZZ2 hg3 kg;have QQ3:=RowAt.gr QQ2 hg3 kqq;obtain ⟨z0,z1,z2,z3,z4,z5,z6,z7,z8,z9,z10⟩:=r11_cells ZZ3;obtain ⟨f0,f1,f2,f3,f4,f5,f6,f7,f8,f9,f10⟩:=r11_frees ZZ3;have zl9:=ZZ3.lt;have Zz:R11 (((((((((((v3.setCell ⟨pz,0,none⟩ (.int .i64 kd)).setCell ⟨pz,1,none⟩ (.int .i64 0)).setCell ⟨pz,2,none⟩ (.int .i64 0)).setCell ⟨pz,3,none⟩ (.int .i64 x6)).setCell ⟨pz,4,none⟩ (.int .i64 0)).setCell ⟨pz,5,none⟩ (.int .i64 0)).setCell ⟨pz,6,none⟩ (.int .i64 0)).setCell ⟨pz,7,none⟩ (.int .i64 0)).setCell ⟨pz,8,none⟩ (.string ⟨#[]⟩)).setCell ⟨pz,9,none⟩ (.int .i64 0)).setCell ⟨pz,10,none⟩ (.int .i64 0)) pz kd 0 0 x6 ⟨0,0,0,0,⟨#[]⟩,0,0⟩:=r11_put ZZ3 kd 0 0 x6 ⟨0,0,0,0,⟨#[]⟩,0,0⟩;have hGz:Gs (fun k=>k=pz) v3 (((((((((((v3.setCell ⟨pz,0,none⟩ (.int .i64 kd)).setCell ⟨pz,1,none⟩ (.int .i64 0)).setCell ⟨pz,2,none⟩ (.int .i64 0)).setCell ⟨pz,3,none⟩ (.int .i64 x6)).setCell ⟨pz,4,none⟩ (.int .i64 0)).setCell ⟨pz,5,none⟩ (.int .i64 0)).setCell ⟨pz,6,none⟩ (.int .i64 0)).setCell ⟨pz,7,none⟩ (.int .i64 0)).setCell ⟨pz,8,none⟩ (.string ⟨#[]⟩)).setCell ⟨pz,9,none⟩ (.int .i64 0)).setCell ⟨pz,10,none⟩ (.int .i64 0)):=r11_gs v3 pz kd 0 0 x6 ⟨0,0,0,0,⟨#[]⟩,0,0⟩;refine uZ 7 ?_;simp only[pZ,zZ];refine sZ 8 fun K hK=>?_;go_simp
       skip
       refine hK.out _ _ ?_ (fun zH2=>?_)
       ·exact trivial
       clear hK K zH;have zH:=zH2;clear zH2;(try simp only[pZ,zZ]);refine dZ ?_;generalize (((((((((((v3.setCell ⟨pz,0,none⟩ (.int .i64 kd)).setCell ⟨pz,1,none⟩ (.int .i64 0)).setCell ⟨pz,2,none⟩ (.int .i64 0)).setCell ⟨pz,3,none⟩ (.int .i64 x6)).setCell ⟨pz,4,none⟩ (.int .i64 0)).setCell ⟨pz,5,none⟩ (.int .i64 0)).setCell ⟨pz,6,none⟩ (.int .i64 0)).setCell ⟨pz,7,none⟩ (.int .i64 0)).setCell ⟨pz,8,none⟩ (.string ⟨#[]⟩)).setCell ⟨pz,9,none⟩ (.int .i64 0)).setCell ⟨pz,10,none⟩ (.int .i64 0))=Wz at Zz hGz ⊢;go_wp2_with fail
       clear z0 z1 z2 z3 z4 z5 z6 z7 z8 z9 z10 f0 f1 f2 f3 f4 f5 f6 f7 f8 f9 f10;obtain ⟨z0,z1,z2,z3,z4,z5,z6,z7,z8,z9,z10⟩:=r11_cells Zz;refine bodyPost_ret (v:=.agg #[.int .i64 kd,.int .i64 0,.int .i64 0,.int .i64 x6,.int .i64 0,.int .i64 0,.int .i64 0,.int .i64 0,.string ⟨#[]⟩,.int .i64 0,.int .i64 0]) (by simp [results,Tryz.results52,go_sem,z0,z1,z2,z3,z4,z5,z6,z7,z8,z9,z10]) rfl ?_;exact ⟨_,_,_,_,⟨0,0,0,0,⟨#[]⟩,0,0⟩,rfl,by decide,RR3.gs hGz kg kq,gr_gs GG3 hGz k3⟩
     ·go_simp
      refine (below_any _ _ _ _ 3 _ RR2 (by omega) (by omega)).mono ?_;rintro e v3 ⟨x6,rfl,x6a,x6b,RR3,hg3⟩;go_wp2_with fail
      refine hK.out _ _ trivial (fun zH2=>?_);clear hK K zH;have zH:=zH2;clear zH2;(try simp only[pZ,zZ]);have GG3:=gr_trans GG2 hg3;have ZZ3:R11 v3 pz 0 0 0 0 ⟨0,0,0,0,⟨#[]⟩,0,0⟩:=RowAt.gr ZZ2 hg3 kg;have QQ3:=RowAt.gr QQ2 hg3 kqq;obtain ⟨kd,hkd3⟩:∃ k:Int,v3.cell? ⟨qq,x5.toNat,none⟩=some (.int .i64 k):=two_cell QQ3 i2;have ql3:=QQ3.lt;refine sZ 4 fun K hK=>?_
      ·go_simp
       refine hK.out _ _ trivial (fun zH2=>?_);clear hK K zH;have zH:=zH2;clear zH2;(try simp only[pZ,zZ]);obtain ⟨z0,z1,z2,z3,z4,z5,z6,z7,z8,z9,z10⟩:=r11_cells ZZ3;obtain ⟨f0,f1,f2,f3,f4,f5,f6,f7,f8,f9,f10⟩:=r11_frees ZZ3;have zl9:=ZZ3.lt;have Zz:R11 (((((((((((v3.setCell ⟨pz,0,none⟩ (.int .i64 kd)).setCell ⟨pz,1,none⟩ (.int .i64 0)).setCell ⟨pz,2,none⟩ (.int .i64 0)).setCell ⟨pz,3,none⟩ (.int .i64 x6)).setCell ⟨pz,4,none⟩ (.int .i64 0)).setCell ⟨pz,5,none⟩ (.int .i64 0)).setCell ⟨pz,6,none⟩ (.int .i64 0)).setCell ⟨pz,7,none⟩ (.int .i64 0)).setCell ⟨pz,8,none⟩ (.string ⟨#[]⟩)).setCell ⟨pz,9,none⟩ (.int .i64 0)).setCell ⟨pz,10,none⟩ (.int .i64 0)) pz kd 0 0 x6 ⟨0,0,0,0,⟨#[]⟩,0,0⟩:=r11_put ZZ3 kd 0 0 x6 ⟨0,0,0,0,⟨#[]⟩,0,0⟩;have hGz:Gs (fun k=>k=pz) v3 (((((((((((v3.setCell ⟨pz,0,none⟩ (.int .i64 kd)).setCell ⟨pz,1,none⟩ (.int .i64 0)).setCell ⟨pz,2,none⟩ (.int .i64 0)).setCell ⟨pz,3,none⟩ (.int .i64 x6)).setCell ⟨pz,4,none⟩ (.int .i64 0)).setCell ⟨pz,5,none⟩ (.int .i64 0)).setCell ⟨pz,6,none⟩ (.int .i64 0)).setCell ⟨pz,7,none⟩ (.int .i64 0)).setCell ⟨pz,8,none⟩ (.string ⟨#[]⟩)).setCell ⟨pz,9,none⟩ (.int .i64 0)).setCell ⟨pz,10,none⟩ (.int .i64 0)):=r11_gs v3 pz kd 0 0 x6 ⟨0,0,0,0,⟨#[]⟩,0,0⟩;refine uZ 7 ?_;simp only[pZ,zZ];refine sZ 8 fun K hK=>?_;go_simp
       skip
       refine hK.out _ _ ?_ (fun zH2=>?_)
       ·exact trivial
       clear hK K zH;have zH:=zH2;clear zH2;(try simp only[pZ,zZ]);refine dZ ?_;generalize (((((((((((v3.setCell ⟨pz,0,none⟩ (.int .i64 kd)).setCell ⟨pz,1,none⟩ (.int .i64 0)).setCell ⟨pz,2,none⟩ (.int .i64 0)).setCell ⟨pz,3,none⟩ (.int .i64 x6)).setCell ⟨pz,4,none⟩ (.int .i64 0)).setCell ⟨pz,5,none⟩ (.int .i64 0)).setCell ⟨pz,6,none⟩ (.int .i64 0)).setCell ⟨pz,7,none⟩ (.int .i64 0)).setCell ⟨pz,8,none⟩ (.string ⟨#[]⟩)).setCell ⟨pz,9,none⟩ (.int .i64 0)).setCell ⟨pz,10,none⟩ (.int .i64 0))=Wz at Zz hGz ⊢;go_wp2_with fail
       clear z0 z1 z2 z3 z4 z5 z6 z7 z8 z9 z10 f0 f1 f2 f3 f4 f5 f6 f7 f8 f9 f10;obtain ⟨z0,z1,z2,z3,z4,z5,z6,z7,z8,z9,z10⟩:=r11_cells Zz;refine bodyPost_ret (v:=.agg #[.int .i64 kd,.int .i64 0,.int .i64 0,.int .i64 x6,.int .i64 0,.int .i64 0,.int .i64 0,.int .i64 0,.string ⟨#[]⟩,.int .i64 0,.int .i64 0]) (by simp [results,Tryz.results52,go_sem,z0,z1,z2,z3,z4,z5,z6,z7,z8,z9,z10]) rfl ?_;exact ⟨_,_,_,_,⟨0,0,0,0,⟨#[]⟩,0,0⟩,rfl,by decide,RR3.gs hGz kg kq,gr_gs GG3 hGz k3⟩
   ·go_simp
    refine (below_any _ _ _ _ 2 _ RR0 (by omega) (by omega)).mono ?_;rintro e v1 ⟨x5,rfl,x5a,x5b,RR1,hg1⟩;go_wp2_with fail
    refine hK.out _ _ trivial (fun zH2=>?_);clear hK K zH;have zH:=zH2;clear zH2;(try simp only[pZ,zZ]);have GG1:=gr_trans GG0 hg1;have ZZ1:R11 v1 pz 0 0 0 0 ⟨0,0,0,0,⟨#[]⟩,0,0⟩:=RowAt.gr ZZ0 hg1 kg;refine rZ [0,6] (.cons rfl (fun K hK=>?_) (.cons rfl (fun K hK=>?_) .nil))
    ·go_simp
     refine hK.out _ _ trivial (fun zH2=>?_);clear hK K zH;have zH:=zH2;clear zH2;(try simp only[pZ,zZ]);have hc2:Below v1.heap.size v1 (v1.alloc (.cells #[.int .i64 4,.int .i64 5] 2)):=(Below.refl _ _).alloc (Nat.le_refl _) _;have QQ2:=RowAt.new v1 #[.int .i64 4,.int .i64 5] 2;obtain ⟨v2,hw⟩:∃ W,v1.alloc (.cells #[.int .i64 4,.int .i64 5] 2)=W:=⟨_,rfl⟩
     rw [hw] at hc2 QQ2 ⊢;clear hw;obtain ⟨qq,hqq⟩:∃ z,Hid (v1.heap.size=z):=⟨_,rfl⟩
     rw [hqq.out] at QQ2 ⊢;have RR2:=RR1.below hc2;have GG2:=gr_trans GG1 (gr_below hc2);have ZZ2:R11 v2 pz 0 0 0 0 ⟨0,0,0,0,⟨#[]⟩,0,0⟩:=RowAt.below ZZ1 hc2;have kqq:¬qq=g:=by have:=hqq.out;have:=RR1.lt;omega
     have i0:(0:Int)≤x5:=by omega
     have i1:x5<(2:Int):=by omega
     have i2:x5.toNat<2:=by omega
     refine tZ (i:=3) (v:=.pointer (some ⟨qq,x5.toNat,none⟩)) rfl (.inl ⟨by rfl,?_⟩) zH ?_
     ·(intro w hSw;(try dsimp only at hSw);go_simp;skip)
     (try simp only[pZ,zZ]);obtain ⟨kd,hkd2⟩:∃ k:Int,v2.cell? ⟨qq,x5.toNat,none⟩=some (.int .i64 k):=two_cell QQ2 i2;have ql2:=QQ2.lt;refine rZ [4,6] (.cons rfl (fun K hK=>?_) (.cons rfl (fun K hK=>?_) .nil))
     ·go_simp
      refine hK.out _ _ trivial (fun zH2=>?_);clear hK K zH;have zH:=zH2;clear zH2;(try simp only[pZ,zZ]);refine sZ 6 fun K hK=>?_
      ·go_simp
       refine (below_any _ _ _ _ 3 _ RR2 (by omega) (by omega)).mono ?_;rintro e v3 ⟨x6,rfl,x6a,x6b,RR3,hg3⟩;go_wp2_with fail
       refine hK.out _ _ trivial (fun zH2=>?_);clear hK K zH;have zH:=zH2;clear zH2;(try simp only[pZ,zZ]);have GG3:=gr_trans GG2 hg3;have ZZ3:R11 v3 pz 0 0 0 0 ⟨0,0,0,0,⟨#[]⟩,0,0⟩:=RowAt.gr ZZ2 hg3 kg;have QQ3:=RowAt.gr QQ2 hg3 kqq;obtain ⟨z0,z1,z2,z3,z4,z5,z6,z7,z8,z9,z10⟩:=r11_cells ZZ3;obtain ⟨f0,f1,f2,f3,f4,f5,f6,f7,f8,f9,f10⟩:=r11_frees ZZ3;have zl9:=ZZ3.lt;have Zz:R11 (((((((((((v3.setCell ⟨pz,0,none⟩ (.int .i64 kd)).setCell ⟨pz,1,none⟩ (.int .i64 0)).setCell ⟨pz,2,none⟩ (.int .i64 0)).setCell ⟨pz,3,none⟩ (.int .i64 x6)).setCell ⟨pz,4,none⟩ (.int .i64 0)).setCell ⟨pz,5,none⟩ (.int .i64 0)).setCell ⟨pz,6,none⟩ (.int .i64 0)).setCell ⟨pz,7,none⟩ (.int .i64 0)).setCell ⟨pz,8,none⟩ (.string ⟨#[]⟩)).setCell ⟨pz,9,none⟩ (.int .i64 0)).setCell ⟨pz,10,none⟩ (.int .i64 0)) pz kd 0 0 x6 ⟨0,0,0,0,⟨#[]⟩,0,0⟩:=r11_put ZZ3 kd 0 0 x6 ⟨0,0,0,0,⟨#[]⟩,0,0⟩;have hGz:Gs (fun k=>k=pz) v3 (((((((((((v3.setCell ⟨pz,0,none⟩ (.int .i64 kd)).setCell ⟨pz,1,none⟩ (.int .i64 0)).setCell ⟨pz,2,none⟩ (.int .i64 0)).setCell ⟨pz,3,none⟩ (.int .i64 x6)).setCell ⟨pz,4,none⟩ (.int .i64 0)).setCell ⟨pz,5,none⟩ (.int .i64 0)).setCell ⟨pz,6,none⟩ (.int .i64 0)).setCell ⟨pz,7,none⟩ (.int .i64 0)).setCell ⟨pz,8,none⟩ (.string ⟨#[]⟩)).setCell ⟨pz,9,none⟩ (.int .i64 0)).setCell ⟨pz,10,none⟩ (.int .i64 0)):=r11_gs v3 pz kd 0 0 x6 ⟨0,0,0,0,⟨#[]⟩,0,0⟩;refine uZ 7 ?_;simp only[pZ,zZ];refine sZ 8 fun K hK=>?_;go_simp
       skip
       refine hK.out _ _ ?_ (fun zH2=>?_)
       ·exact trivial
       clear hK K zH;have zH:=zH2;clear zH2;(try simp only[pZ,zZ]);refine dZ ?_;generalize (((((((((((v3.setCell ⟨pz,0,none⟩ (.int .i64 kd)).setCell ⟨pz,1,none⟩ (.int .i64 0)).setCell ⟨pz,2,none⟩ (.int .i64 0)).setCell ⟨pz,3,none⟩ (.int .i64 x6)).setCell ⟨pz,4,none⟩ (.int .i64 0)).setCell ⟨pz,5,none⟩ (.int .i64 0)).setCell ⟨pz,6,none⟩ (.int .i64 0)).setCell ⟨pz,7,none⟩ (.int .i64 0)).setCell ⟨pz,8,none⟩ (.string ⟨#[]⟩)).setCell ⟨pz,9,none⟩ (.int .i64 0)).setCell ⟨pz,10,none⟩ (.int .i64 0))=Wz at Zz hGz ⊢;go_wp2_with fail
       clear z0 z1 z2 z3 z4 z5 z6 z7 z8 z9 z10 f0 f1 f2 f3 f4 f5 f6 f7 f8 f9 f10;obtain ⟨z0,z1,z2,z3,z4,z5,z6,z7,z8,z9,z10⟩:=r11_cells Zz;refine bodyPost_ret (v:=.agg #[.int .i64 kd,.int .i64 0,.int .i64 0,.int .i64 x6,.int .i64 0,.int .i64 0,.int .i64 0,.int .i64 0,.string ⟨#[]⟩,.int .i64 0,.int .i64 0]) (by simp [results,Tryz.results52,go_sem,z0,z1,z2,z3,z4,z5,z6,z7,z8,z9,z10]) rfl ?_;exact ⟨_,_,_,_,⟨0,0,0,0,⟨#[]⟩,0,0⟩,rfl,by decide,RR3.gs hGz kg kq,gr_gs GG3 hGz k3⟩
     ·go_simp
      refine (below_any _ _ _ _ 3 _ RR2 (by omega) (by omega)).mono ?_;rintro e v3 ⟨x6,rfl,x6a,x6b,RR3,hg3⟩;go_wp2_with fail
      refine hK.out _ _ trivial (fun zH2=>?_);clear hK K zH;have zH:=zH2;clear zH2;(try simp only[pZ,zZ]);have GG3:=gr_trans GG2 hg3;have ZZ3:R11 v3 pz 0 0 0 0 ⟨0,0,0,0,⟨#[]⟩,0,0⟩:=RowAt.gr ZZ2 hg3 kg;have QQ3:=RowAt.gr QQ2 hg3 kqq;obtain ⟨kd,hkd3⟩:∃ k:Int,v3.cell? ⟨qq,x5.toNat,none⟩=some (.int .i64 k):=two_cell QQ3 i2;have ql3:=QQ3.lt;refine sZ 4 fun K hK=>?_
      ·go_simp
       refine hK.out _ _ trivial (fun zH2=>?_);clear hK K zH;have zH:=zH2;clear zH2;(try simp only[pZ,zZ]);obtain ⟨z0,z1,z2,z3,z4,z5,z6,z7,z8,z9,z10⟩:=r11_cells ZZ3;obtain ⟨f0,f1,f2,f3,f4,f5,f6,f7,f8,f9,f10⟩:=r11_frees ZZ3;have zl9:=ZZ3.lt;have Zz:R11 (((((((((((v3.setCell ⟨pz,0,none⟩ (.int .i64 kd)).setCell ⟨pz,1,none⟩ (.int .i64 0)).setCell ⟨pz,2,none⟩ (.int .i64 0)).setCell ⟨pz,3,none⟩ (.int .i64 x6)).setCell ⟨pz,4,none⟩ (.int .i64 0)).setCell ⟨pz,5,none⟩ (.int .i64 0)).setCell ⟨pz,6,none⟩ (.int .i64 0)).setCell ⟨pz,7,none⟩ (.int .i64 0)).setCell ⟨pz,8,none⟩ (.string ⟨#[]⟩)).setCell ⟨pz,9,none⟩ (.int .i64 0)).setCell ⟨pz,10,none⟩ (.int .i64 0)) pz kd 0 0 x6 ⟨0,0,0,0,⟨#[]⟩,0,0⟩:=r11_put ZZ3 kd 0 0 x6 ⟨0,0,0,0,⟨#[]⟩,0,0⟩;have hGz:Gs (fun k=>k=pz) v3 (((((((((((v3.setCell ⟨pz,0,none⟩ (.int .i64 kd)).setCell ⟨pz,1,none⟩ (.int .i64 0)).setCell ⟨pz,2,none⟩ (.int .i64 0)).setCell ⟨pz,3,none⟩ (.int .i64 x6)).setCell ⟨pz,4,none⟩ (.int .i64 0)).setCell ⟨pz,5,none⟩ (.int .i64 0)).setCell ⟨pz,6,none⟩ (.int .i64 0)).setCell ⟨pz,7,none⟩ (.int .i64 0)).setCell ⟨pz,8,none⟩ (.string ⟨#[]⟩)).setCell ⟨pz,9,none⟩ (.int .i64 0)).setCell ⟨pz,10,none⟩ (.int .i64 0)):=r11_gs v3 pz kd 0 0 x6 ⟨0,0,0,0,⟨#[]⟩,0,0⟩;refine uZ 7 ?_;simp only[pZ,zZ];refine sZ 8 fun K hK=>?_;go_simp
       skip
       refine hK.out _ _ ?_ (fun zH2=>?_)
       ·exact trivial
       clear hK K zH;have zH:=zH2;clear zH2;(try simp only[pZ,zZ]);refine dZ ?_;generalize (((((((((((v3.setCell ⟨pz,0,none⟩ (.int .i64 kd)).setCell ⟨pz,1,none⟩ (.int .i64 0)).setCell ⟨pz,2,none⟩ (.int .i64 0)).setCell ⟨pz,3,none⟩ (.int .i64 x6)).setCell ⟨pz,4,none⟩ (.int .i64 0)).setCell ⟨pz,5,none⟩ (.int .i64 0)).setCell ⟨pz,6,none⟩ (.int .i64 0)).setCell ⟨pz,7,none⟩ (.int .i64 0)).setCell ⟨pz,8,none⟩ (.string ⟨#[]⟩)).setCell ⟨pz,9,none⟩ (.int .i64 0)).setCell ⟨pz,10,none⟩ (.int .i64 0))=Wz at Zz hGz ⊢;go_wp2_with fail
       clear z0 z1 z2 z3 z4 z5 z6 z7 z8 z9 z10 f0 f1 f2 f3 f4 f5 f6 f7 f8 f9 f10;obtain ⟨z0,z1,z2,z3,z4,z5,z6,z7,z8,z9,z10⟩:=r11_cells Zz;refine bodyPost_ret (v:=.agg #[.int .i64 kd,.int .i64 0,.int .i64 0,.int .i64 x6,.int .i64 0,.int .i64 0,.int .i64 0,.int .i64 0,.string ⟨#[]⟩,.int .i64 0,.int .i64 0]) (by simp [results,Tryz.results52,go_sem,z0,z1,z2,z3,z4,z5,z6,z7,z8,z9,z10]) rfl ?_;exact ⟨_,_,_,_,⟨0,0,0,0,⟨#[]⟩,0,0⟩,rfl,by decide,RR3.gs hGz kg kq,gr_gs GG3 hGz k3⟩
    ·go_simp
     refine (below_any _ _ _ _ 3 _ RR1 (by omega) (by omega)).mono ?_;rintro e v2 ⟨x6,rfl,x6a,x6b,RR2,hg2⟩;go_wp2_with fail
     refine hK.out _ _ trivial (fun zH2=>?_);clear hK K zH;have zH:=zH2;clear zH2;(try simp only[pZ,zZ]);have GG2:=gr_trans GG1 hg2;have ZZ2:R11 v2 pz 0 0 0 0 ⟨0,0,0,0,⟨#[]⟩,0,0⟩:=RowAt.gr ZZ1 hg2 kg;refine sZ 0 fun K hK=>?_
     ·go_simp
      refine hK.out _ _ trivial (fun zH2=>?_);clear hK K zH;have zH:=zH2;clear zH2;(try simp only[pZ,zZ]);have hc3:Below v2.heap.size v2 (v2.alloc (.cells #[.int .i64 4,.int .i64 5] 2)):=(Below.refl _ _).alloc (Nat.le_refl _) _;have QQ3:=RowAt.new v2 #[.int .i64 4,.int .i64 5] 2;obtain ⟨v3,hw⟩:∃ W,v2.alloc (.cells #[.int .i64 4,.int .i64 5] 2)=W:=⟨_,rfl⟩
      rw [hw] at hc3 QQ3 ⊢;clear hw;obtain ⟨qq,hqq⟩:∃ z,Hid (v2.heap.size=z):=⟨_,rfl⟩
      rw [hqq.out] at QQ3 ⊢;have RR3:=RR2.below hc3;have GG3:=gr_trans GG2 (gr_below hc3);have ZZ3:R11 v3 pz 0 0 0 0 ⟨0,0,0,0,⟨#[]⟩,0,0⟩:=RowAt.below ZZ2 hc3;have kqq:¬qq=g:=by have:=hqq.out;have:=RR2.lt;omega
      have i0:(0:Int)≤x5:=by omega
      have i1:x5<(2:Int):=by omega
      have i2:x5.toNat<2:=by omega
      refine tZ (i:=3) (v:=.pointer (some ⟨qq,x5.toNat,none⟩)) rfl (.inl ⟨by rfl,?_⟩) zH ?_
      ·(intro w hSw;(try dsimp only at hSw);go_simp;skip)
      (try simp only[pZ,zZ]);obtain ⟨kd,hkd3⟩:∃ k:Int,v3.cell? ⟨qq,x5.toNat,none⟩=some (.int .i64 k):=two_cell QQ3 i2;have ql3:=QQ3.lt;refine sZ 4 fun K hK=>?_
      ·go_simp
       refine hK.out _ _ trivial (fun zH2=>?_);clear hK K zH;have zH:=zH2;clear zH2;(try simp only[pZ,zZ]);obtain ⟨z0,z1,z2,z3,z4,z5,z6,z7,z8,z9,z10⟩:=r11_cells ZZ3;obtain ⟨f0,f1,f2,f3,f4,f5,f6,f7,f8,f9,f10⟩:=r11_frees ZZ3;have zl9:=ZZ3.lt;have Zz:R11 (((((((((((v3.setCell ⟨pz,0,none⟩ (.int .i64 kd)).setCell ⟨pz,1,none⟩ (.int .i64 0)).setCell ⟨pz,2,none⟩ (.int .i64 0)).setCell ⟨pz,3,none⟩ (.int .i64 x6)).setCell ⟨pz,4,none⟩ (.int .i64 0)).setCell ⟨pz,5,none⟩ (.int .i64 0)).setCell ⟨pz,6,none⟩ (.int .i64 0)).setCell ⟨pz,7,none⟩ (.int .i64 0)).setCell ⟨pz,8,none⟩ (.string ⟨#[]⟩)).setCell ⟨pz,9,none⟩ (.int .i64 0)).setCell ⟨pz,10,none⟩ (.int .i64 0)) pz kd 0 0 x6 ⟨0,0,0,0,⟨#[]⟩,0,0⟩:=r11_put ZZ3 kd 0 0 x6 ⟨0,0,0,0,⟨#[]⟩,0,0⟩;have hGz:Gs (fun k=>k=pz) v3 (((((((((((v3.setCell ⟨pz,0,none⟩ (.int .i64 kd)).setCell ⟨pz,1,none⟩ (.int .i64 0)).setCell ⟨pz,2,none⟩ (.int .i64 0)).setCell ⟨pz,3,none⟩ (.int .i64 x6)).setCell ⟨pz,4,none⟩ (.int .i64 0)).setCell ⟨pz,5,none⟩ (.int .i64 0)).setCell ⟨pz,6,none⟩ (.int .i64 0)).setCell ⟨pz,7,none⟩ (.int .i64 0)).setCell ⟨pz,8,none⟩ (.string ⟨#[]⟩)).setCell ⟨pz,9,none⟩ (.int .i64 0)).setCell ⟨pz,10,none⟩ (.int .i64 0)):=r11_gs v3 pz kd 0 0 x6 ⟨0,0,0,0,⟨#[]⟩,0,0⟩;refine uZ 7 ?_;simp only[pZ,zZ];refine sZ 8 fun K hK=>?_;go_simp
       skip
       refine hK.out _ _ ?_ (fun zH2=>?_)
       ·exact trivial
       clear hK K zH;have zH:=zH2;clear zH2;(try simp only[pZ,zZ]);refine dZ ?_;generalize (((((((((((v3.setCell ⟨pz,0,none⟩ (.int .i64 kd)).setCell ⟨pz,1,none⟩ (.int .i64 0)).setCell ⟨pz,2,none⟩ (.int .i64 0)).setCell ⟨pz,3,none⟩ (.int .i64 x6)).setCell ⟨pz,4,none⟩ (.int .i64 0)).setCell ⟨pz,5,none⟩ (.int .i64 0)).setCell ⟨pz,6,none⟩ (.int .i64 0)).setCell ⟨pz,7,none⟩ (.int .i64 0)).setCell ⟨pz,8,none⟩ (.string ⟨#[]⟩)).setCell ⟨pz,9,none⟩ (.int .i64 0)).setCell ⟨pz,10,none⟩ (.int .i64 0))=Wz at Zz hGz ⊢;go_wp2_with fail
       clear z0 z1 z2 z3 z4 z5 z6 z7 z8 z9 z10 f0 f1 f2 f3 f4 f5 f6 f7 f8 f9 f10;obtain ⟨z0,z1,z2,z3,z4,z5,z6,z7,z8,z9,z10⟩:=r11_cells Zz;refine bodyPost_ret (v:=.agg #[.int .i64 kd,.int .i64 0,.int .i64 0,.int .i64 x6,.int .i64 0,.int .i64 0,.int .i64 0,.int .i64 0,.string ⟨#[]⟩,.int .i64 0,.int .i64 0]) (by simp [results,Tryz.results52,go_sem,z0,z1,z2,z3,z4,z5,z6,z7,z8,z9,z10]) rfl ?_;exact ⟨_,_,_,_,⟨0,0,0,0,⟨#[]⟩,0,0⟩,rfl,by decide,RR3.gs hGz kg kq,gr_gs GG3 hGz k3⟩
 have b0:(kk==0)=false:=by simp [hk0]
 have b1:(kk==1)=false:=by simp [hk1]
 have b2:(kk==2)=false:=by simp [hk2]
 have b3:(kk==3)=false:=by simp [hk3]
 have b4:(kk==4)=false:=by simp [hk4]
 have b5:(kk==5)=false:=by simp [hk5]
 clear hk0 hk1 hk2 hk3 hk4 hk5;clear z0 z1 z2 z3 z4 z5 z6 z7 z8 z9 z10 f0 f1 f2 f3 f4 f5 f6 f7 f8 f9 f10;go_wp2_with fail
 refine (op_any _ _ _ _ _ R3').mono ?_;rintro e t1 ⟨⟨x,rfl,hx⟩,Ra,Ga⟩;have Gb:=gr_trans G03 Ga;have Za:R11 t1 pz 0 0 0 0 ⟨0,0,0,0,⟨#[]⟩,0,0⟩:=RowAt.gr Z3 Ga kg;have hsa:=Gb.size;have hAt:Below t1.heap.size t1 (t1.alloc (.cells #[.int .i64 1,.int .i64 (1+x1),.int .i64 0,.int .i64 0,.int .i64 x.k,.int .i64 x.t,.int .i64 x.id,.int .i64 x.pa,.string x.s,.int .i64 x.st,.int .i64 x.en] 112)):=(Below.refl _ _).alloc (Nat.le_refl _) _;have Q2:=r11_new t1 1 (1+x1) 0 0 x 112;go_upto_region 15 with fail
 obtain ⟨t2,ht2⟩:∃ W,t1.alloc (.cells #[.int .i64 1,.int .i64 (1+x1),.int .i64 0,.int .i64 0,.int .i64 x.k,.int .i64 x.t,.int .i64 x.id,.int .i64 x.pa,.string x.s,.int .i64 x.st,.int .i64 x.en] 112)=W:=⟨_,rfl⟩
 rw [ht2] at hAt Q2 ⊢;clear ht2;obtain ⟨pq,hpq⟩:∃ z,Hid (t1.heap.size=z):=⟨_,rfl⟩
 rw [hpq.out] at Q2 ⊢;have kq2:w.heap.size≤pq:=by have:=hpq.out;omega
 have kqg:¬pq=g:=by omega
 have kqz:¬pq=pz:=by have:=hpq.out;have:=Za.lt;omega
 have kqq:len=0∨∃ b off,av=some ⟨b,off,none⟩∧¬pq=b:=h.old kq2;have Rb:=Ra.below hAt;have Zb:R11 t2 pz 0 0 0 0 ⟨0,0,0,0,⟨#[]⟩,0,0⟩:=RowAt.below Za hAt;have Gc:=gr_trans Gb (gr_below hAt);go_wp2_with fail
 refine (once_any _ _ _ _ _ _ Rb (by omega) (by omega)).mono ?_;rintro e t3 ⟨b3,rfl,Rc,Gd⟩;have Ge:=gr_trans Gc Gd;have Q3:R11 t3 pq 1 (1+x1) 0 0 x:=RowAt.gr Q2 Gd kqg;have Zc:R11 t3 pz 0 0 0 0 ⟨0,0,0,0,⟨#[]⟩,0,0⟩:=RowAt.gr Zb Gd kg
 cases b3 with
 | false =>
  obtain ⟨s0,s1,s2,s3,s4,s5,s6,s7,s8,s9,s10⟩:=r11_cells Q3;have sl:=Q3.lt;obtain ⟨z0,z1,z2,z3,z4,z5,z6,z7,z8,z9,z10⟩:=r11_cells Zc;obtain ⟨f0,f1,f2,f3,f4,f5,f6,f7,f8,f9,f10⟩:=r11_frees Zc;have zl':=Zc.lt;have Zz:R11 (((((((((((t3.setCell ⟨pz,0,none⟩ (.int .i64 (1))).setCell ⟨pz,1,none⟩ (.int .i64 (1+x1))).setCell ⟨pz,2,none⟩ (.int .i64 (0))).setCell ⟨pz,3,none⟩ (.int .i64 (0))).setCell ⟨pz,4,none⟩ (.int .i64 x.k)).setCell ⟨pz,5,none⟩ (.int .i64 x.t)).setCell ⟨pz,6,none⟩ (.int .i64 x.id)).setCell ⟨pz,7,none⟩ (.int .i64 x.pa)).setCell ⟨pz,8,none⟩ (.string x.s)).setCell ⟨pz,9,none⟩ (.int .i64 x.st)).setCell ⟨pz,10,none⟩ (.int .i64 x.en)) pz (1) (1+x1) (0) (0) x:=r11_put Zc (1) (1+x1) (0) (0) x;have hGz:Gs (fun k=>k=pz) t3 (((((((((((t3.setCell ⟨pz,0,none⟩ (.int .i64 (1))).setCell ⟨pz,1,none⟩ (.int .i64 (1+x1))).setCell ⟨pz,2,none⟩ (.int .i64 (0))).setCell ⟨pz,3,none⟩ (.int .i64 (0))).setCell ⟨pz,4,none⟩ (.int .i64 x.k)).setCell ⟨pz,5,none⟩ (.int .i64 x.t)).setCell ⟨pz,6,none⟩ (.int .i64 x.id)).setCell ⟨pz,7,none⟩ (.int .i64 x.pa)).setCell ⟨pz,8,none⟩ (.string x.s)).setCell ⟨pz,9,none⟩ (.int .i64 x.st)).setCell ⟨pz,10,none⟩ (.int .i64 x.en)):=r11_gs t3 pz (1) (1+x1) (0) (0) x;go_wp2_with fail
  obtain ⟨Wz,hWz⟩:∃ W,(((((((((((t3.setCell ⟨pz,0,none⟩ (.int .i64 (1))).setCell ⟨pz,1,none⟩ (.int .i64 (1+x1))).setCell ⟨pz,2,none⟩ (.int .i64 (0))).setCell ⟨pz,3,none⟩ (.int .i64 (0))).setCell ⟨pz,4,none⟩ (.int .i64 x.k)).setCell ⟨pz,5,none⟩ (.int .i64 x.t)).setCell ⟨pz,6,none⟩ (.int .i64 x.id)).setCell ⟨pz,7,none⟩ (.int .i64 x.pa)).setCell ⟨pz,8,none⟩ (.string x.s)).setCell ⟨pz,9,none⟩ (.int .i64 x.st)).setCell ⟨pz,10,none⟩ (.int .i64 x.en))=W:=⟨_,rfl⟩
  rw [hWz] at Zz hGz ⊢;clear hWz;clear z0 z1 z2 z3 z4 z5 z6 z7 z8 z9 z10 f0 f1 f2 f3 f4 f5 f6 f7 f8 f9 f10;obtain ⟨z0,z1,z2,z3,z4,z5,z6,z7,z8,z9,z10⟩:=r11_cells Zz;refine bodyPost_ret (v:=.agg #[.int .i64 (1),.int .i64 (1+x1),.int .i64 (0),.int .i64 (0),.int .i64 x.k,.int .i64 x.t,.int .i64 x.id,.int .i64 x.pa,.string x.s,.int .i64 x.st,.int .i64 x.en]) (by simp [results,Tryz.results52,go_sem,z0,z1,z2,z3,z4,z5,z6,z7,z8,z9,z10]) rfl ?_;exact ⟨_,_,_,_,x,rfl,hx,Rc.gs hGz kg kq,gr_gs Ge hGz k3⟩
 | true =>
  go_wp2_with fail
  refine (off_any _ _ _ _ _ _ _ Rc (by omega) (by omega) (by omega)).mono ?_;rintro e t4 ⟨y,rfl,_,_,Rd,Gf⟩;have Gg:=gr_trans Ge Gf;have Q4:R11 t4 pq 1 (1+x1) 0 0 x:=RowAt.gr Q3 Gf kqg;have Zd:R11 t4 pz 0 0 0 0 ⟨0,0,0,0,⟨#[]⟩,0,0⟩:=RowAt.gr Zc Gf kg;obtain ⟨s0,s1,s2,s3,s4,s5,s6,s7,s8,s9,s10⟩:=r11_cells Q4;obtain ⟨g0,g1,g2,g3,g4,g5,g6,g7,g8,g9,g10⟩:=r11_frees Q4;have sl:=Q4.lt;have Q5:R11 (t4.setCell ⟨pq,0,none⟩ (.int .i64 y)) pq y (1+x1) 0 0 x:=RowAt.same (Q4.set (o:=0) (by omega) (.int .i64 y)) fun o ho=>by
   match o,ho with
   | 0,_=>rfl
   | 1,_=>rfl
   | 2,_=>rfl
   | 3,_=>rfl
   | 4,_=>rfl
   | 5,_=>rfl
   | 6,_=>rfl
   | 7,_=>rfl
   | 8,_=>rfl
   | 9,_=>rfl
   | 10,_=>rfl
  have hGq:Gs (fun k=>k=pq) t4 (t4.setCell ⟨pq,0,none⟩ (.int .i64 y)):=gs_one (gs_refl _ _) _ _;have Re:=Rd.gs hGq kqg kqq;have Gh:=gr_gs Gg hGq kq2;have Ze:R11 (t4.setCell ⟨pq,0,none⟩ (.int .i64 y)) pz 0 0 0 0 ⟨0,0,0,0,⟨#[]⟩,0,0⟩:=Zd.far (p:=⟨pq,0,none⟩) kqz (.int .i64 y);go_upto_region 17 with fail
  obtain ⟨t5,ht5⟩:∃ W,t4.setCell ⟨pq,0,none⟩ (.int .i64 y)=W:=⟨_,rfl⟩
  rw [ht5] at Q5 Re Gh Ze ⊢;clear ht5 s0 s1 s2 s3 s4 s5 s6 s7 s8 s9 s10 g0 g1 g2 g3 g4 g5 g6 g7 g8 g9 g10 sl;obtain ⟨s0,s1,s2,s3,s4,s5,s6,s7,s8,s9,s10⟩:=r11_cells Q5;have sl:=Q5.lt;obtain ⟨z0,z1,z2,z3,z4,z5,z6,z7,z8,z9,z10⟩:=r11_cells Ze;obtain ⟨f0,f1,f2,f3,f4,f5,f6,f7,f8,f9,f10⟩:=r11_frees Ze;have zl':=Ze.lt;have Zz:R11 (((((((((((t5.setCell ⟨pz,0,none⟩ (.int .i64 (y))).setCell ⟨pz,1,none⟩ (.int .i64 (1+x1))).setCell ⟨pz,2,none⟩ (.int .i64 (0))).setCell ⟨pz,3,none⟩ (.int .i64 (0))).setCell ⟨pz,4,none⟩ (.int .i64 x.k)).setCell ⟨pz,5,none⟩ (.int .i64 x.t)).setCell ⟨pz,6,none⟩ (.int .i64 x.id)).setCell ⟨pz,7,none⟩ (.int .i64 x.pa)).setCell ⟨pz,8,none⟩ (.string x.s)).setCell ⟨pz,9,none⟩ (.int .i64 x.st)).setCell ⟨pz,10,none⟩ (.int .i64 x.en)) pz (y) (1+x1) (0) (0) x:=r11_put Ze (y) (1+x1) (0) (0) x;have hGz:Gs (fun k=>k=pz) t5 (((((((((((t5.setCell ⟨pz,0,none⟩ (.int .i64 (y))).setCell ⟨pz,1,none⟩ (.int .i64 (1+x1))).setCell ⟨pz,2,none⟩ (.int .i64 (0))).setCell ⟨pz,3,none⟩ (.int .i64 (0))).setCell ⟨pz,4,none⟩ (.int .i64 x.k)).setCell ⟨pz,5,none⟩ (.int .i64 x.t)).setCell ⟨pz,6,none⟩ (.int .i64 x.id)).setCell ⟨pz,7,none⟩ (.int .i64 x.pa)).setCell ⟨pz,8,none⟩ (.string x.s)).setCell ⟨pz,9,none⟩ (.int .i64 x.st)).setCell ⟨pz,10,none⟩ (.int .i64 x.en)):=r11_gs t5 pz (y) (1+x1) (0) (0) x;go_wp2_with fail
  obtain ⟨Wz,hWz⟩:∃ W,(((((((((((t5.setCell ⟨pz,0,none⟩ (.int .i64 (y))).setCell ⟨pz,1,none⟩ (.int .i64 (1+x1))).setCell ⟨pz,2,none⟩ (.int .i64 (0))).setCell ⟨pz,3,none⟩ (.int .i64 (0))).setCell ⟨pz,4,none⟩ (.int .i64 x.k)).setCell ⟨pz,5,none⟩ (.int .i64 x.t)).setCell ⟨pz,6,none⟩ (.int .i64 x.id)).setCell ⟨pz,7,none⟩ (.int .i64 x.pa)).setCell ⟨pz,8,none⟩ (.string x.s)).setCell ⟨pz,9,none⟩ (.int .i64 x.st)).setCell ⟨pz,10,none⟩ (.int .i64 x.en))=W:=⟨_,rfl⟩
  rw [hWz] at Zz hGz ⊢;clear hWz;clear z0 z1 z2 z3 z4 z5 z6 z7 z8 z9 z10 f0 f1 f2 f3 f4 f5 f6 f7 f8 f9 f10;obtain ⟨z0,z1,z2,z3,z4,z5,z6,z7,z8,z9,z10⟩:=r11_cells Zz;refine bodyPost_ret (v:=.agg #[.int .i64 (y),.int .i64 (1+x1),.int .i64 (0),.int .i64 (0),.int .i64 x.k,.int .i64 x.t,.int .i64 x.id,.int .i64 x.pa,.string x.s,.int .i64 x.st,.int .i64 x.en]) (by simp [results,Tryz.results52,go_sem,z0,z1,z2,z3,z4,z5,z6,z7,z8,z9,z10]) rfl ?_;exact ⟨_,_,_,_,x,rfl,hx,Re.gs hGz kg kq,gr_gs Gh hGz k3⟩
end Go.Proofs.YtgcinolbkllkkaaGreat
