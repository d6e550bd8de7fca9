/-
  Texts of one proof, joined: Op1.
-/
import Derived.Test.YtgcinolbkllkkaaGreatZFConverged25
import Derived.Test.YtgcinolbkllkkaaGreatZFConverged37
set_option linter.unusedSimpArgs false
set_option linter.unusedVariables false
namespace Go.Proofs.YtgcinolbkllkkaaGreat
open Go.ChangeShapes Go.WideShapes Go.ChangeAt Go.RowKit
theorem op_set0 {w:World}{p:Nat}{x:M1.OpV}(h:OpAt w p x)(k:Int):OpAt (w.setCell ⟨p,0,none⟩ (.int .i64 k)) p ⟨k,x.t,x.id,x.pa,x.s,x.st,x.en⟩ :=
 RowAt.same (h.set (o:=0) (by omega) (.int .i64 k)) fun o ho=>by
  match o,ho with
  | 0,_=>rfl
  | 1,_=>rfl
  | 2,_=>rfl
  | 3,_=>rfl
  | 4,_=>rfl
  | 5,_=>rfl
  | 6,_=>rfl
theorem op_set1 {w:World}{p:Nat}{x:M1.OpV}(h:OpAt w p x)(k:Int):OpAt (w.setCell ⟨p,1,none⟩ (.int .i64 k)) p ⟨x.k,k,x.id,x.pa,x.s,x.st,x.en⟩ :=
 RowAt.same (h.set (o:=1) (by omega) (.int .i64 k)) fun o ho=>by
  match o,ho with
  | 0,_=>rfl
  | 1,_=>rfl
  | 2,_=>rfl
  | 3,_=>rfl
  | 4,_=>rfl
  | 5,_=>rfl
  | 6,_=>rfl
theorem op_set5 {w:World}{p:Nat}{x:M1.OpV}(h:OpAt w p x)(a b:Int)(s:ByteArray)(c d:Int):OpAt (((((w.setCell ⟨p,2,none⟩ (.int .i64 a)).setCell ⟨p,3,none⟩ (.int .i64 b)).setCell ⟨p,4,none⟩ (.string s)).setCell ⟨p,5,none⟩ (.int .i64 c)).setCell ⟨p,6,none⟩ (.int .i64 d)) p ⟨x.k,x.t,a,b,s,c,d⟩ :=
 RowAt.same (((((h.set (o:=2) (by omega) (.int .i64 a)).set (o:=3) (by omega) (.int .i64 b)).set (o:=4) (by omega) (.string s)).set (o:=5) (by omega) (.int .i64 c)).set (o:=6) (by omega) (.int .i64 d)) fun o ho=>by
  match o,ho with
  | 0,_=>rfl
  | 1,_=>rfl
  | 2,_=>rfl
  | 3,_=>rfl
  | 4,_=>rfl
  | 5,_=>rfl
  | 6,_=>rfl
theorem op_set7 {w:World}{p:Nat}{x0:M1.OpV}(h:OpAt w p x0)(x:M1.OpV):OpAt (((((((w.setCell ⟨p,0,none⟩ (.int .i64 x.k)).setCell ⟨p,1,none⟩ (.int .i64 x.t)).setCell ⟨p,2,none⟩ (.int .i64 x.id)).setCell ⟨p,3,none⟩ (.int .i64 x.pa)).setCell ⟨p,4,none⟩ (.string x.s)).setCell ⟨p,5,none⟩ (.int .i64 x.st)).setCell ⟨p,6,none⟩ (.int .i64 x.en)) p x :=
 RowAt.same (((((((h.set (o:=0) (by omega) (.int .i64 x.k)).set (o:=1) (by omega) (.int .i64 x.t)).set (o:=2) (by omega) (.int .i64 x.id)).set (o:=3) (by omega) (.int .i64 x.pa)).set (o:=4) (by omega) (.string x.s)).set (o:=5) (by omega) (.int .i64 x.st)).set (o:=6) (by omega) (.int .i64 x.en)) fun o ho=>by
  match o,ho with
  | 0,_=>rfl
  | 1,_=>rfl
  | 2,_=>rfl
  | 3,_=>rfl
  | 4,_=>rfl
  | 5,_=>rfl
  | 6,_=>rfl
theorem OpAt.frees {w:World}{p:Nat}{x:M1.OpV}(h:OpAt w p x):w.frozen? ⟨p,0,none⟩=false∧w.frozen? ⟨p,1,none⟩=false∧w.frozen? ⟨p,2,none⟩=false∧w.frozen? ⟨p,3,none⟩=false∧w.frozen? ⟨p,4,none⟩=false∧w.frozen? ⟨p,5,none⟩=false∧w.frozen? ⟨p,6,none⟩=false:=⟨h.free (o:=0) (by omega),h.free (o:=1) (by omega),h.free (o:=2) (by omega),h.free (o:=3) (by omega),h.free (o:=4) (by omega),h.free (o:=5) (by omega),h.free (o:=6) (by omega)⟩
theorem rdr_new {w:World}{g:Nat}{av:Option Addr}{len cap:Nat}(h:Rdr w g av len cap){k:Nat}(hg:¬k=g)(hk:len=0∨∃ b off,av=some ⟨b,off,none⟩∧¬k=b)(o:Nat)(v:Value):Rdr (w.setCell ⟨k,o,none⟩ v) g av len cap:=h.far (p:=⟨k,o,none⟩) hg hk v
theorem op_far5 {w:World}{k m z:Nat}{f:Nat→Value}(h:RowAt w k m f)(hn:¬z=k)(v0 v1 v2 v3 v4:Value):RowAt (((((w.setCell ⟨z,2,none⟩ v0).setCell ⟨z,3,none⟩ v1).setCell ⟨z,4,none⟩ v2).setCell ⟨z,5,none⟩ v3).setCell ⟨z,6,none⟩ v4) k m f :=
 ((((h.far (p:=⟨z,2,none⟩) hn v0).far (p:=⟨z,3,none⟩) hn v1).far (p:=⟨z,4,none⟩) hn v2).far (p:=⟨z,5,none⟩) hn v3).far (p:=⟨z,6,none⟩) hn v4
theorem rdr_far5 {w:World}{g:Nat}{av:Option Addr}{len cap:Nat}(h:Rdr w g av len cap){z:Nat}(hg:¬z=g)(hk:len=0∨∃ b off,av=some ⟨b,off,none⟩∧¬z=b)(v0 v1 v2 v3 v4:Value):Rdr (((((w.setCell ⟨z,2,none⟩ v0).setCell ⟨z,3,none⟩ v1).setCell ⟨z,4,none⟩ v2).setCell ⟨z,5,none⟩ v3).setCell ⟨z,6,none⟩ v4) g av len cap :=
 rdr_new (rdr_new (rdr_new (rdr_new (rdr_new h hg hk 2 v0) hg hk 3 v1) hg hk 4 v2) hg hk 5 v3) hg hk 6 v4
set_option maxHeartbeats 32000000 in
set_option maxRecDepth 100000 in
theorem op_any (g:Nat)(av:Option Addr)(len cap:Nat)(w:World)(h:Rdr w g av len cap) :
  Calls Tryz.prog 84 #[.pointer (some ⟨g,0,none⟩)] w fun e w'=>(∃ x:M1.OpV,e=.returned (.agg #[.int .i64 x.k,.int .i64 x.t,.int .i64 x.id,.int .i64 x.pa,.string x.s,.int .i64 x.st,.int .i64 x.en])∧x.s.size≤4)∧Rdr w' g av len cap∧Gr g w w':=by
 have hg:=h.lt;have hnz:len=0∨∃ b off,av=some ⟨b,off,none⟩∧¬w.heap.size=b:=h.old (Nat.le_refl _);have hA:Below w.heap.size w (w.alloc (.cells #[.int .i64 0,.int .i64 0,.int .i64 0,.int .i64 0,.string ⟨#[]⟩,.int .i64 0,.int .i64 0] 110)):=(Below.refl _ _).alloc (Nat.le_refl _) _;have z0:OpAt (w.alloc (.cells #[.int .i64 0,.int .i64 0,.int .i64 0,.int .i64 0,.string ⟨#[]⟩,.int .i64 0,.int .i64 0] 110)) w.heap.size ⟨0,0,0,0,⟨#[]⟩,0,0⟩:=op_new w ⟨0,0,0,0,⟨#[]⟩,0,0⟩ 110;go_enter Tryz.func84,Tryz.ntmps84
 go_upto_region 1 with fail
 obtain ⟨W0,hW0⟩:∃ W,w.alloc (.cells #[.int .i64 0,.int .i64 0,.int .i64 0,.int .i64 0,.string ⟨#[]⟩,.int .i64 0,.int .i64 0] 110)=W:=⟨_,rfl⟩
 rw [hW0] at hA z0 ⊢;clear hW0;obtain ⟨z,hz⟩:∃ z,Hid (w.heap.size=z):=⟨_,rfl⟩
 have hzg:¬z=g:=by have:=hz.out;omega
 have hzw:w.heap.size≤z:=by have:=hz.out;omega
 rw [hz.out] at z0 hnz ⊢;have R0:Rdr W0 g av len cap:=h.below hA;have zl0:=z0.lt;go_wp2_with fail
 refine (below_any _ _ _ _ _ _ R0 (by omega) (by omega)).mono ?_;rintro e w1 ⟨x1,rfl,y1,q1,R1,G1⟩;go_wp2_with fail
 refine (below_any _ _ _ _ _ _ R1 (by omega) (by omega)).mono ?_;rintro e w2 ⟨x2,rfl,y2,q2,R2,G2⟩;have G02:=gr_trans G1 G2;have z2:OpAt w2 z ⟨0,0,0,0,⟨#[]⟩,0,0⟩:=z0.gr G02 hzg;clear G1 G2 R1;have hA3:Below w2.heap.size w2 (w2.alloc (.cells #[.int .i64 (1+x1),.int .i64 (1+x2),.int .i64 0,.int .i64 0,.string ⟨#[]⟩,.int .i64 0,.int .i64 0] 110)):=(Below.refl _ _).alloc (Nat.le_refl _) _;have p3:OpAt (w2.alloc (.cells #[.int .i64 (1+x1),.int .i64 (1+x2),.int .i64 0,.int .i64 0,.string ⟨#[]⟩,.int .i64 0,.int .i64 0] 110)) w2.heap.size ⟨1+x1,1+x2,0,0,⟨#[]⟩,0,0⟩:=op_new w2 ⟨1+x1,1+x2,0,0,⟨#[]⟩,0,0⟩ 110;have hnp:len=0∨∃ b off,av=some ⟨b,off,none⟩∧¬w2.heap.size=b:=R2.old (Nat.le_refl _);go_upto_region 2 with fail
 obtain ⟨W3,hW3⟩:∃ W,w2.alloc (.cells #[.int .i64 (1+x1),.int .i64 (1+x2),.int .i64 0,.int .i64 0,.string ⟨#[]⟩,.int .i64 0,.int .i64 0] 110)=W:=⟨_,rfl⟩
 rw [hW3] at hA3 p3 ⊢;clear hW3;have hs2:=G02.size;obtain ⟨p,hp⟩:∃ p,Hid (w2.heap.size=p):=⟨_,rfl⟩
 have hpg:¬p=g:=by have:=hp.out;have:=hA.size;omega
 have hpz:¬p=z:=by have:=hp.out;omega
 have hp0:w.heap.size≤p:=by have:=hp.out;have:=hA.size;omega
 rw [hp.out] at p3 hnp ⊢;have R3:=R2.below hA3;have z3:OpAt W3 z ⟨0,0,0,0,⟨#[]⟩,0,0⟩:=RowAt.below z2 hA3;have G3:Gr g w W3:=gr_trans (gr_below hA) (gr_trans G02 (gr_below hA3));obtain ⟨k,hk⟩:∃ k,Hid (1+x1=k):=⟨_,rfl⟩
 obtain ⟨t,ht⟩:∃ k,Hid (1+x2=k):=⟨_,rfl⟩
 rw [hk.out,ht.out] at p3;clear R2 z2 hA3 R0 z0 zl0 G02 hs2;go_upto_if 12 with (go_at_call 83;refine (once_any _ _ _ _ _ _ R3 (by omega) (by omega)).mono ?_;rintro e w4 ⟨b,rfl,R4,G4⟩)
 have p4:OpAt w4 p ⟨k,t,0,0,⟨#[]⟩,0,0⟩:=p3.gr G4 hpg;have z4:OpAt w4 z ⟨0,0,0,0,⟨#[]⟩,0,0⟩:=z3.gr G4 hzg;have G04:=gr_trans G3 G4;clear p3 z3 R3 G3 G4;go_cut [] (fun wc=>∃ k,OpAt wc p ⟨k,t,0,0,⟨#[]⟩,0,0⟩∧OpAt wc z ⟨0,0,0,0,⟨#[]⟩,0,0⟩∧Rdr wc g av len cap∧Gr g w wc)
 case first =>
  cases b with
  | false =>
   go_wp2_with fail
   go_meet
   exact ⟨k,p4,z4,R4,G04⟩
  | true =>
   obtain ⟨c0,c1,c2,c3,c4,c5,c6⟩:=OpAt.cells p4;obtain ⟨f0,f1,f2,f3,f4,f5,f6⟩:=OpAt.frees p4;have pl:=p4.lt;go_wp2_with fail
   go_meet
   exact ⟨1,op_set0 p4 1,z4.far (p:=⟨p,0,none⟩) hpz _,rdr_new R4 hpg hnp 0 _,gr_new G04 ⟨p,0,none⟩ hp0 _⟩
 case rest =>
  obtain ⟨k2,p5,z5,R5,G5⟩:=hcut;clear p4 z4 R4 G04;obtain ⟨c0,c1,c2,c3,c4,c5,c6⟩:=OpAt.cells p5;have pl:=p5.lt;go_upto_if 16 with fail
  clear c0 c1 c2 c3 c4 c5 c6 pl;go_cut [] (fun wc=>∃ x:M1.OpV,OpAt wc p x∧x.s.size≤4∧OpAt wc z ⟨0,0,0,0,⟨#[]⟩,0,0⟩∧Rdr wc g av len cap∧Gr g w wc)
  case first =>
   by_cases hk2:k2=1
   ·have q2:(k2==1)=true:=by simp [hk2]
    clear hk2;go_wp2_with fail
    refine (span_any _ _ _ _ _ R5).mono ?_;rintro e w6 ⟨a,b',s,c,d,rfl,hs,R6,G6⟩;have p6:OpAt w6 p ⟨k2,t,0,0,⟨#[]⟩,0,0⟩:=p5.gr G6 hpg;have z6:OpAt w6 z ⟨0,0,0,0,⟨#[]⟩,0,0⟩:=z5.gr G6 hzg;have G06:=gr_trans G5 G6;obtain ⟨c0,c1,c2,c3,c4,c5,c6⟩:=OpAt.cells p6;obtain ⟨f0,f1,f2,f3,f4,f5,f6⟩:=OpAt.frees p6;have pl:=p6.lt;go_wp2_with fail
    go_meet
    exact ⟨⟨k2,t,a,b',s,c,d⟩,op_set5 p6 a b' s c d,hs,op_far5 z6 hpz _ _ _ _ _,rdr_far5 R6 hpg hnp _ _ _ _ _,gr_new (gr_new (gr_new (gr_new (gr_new G06 ⟨p,2,none⟩ hp0 _) ⟨p,3,none⟩ hp0 _) ⟨p,4,none⟩ hp0 _) ⟨p,5,none⟩ hp0 _) ⟨p,6,none⟩ hp0 _⟩
   ·have q2:(k2==1)=false:=by simp [hk2]
    clear hk2;go_wp2_with fail
    go_meet
    exact ⟨⟨k2,t,0,0,⟨#[]⟩,0,0⟩,p5,Nat.zero_le _,z5,R5,G5⟩
  case rest =>
   obtain ⟨x,p7,hx,z7,R7,G7⟩:=hcut;clear p5 z5 R5 G5;go_upto_if 21 with (go_at_call 83;refine (once_any _ _ _ _ _ _ R7 (by omega) (by omega)).mono ?_;rintro e w8 ⟨b2,rfl,R8,G8⟩)
   have p8:OpAt w8 p x:=p7.gr G8 hpg;have z8:OpAt w8 z ⟨0,0,0,0,⟨#[]⟩,0,0⟩:=z7.gr G8 hzg;have G08:=gr_trans G7 G8;clear p7 z7 R7 G7 G8;go_cut [] (fun wc=>∃ x:M1.OpV,OpAt wc p x∧x.s.size≤4∧OpAt wc z ⟨0,0,0,0,⟨#[]⟩,0,0⟩∧Rdr wc g av len cap∧Gr g w wc)
   case first =>
    cases b2 with
    | false =>
     go_wp2_with fail
     go_meet
     exact ⟨x,p8,hx,z8,R8,G08⟩
    | true =>
     go_wp2_with fail
     refine (off_any _ _ _ _ _ _ _ R8 (by omega) (by omega) (by omega)).mono ?_;rintro e w9 ⟨y,rfl,_,_,R9,G9⟩;have p9:OpAt w9 p x:=p8.gr G9 hpg;have z9:OpAt w9 z ⟨0,0,0,0,⟨#[]⟩,0,0⟩:=z8.gr G9 hzg;have G09:=gr_trans G08 G9;obtain ⟨c0,c1,c2,c3,c4,c5,c6⟩:=OpAt.cells p9;obtain ⟨f0,f1,f2,f3,f4,f5,f6⟩:=OpAt.frees p9;have pl:=p9.lt;go_wp2_with fail
     go_meet
     exact ⟨⟨x.k,y,x.id,x.pa,x.s,x.st,x.en⟩,op_set1 p9 y,hx,z9.far (p:=⟨p,1,none⟩) hpz _,rdr_new R9 hpg hnp 1 _,gr_new G09 ⟨p,1,none⟩ hp0 _⟩
   case rest =>
    obtain ⟨x2,p9,hx2,z9,R9,G9⟩:=hcut;clear p8 z8 R8 G08 hx x;obtain ⟨c0,c1,c2,c3,c4,c5,c6⟩:=OpAt.cells p9;have pl:=p9.lt;obtain ⟨b0,b1,b2',b3,b4,b5,b6⟩:=OpAt.cells z9;obtain ⟨f0,f1,f2,f3,f4,f5,f6⟩:=OpAt.frees z9;have zl:=z9.lt;have zz:=op_set7 z9 x2;have RR:Rdr (((((((wc.setCell ⟨z,0,none⟩ (.int .i64 x2.k)).setCell ⟨z,1,none⟩ (.int .i64 x2.t)).setCell ⟨z,2,none⟩ (.int .i64 x2.id)).setCell ⟨z,3,none⟩ (.int .i64 x2.pa)).setCell ⟨z,4,none⟩ (.string x2.s)).setCell ⟨z,5,none⟩ (.int .i64 x2.st)).setCell ⟨z,6,none⟩ (.int .i64 x2.en)) g av len cap:=rdr_new (rdr_new (rdr_new (rdr_new (rdr_new (rdr_new (rdr_new R9 hzg hnz 0 _) hzg hnz 1 _) hzg hnz 2 _) hzg hnz 3 _) hzg hnz 4 _) hzg hnz 5 _) hzg hnz 6 _;have GG:Gr g w (((((((wc.setCell ⟨z,0,none⟩ (.int .i64 x2.k)).setCell ⟨z,1,none⟩ (.int .i64 x2.t)).setCell ⟨z,2,none⟩ (.int .i64 x2.id)).setCell ⟨z,3,none⟩ (.int .i64 x2.pa)).setCell ⟨z,4,none⟩ (.string x2.s)).setCell ⟨z,5,none⟩ (.int .i64 x2.st)).setCell ⟨z,6,none⟩ (.int .i64 x2.en)):=gr_new (gr_new (gr_new (gr_new (gr_new (gr_new (gr_new G9 ⟨z,0,none⟩ hzw _) ⟨z,1,none⟩ hzw _) ⟨z,2,none⟩ hzw _) ⟨z,3,none⟩ hzw _) ⟨z,4,none⟩ hzw _) ⟨z,5,none⟩ hzw _) ⟨z,6,none⟩ hzw _;go_wp2_with fail
    obtain ⟨Wz,hWz⟩:∃ W,(((((((wc.setCell ⟨z,0,none⟩ (.int .i64 x2.k)).setCell ⟨z,1,none⟩ (.int .i64 x2.t)).setCell ⟨z,2,none⟩ (.int .i64 x2.id)).setCell ⟨z,3,none⟩ (.int .i64 x2.pa)).setCell ⟨z,4,none⟩ (.string x2.s)).setCell ⟨z,5,none⟩ (.int .i64 x2.st)).setCell ⟨z,6,none⟩ (.int .i64 x2.en))=W:=⟨_,rfl⟩
    rw [hWz] at zz RR GG ⊢;clear hWz b0 b1 b2' b3 b4 b5 b6 f0 f1 f2 f3 f4 f5 f6 c0 c1 c2 c3 c4 c5 c6;obtain ⟨v0,v1,v2,v3,v4,v5,v6⟩:=OpAt.cells zz;refine bodyPost_ret (v:=.agg #[.int .i64 x2.k,.int .i64 x2.t,.int .i64 x2.id,.int .i64 x2.pa,.string x2.s,.int .i64 x2.st,.int .i64 x2.en]) (by simp [results,Tryz.results84,go_sem,v0,v1,v2,v3,v4,v5,v6]) rfl ?_;exact ⟨⟨x2,rfl,hx2⟩,RR,GG⟩
end Go.Proofs.YtgcinolbkllkkaaGreat
