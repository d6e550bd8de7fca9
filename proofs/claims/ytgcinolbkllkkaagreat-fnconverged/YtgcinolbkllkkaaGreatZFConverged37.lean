/-
  Texts of one proof, joined: RdrSpan.
-/
import Derived.Test.YtgcinolbkllkkaaGreatZFConverged36
set_option linter.unusedSimpArgs false
set_option linter.unusedVariables false
namespace Go.Proofs.YtgcinolbkllkkaaGreat
open Go.ChangeShapes Go.WideShapes Go.ChangeAt Go.RowKit
def nm3 (o:Nat):ByteArray:=if o=0 then ⟨#[119,101,98]⟩ else if o=1 then ⟨#[100,98]⟩ else ⟨#[97,117,116,104]⟩
theorem nm3_size (o:Nat):(nm3 o).size≤4:=by
 unfold nm3
 split
 ·decide
 ·split <;> decide
def zero5f (o:Nat):Value:=if o=2 then .string ⟨#[]⟩ else .int .i64 0
theorem row3 (w:World)(t:TypeId):RowAt (w.alloc (.cells #[.string ⟨#[119,101,98]⟩,.string ⟨#[100,98]⟩,.string ⟨#[97,117,116,104]⟩] t)) w.heap.size 3 (fun o=>.string (nm3 o)) :=
 (RowAt.new w #[.string ⟨#[119,101,98]⟩,.string ⟨#[100,98]⟩,.string ⟨#[97,117,116,104]⟩] t).same fun o ho=>by
  match o,ho with
  | 0,_=>rfl
  | 1,_=>rfl
  | 2,_=>rfl
theorem row5z (w:World)(t:TypeId):RowAt (w.alloc (.cells #[.int .i64 0,.int .i64 0,.string ⟨#[]⟩,.int .i64 0,.int .i64 0] t)) w.heap.size 5 zero5f :=
 (RowAt.new w #[.int .i64 0,.int .i64 0,.string ⟨#[]⟩,.int .i64 0,.int .i64 0] t).same fun o ho=>by
  match o,ho with
  | 0,_=>rfl
  | 1,_=>rfl
  | 2,_=>rfl
  | 3,_=>rfl
  | 4,_=>rfl
def sp5 (a b:Int)(s:ByteArray)(c d:Int)(o:Nat):Value:=if o=0 then .int .i64 a else if o=1 then .int .i64 b else if o=2 then .string s else if o=3 then .int .i64 c else .int .i64 d
theorem sp5_same (f:Nat→Value)(a b:Int)(s:ByteArray)(c d:Int):∀ o,o<5→(if o=4 then Value.int .i64 d else if o=3 then .int .i64 c else if o=2 then .string s else if o=1 then .int .i64 b else if o=0 then .int .i64 a else f o)=sp5 a b s c d o:=fun o ho=>by
 match o,ho with
 | 0,_=>rfl
 | 1,_=>rfl
 | 2,_=>rfl
 | 3,_=>rfl
 | 4,_=>rfl
theorem sp5_4 (a b:Int)(s:ByteArray)(c d d':Int):∀ o,o<5→(if o=4 then Value.int .i64 d' else sp5 a b s c d o)=sp5 a b s c d' o:=fun o ho=>by
 match o,ho with
 | 0,_=>rfl
 | 1,_=>rfl
 | 2,_=>rfl
 | 3,_=>rfl
 | 4,_=>rfl
theorem sp5_1 (a b:Int)(s:ByteArray)(c d b':Int):∀ o,o<5→(if o=1 then Value.int .i64 b' else sp5 a b s c d o)=sp5 a b' s c d o:=fun o ho=>by
 match o,ho with
 | 0,_=>rfl
 | 1,_=>rfl
 | 2,_=>rfl
 | 3,_=>rfl
 | 4,_=>rfl
theorem have_state {P:Program}{md:Region.Mode}{ops:Array Oper}{Q:Exit→Act→World→Prop}{S:World→Prop}{fuel:Nat}{listed:Array Bool}{a:Act}{w:World}(f:Nat)(L:Array Bool)(I:Act→World→Prop)
  (h1:∀ a w,I a w→S w→wpAnyH P md ops Q S f L a w) (h2:Hid (∀ a w,I a w→S w→wpAnyH P md ops Q S f L a w)→wpAnyH P md ops Q S fuel listed a w):wpAnyH P md ops Q S fuel listed a w:=h2 h1
set_option maxHeartbeats 160000000 in
set_option maxRecDepth 100000 in
theorem span_any (g:Nat)(av:Option Addr)(len cap:Nat)(w:World)(h:Rdr w g av len cap) :
  Calls Tryz.prog 113 #[.pointer (some ⟨g,0,none⟩)] w fun e w'=>∃ (a b:Int) (s:ByteArray) (c d:Int),e=.returned (.agg #[.int .i64 a,.int .i64 b,.string s,.int .i64 c,.int .i64 d])∧s.size≤4∧Rdr w' g av len cap∧Gr g w w':=by
 have hg:=h.lt;have hne0:¬w.heap.size=g:=by omega
 go_enter Tryz.func113,Tryz.ntmps113
 go_wp2_with fail
 obtain ⟨W0,hW0⟩:∃ W,W=(w.alloc (.cells #[.int .i64 0,.int .i64 0,.string ⟨#[]⟩,.int .i64 0,.int .i64 0] 70)):=⟨_,rfl⟩
 rw [←hW0];have hR0:Rdr W0 g av len cap:=by rw [hW0];exact h.below ((Below.refl _ _).alloc (Nat.le_refl _) _)
 have hG0:Gr g w W0:=by rw [hW0];exact gr_alloc (gr_refl _ _) _
 have hz0:W0.heap.size=w.heap.size+1:=by rw [hW0];simp
 have r0:RowAt W0 w.heap.size 5 zero5f:=by rw [hW0];exact row5z w _
 clear hW0;refine wp_region_held_drew (S:=fun w'=>Rdr w' g av len cap∧Gr g W0 w') (by kernel_rfl) ⟨hR0.below (Below.refl _ _).drew,gr_drew (gr_refl _ _)⟩ (fun hS2=>?_);refine have_state 1 #[true,true,true,true,true,true,true,true,true,true,true,true,true,true,false] (fun a w1=>∃ (x1:Int) (x2:Int) (x3:Int) (x4:Int) (q:Nat) (s:ByteArray) (p:Nat),a=(⟨#[.pointer (some ⟨g,0,none⟩),undef,.pointer (some ⟨w.heap.size,0,none⟩),.pointer (some ⟨p,0,none⟩),.pointer (some ⟨g,0,none⟩),.int .i64 x1,.int .i64 (1+x1),.pointer (some ⟨g,0,none⟩),.int .i64 x2,.slice (some ⟨q,0,none⟩) 3 3,.pointer (some ⟨g,0,none⟩),.int .i64 x3,.pointer (some ⟨q,x3.toNat,none⟩),.string s,.pointer (some ⟨g,0,none⟩),.int .i64 x4,.agg #[.int .i64 (1+x1),.int .i64 x2,.string s,.int .i64 x4,.int .i64 0],undef,undef,undef,undef,undef,undef,undef,undef,undef,undef,undef,undef,undef,undef,undef,undef,undef,undef,undef,undef,undef,undef,undef,undef,undef,undef,undef],[]⟩:Act)∧0≤x1∧x1<5∧0≤x2∧x2<6∧0≤x3∧x3<3∧0≤x4∧x4<20∧W0.heap.size≤q∧q<w1.heap.size∧RowAt w1 q 3 (fun o=>.string (nm3 o))∧s.size≤4∧W0.heap.size≤p∧p<w1.heap.size∧RowAt w1 p 5 zero5f∧¬q=p) ?_ (fun st_4111=>?_)
 ·rintro a w1 ⟨x1,x2,x3,x4,q,s,p,rfl,y1,z1,y2,z2,y3,z3,y4,z4,q1,q2,qr,ss,p1,p2,pr,qp⟩ hS
  have hsz:=hS.2.size;refine sZ 14 fun K hK=>?_
  ·have k0:=pr.cell (o:=0) (by omega)
   have k1:=pr.cell (o:=1) (by omega);have k2:=pr.cell (o:=2) (by omega);have k3:=pr.cell (o:=3) (by omega);have k4:=pr.cell (o:=4) (by omega);have f0:=pr.free (o:=0) (by omega);have f1:=pr.free (o:=1) (by omega);have f2:=pr.free (o:=2) (by omega);have f3:=pr.free (o:=3) (by omega);have f4:=pr.free (o:=4) (by omega);simp [zero5f] at k0 k1 k2 k3 k4
   go_simp
   go_wp2_with fail
   refine hK.out _ _ ⟨?_,?_⟩ (fun hS2=>?_)
   ·repeat (first | (with_reducible exact hS.1) | ((with_reducible refine Rdr.far ?_ ?_ ?_ _);rotate_left;(focus (simp <;> omega));(focus (exact h.old (by simp <;> omega)))))
   ·repeat (first | (with_reducible exact hS.2) | ((with_reducible refine gr_new ?_ _ ?_ _);rotate_left;(focus (simp <;> omega))))
   clear hK;(try simp only[pZ,zZ]);refine dZ ?_;have pr2:RowAt (((((w1.setCell ⟨p,0,none⟩ (.int .i64 (1+x1))).setCell ⟨p,1,none⟩ (.int .i64 x2)).setCell ⟨p,2,none⟩ (.string s)).setCell ⟨p,3,none⟩ (.int .i64 x4)).setCell ⟨p,4,none⟩ (.int .i64 0)) p 5 (sp5 (1+x1) x2 s x4 0):=(((((pr.set (o:=0) (by omega) _).set (o:=1) (by omega) _).set (o:=2) (by omega) _).set (o:=3) (by omega) _).set (o:=4) (by omega) _).same (sp5_same _ _ _ _ _ _);generalize ((((w1.setCell ⟨p,0,none⟩ (.int .i64 (1+x1))).setCell ⟨p,1,none⟩ (.int .i64 x2)).setCell ⟨p,2,none⟩ (.string s)).setCell ⟨p,3,none⟩ (.int .i64 x4)).setCell ⟨p,4,none⟩ (.int .i64 0)=w2 at hS2 pr2 ⊢;clear k0 k1 k2 k3 k4 f0 f1 f2 f3 f4 pr qr hS;have hs2:=hS2.2.size;have pl2:=pr2.lt;have k3:=pr2.cell (o:=3) (by omega);simp [sp5] at k3
   go_wp2_with fail
   refine wp_region_held_drew (S:=fun w'=>Rdr w' g av len cap∧Gr g W0 w'∧w'.cell? ⟨p,3,none⟩=some (.int .i64 x4)) (by kernel_rfl) ?_ (fun zH=>?_)
   ·exact ⟨hS2.1.below (Below.refl _ _).drew,gr_drew hS2.2,k3⟩
   refine uZ 0 ?_;simp only[pZ,zZ];refine tZ (i:=1) (v:=.int .i64 x4) rfl (.inl ⟨by rfl,?_⟩) zH ?_
   ·(intro w hSw;(try dsimp only at hSw);go_simp;(try rw [hSw.2.2]))
   (try simp only[pZ,zZ]);refine uZ 2 ?_;simp only[pZ,zZ];refine sZ 3 fun K hK=>?_;go_simp
   (refine (below_any _ _ _ _ _ _ zH.1 (by omega) (by omega)).mono ?_;rintro e w3 ⟨x5,rfl,y5,z5,hR3,hG3⟩;go_wp2_with fail)
   refine hK.out _ _ ?_ (fun zH2=>?_)
   ·exact ⟨hR3,gr_trans zH.2.1 hG3,(gr_cell hG3 (by show p<w2.heap.size;omega) (by omega) 3).trans zH.2.2⟩
   clear hK K zH;have zH:=zH2;clear zH2;(try simp only[pZ,zZ]);refine tZ (i:=4) (v:=.int .i64 (x4+x5)) rfl (.inl ⟨by rfl,?_⟩) zH ?_
   ·(intro w hSw;(try dsimp only at hSw);go_simp;(try exact IntWalk.i64_in _ (by omega)))
   (try simp only[pZ,zZ]);refine uZ 5 ?_;simp only[pZ,zZ];have pr3:=pr2.drew.gr hG3 (by omega);have k4:=pr3.cell (o:=4) (by omega);have f4:=pr3.free (o:=4) (by omega);have pl3:=pr3.lt;refine sZ 6 fun K hK=>?_;go_simp
   skip
   refine hK.out _ _ ?_ (fun zH2=>?_)
   ·exact ⟨zH.1.far (by simp <;> omega) (h.old (by simp <;> omega)) _,gr_new zH.2.1 _ (by simp <;> omega) _,(World.cell?_setCell_other _ _ _ _ (by simp <;> omega)).trans zH.2.2⟩
   clear hK K zH;have zH:=zH2;clear zH2;(try simp only[pZ,zZ]);refine dZ ?_;have pr4:RowAt (w3.setCell ⟨p,4,none⟩ (.int .i64 (x4+x5))) p 5 (sp5 (1+x1) x2 s x4 (x4+x5)):=(pr3.set (o:=4) (by omega) _).same (sp5_4 _ _ _ _ _ _);generalize w3.setCell ⟨p,4,none⟩ (.int .i64 (x4+x5))=w4 at zH pr4 ⊢;clear k4 f4 pr3 pl3 k3 pl2 pr2 hR3 hG3 hS2;obtain ⟨hR4,hG4,_⟩:=zH;have pl4:=pr4.lt;have hs4:=hG4.size;have k0:=pr4.cell (o:=0) (by omega);have k1:=pr4.cell (o:=1) (by omega);have k2:=pr4.cell (o:=2) (by omega);have k3:=pr4.cell (o:=3) (by omega);have k4:=pr4.cell (o:=4) (by omega);have f0:=pr4.free (o:=0) (by omega);have f1:=pr4.free (o:=1) (by omega);have f2:=pr4.free (o:=2) (by omega);have f3:=pr4.free (o:=3) (by omega);have f4:=pr4.free (o:=4) (by omega);simp [sp5] at k0 k1 k2 k3 k4
   by_cases hq:x2=1+x1
   ·have hqb:(x2==1+x1)=true:=by simp [hq]
    clear hq;go_wp2_with fail
    have pr5:RowAt (w4.setCell ⟨p,1,none⟩ (.int .i64 0)) p 5 (sp5 (1+x1) 0 s x4 (x4+x5)):=(pr4.set (o:=1) (by omega) _).same (sp5_1 _ _ _ _ _ _);have hR5:Rdr (w4.setCell ⟨p,1,none⟩ (.int .i64 0)) g av len cap:=hR4.far (by simp <;> omega) (h.old (by simp <;> omega)) _;have hG5:Gr g W0 (w4.setCell ⟨p,1,none⟩ (.int .i64 0)):=gr_new hG4 _ (by simp <;> omega) _;generalize w4.setCell ⟨p,1,none⟩ (.int .i64 0)=w5 at hR5 hG5 pr5 ⊢;clear k0 k1 k2 k3 k4 f0 f1 f2 f3 f4;have hs5:=hG5.size;have pl5:=pr5.lt;refine (below_any _ _ _ _ _ _ hR5 (by omega) (by omega)).mono ?_;rintro e w6 ⟨t,rfl,t0,t1,hR6,hG6⟩;have pr6:=pr5.gr hG6 (by omega);have hG6a:=gr_trans hG5 hG6;have hs6:=hG6a.size;have pl6:=pr6.lt;by_cases a28:t=28
    ·have b28:(t==28)=true:=by simp [a28]
     clear a28;go_wp2_with fail
     refine (off_any _ _ _ _ _ _ _ hR6 (by omega) (by omega) (by omega)).mono ?_;rintro e w7 ⟨u,rfl,u0,u1,hR7,hG7⟩;have pr7:=pr6.gr hG7 (by omega);have hG7a:=gr_trans hG6a hG7;have hs7:=hG7a.size;have pl7:=pr7.lt;have m0:=pr7.cell (o:=0) (by omega);have m1:=pr7.cell (o:=1) (by omega);have m2:=pr7.cell (o:=2) (by omega);have m3:=pr7.cell (o:=3) (by omega);have m4:=pr7.cell (o:=4) (by omega);have n0:=pr7.free (o:=0) (by omega);have n1:=pr7.free (o:=1) (by omega);have n2:=pr7.free (o:=2) (by omega);have n3:=pr7.free (o:=3) (by omega);have n4:=pr7.free (o:=4) (by omega);simp [sp5] at m0 m1 m2 m3 m4
     have rr:=r0.gr hG7a (by omega);have rl:=rr.lt;have i0:=rr.cell (o:=0) (by omega);have i1:=rr.cell (o:=1) (by omega);have i2:=rr.cell (o:=2) (by omega);have i3:=rr.cell (o:=3) (by omega);have i4:=rr.cell (o:=4) (by omega);have j0:=rr.free (o:=0) (by omega);have j1:=rr.free (o:=1) (by omega);have j2:=rr.free (o:=2) (by omega);have j3:=rr.free (o:=3) (by omega);have j4:=rr.free (o:=4) (by omega);simp [zero5f] at i0 i1 i2 i3 i4
     have HG:Gr g w w7:=gr_trans hG0 hG7a;have hne1:¬w.heap.size=p:=by omega
     have hne2:¬p=w.heap.size:=by omega
     go_wp2_with fail
     refine bodyPost_ret (v:=.agg #[.int .i64 u,.int .i64 0,.string s,.int .i64 x4,.int .i64 (x4+x5)]) (by simp [results,Tryz.results113,go_sem,cell_set_same, *]) rfl ⟨_,_,_,_,_,rfl,ss,?_,?_⟩
     ·repeat (first | (with_reducible exact hR7) | ((with_reducible refine Rdr.far ?_ ?_ ?_ _);rotate_left;(focus (simp <;> omega));(focus (exact h.old (by simp <;> omega)))))
     ·repeat (first | (with_reducible exact HG) | ((with_reducible refine gr_new ?_ _ ?_ _);rotate_left;(focus (simp <;> omega))))
    ·have b28:(t==28)=false:=by simp [a28]
     by_cases a29:t=29
     ·have b29:(t==29)=true:=by simp [a29]
      clear a28 a29;have m3:=pr6.cell (o:=3) (by omega);simp [sp5] at m3
      go_wp2_with fail
      clear m3;refine (off_any _ _ _ _ _ _ _ hR6 (by omega) (by omega) (by omega)).mono ?_;rintro e w7 ⟨u,rfl,u0,u1,hR7,hG7⟩;have pr7:=pr6.gr hG7 (by omega);have hG7a:=gr_trans hG6a hG7;have hs7:=hG7a.size;have pl7:=pr7.lt;have m0:=pr7.cell (o:=0) (by omega);have m1:=pr7.cell (o:=1) (by omega);have m2:=pr7.cell (o:=2) (by omega);have m3:=pr7.cell (o:=3) (by omega);have m4:=pr7.cell (o:=4) (by omega);have n0:=pr7.free (o:=0) (by omega);have n1:=pr7.free (o:=1) (by omega);have n2:=pr7.free (o:=2) (by omega);have n3:=pr7.free (o:=3) (by omega);have n4:=pr7.free (o:=4) (by omega);simp [sp5] at m0 m1 m2 m3 m4
      have rr:=r0.gr hG7a (by omega);have rl:=rr.lt;have i0:=rr.cell (o:=0) (by omega);have i1:=rr.cell (o:=1) (by omega);have i2:=rr.cell (o:=2) (by omega);have i3:=rr.cell (o:=3) (by omega);have i4:=rr.cell (o:=4) (by omega);have j0:=rr.free (o:=0) (by omega);have j1:=rr.free (o:=1) (by omega);have j2:=rr.free (o:=2) (by omega);have j3:=rr.free (o:=3) (by omega);have j4:=rr.free (o:=4) (by omega);simp [zero5f] at i0 i1 i2 i3 i4
      have HG:Gr g w w7:=gr_trans hG0 hG7a;have hne1:¬w.heap.size=p:=by omega
      have hne2:¬p=w.heap.size:=by omega
      go_wp2_with fail
      refine bodyPost_ret (v:=.agg #[.int .i64 (1+x1),.int .i64 0,.string s,.int .i64 x4,.int .i64 u]) (by simp [results,Tryz.results113,go_sem,cell_set_same, *]) rfl ⟨_,_,_,_,_,rfl,ss,?_,?_⟩
      ·repeat (first | (with_reducible exact hR7) | ((with_reducible refine Rdr.far ?_ ?_ ?_ _);rotate_left;(focus (simp <;> omega));(focus (exact h.old (by simp <;> omega)))))
      ·repeat (first | (with_reducible exact HG) | ((with_reducible refine gr_new ?_ _ ?_ _);rotate_left;(focus (simp <;> omega))))
     ·have b29:(t==29)=false:=by simp [a29]
      clear a28 a29;have m0:=pr6.cell (o:=0) (by omega);have m1:=pr6.cell (o:=1) (by omega);have m2:=pr6.cell (o:=2) (by omega);have m3:=pr6.cell (o:=3) (by omega);have m4:=pr6.cell (o:=4) (by omega);have n0:=pr6.free (o:=0) (by omega);have n1:=pr6.free (o:=1) (by omega);have n2:=pr6.free (o:=2) (by omega);have n3:=pr6.free (o:=3) (by omega);have n4:=pr6.free (o:=4) (by omega);simp [sp5] at m0 m1 m2 m3 m4
      have rr:=r0.gr hG6a (by omega);have rl:=rr.lt;have i0:=rr.cell (o:=0) (by omega);have i1:=rr.cell (o:=1) (by omega);have i2:=rr.cell (o:=2) (by omega);have i3:=rr.cell (o:=3) (by omega);have i4:=rr.cell (o:=4) (by omega);have j0:=rr.free (o:=0) (by omega);have j1:=rr.free (o:=1) (by omega);have j2:=rr.free (o:=2) (by omega);have j3:=rr.free (o:=3) (by omega);have j4:=rr.free (o:=4) (by omega);simp [zero5f] at i0 i1 i2 i3 i4
      have HG:Gr g w w6:=gr_trans hG0 hG6a;have hne1:¬w.heap.size=p:=by omega
      have hne2:¬p=w.heap.size:=by omega
      go_wp2_with fail
      refine bodyPost_ret (v:=.agg #[.int .i64 (1+x1),.int .i64 0,.string s,.int .i64 x4,.int .i64 (x4+x5)]) (by simp [results,Tryz.results113,go_sem,cell_set_same, *]) rfl ⟨_,_,_,_,_,rfl,ss,?_,?_⟩
      ·repeat (first | (with_reducible exact hR6) | ((with_reducible refine Rdr.far ?_ ?_ ?_ _);rotate_left;(focus (simp <;> omega));(focus (exact h.old (by simp <;> omega)))))
      ·repeat (first | (with_reducible exact HG) | ((with_reducible refine gr_new ?_ _ ?_ _);rotate_left;(focus (simp <;> omega))))
   ·have hqb:(x2==1+x1)=false:=by simp [hq]
    clear hq;go_wp2_with fail
    have pr5:=pr4;have hR5:=hR4;have hG5:=hG4;clear k0 k1 k2 k3 k4 f0 f1 f2 f3 f4 pr4;have hs5:=hG5.size;have pl5:=pr5.lt;refine (below_any _ _ _ _ _ _ hR5 (by omega) (by omega)).mono ?_;rintro e w6 ⟨t,rfl,t0,t1,hR6,hG6⟩;have pr6:=pr5.gr hG6 (by omega);have hG6a:=gr_trans hG5 hG6;have hs6:=hG6a.size;have pl6:=pr6.lt;by_cases a28:t=28
    ·have b28:(t==28)=true:=by simp [a28]
     clear a28;go_wp2_with fail
     refine (off_any _ _ _ _ _ _ _ hR6 (by omega) (by omega) (by omega)).mono ?_;rintro e w7 ⟨u,rfl,u0,u1,hR7,hG7⟩;have pr7:=pr6.gr hG7 (by omega);have hG7a:=gr_trans hG6a hG7;have hs7:=hG7a.size;have pl7:=pr7.lt;have m0:=pr7.cell (o:=0) (by omega);have m1:=pr7.cell (o:=1) (by omega);have m2:=pr7.cell (o:=2) (by omega);have m3:=pr7.cell (o:=3) (by omega);have m4:=pr7.cell (o:=4) (by omega);have n0:=pr7.free (o:=0) (by omega);have n1:=pr7.free (o:=1) (by omega);have n2:=pr7.free (o:=2) (by omega);have n3:=pr7.free (o:=3) (by omega);have n4:=pr7.free (o:=4) (by omega);simp [sp5] at m0 m1 m2 m3 m4
     have rr:=r0.gr hG7a (by omega);have rl:=rr.lt;have i0:=rr.cell (o:=0) (by omega);have i1:=rr.cell (o:=1) (by omega);have i2:=rr.cell (o:=2) (by omega);have i3:=rr.cell (o:=3) (by omega);have i4:=rr.cell (o:=4) (by omega);have j0:=rr.free (o:=0) (by omega);have j1:=rr.free (o:=1) (by omega);have j2:=rr.free (o:=2) (by omega);have j3:=rr.free (o:=3) (by omega);have j4:=rr.free (o:=4) (by omega);simp [zero5f] at i0 i1 i2 i3 i4
     have HG:Gr g w w7:=gr_trans hG0 hG7a;have hne1:¬w.heap.size=p:=by omega
     have hne2:¬p=w.heap.size:=by omega
     go_wp2_with fail
     refine bodyPost_ret (v:=.agg #[.int .i64 u,.int .i64 x2,.string s,.int .i64 x4,.int .i64 (x4+x5)]) (by simp [results,Tryz.results113,go_sem,cell_set_same, *]) rfl ⟨_,_,_,_,_,rfl,ss,?_,?_⟩
     ·repeat (first | (with_reducible exact hR7) | ((with_reducible refine Rdr.far ?_ ?_ ?_ _);rotate_left;(focus (simp <;> omega));(focus (exact h.old (by simp <;> omega)))))
     ·repeat (first | (with_reducible exact HG) | ((with_reducible refine gr_new ?_ _ ?_ _);rotate_left;(focus (simp <;> omega))))
    ·have b28:(t==28)=false:=by simp [a28]
     by_cases a29:t=29
     ·have b29:(t==29)=true:=by simp [a29]
      clear a28 a29;have m3:=pr6.cell (o:=3) (by omega);simp [sp5] at m3
      go_wp2_with fail
      clear m3;refine (off_any _ _ _ _ _ _ _ hR6 (by omega) (by omega) (by omega)).mono ?_;rintro e w7 ⟨u,rfl,u0,u1,hR7,hG7⟩;have pr7:=pr6.gr hG7 (by omega);have hG7a:=gr_trans hG6a hG7;have hs7:=hG7a.size;have pl7:=pr7.lt;have m0:=pr7.cell (o:=0) (by omega);have m1:=pr7.cell (o:=1) (by omega);have m2:=pr7.cell (o:=2) (by omega);have m3:=pr7.cell (o:=3) (by omega);have m4:=pr7.cell (o:=4) (by omega);have n0:=pr7.free (o:=0) (by omega);have n1:=pr7.free (o:=1) (by omega);have n2:=pr7.free (o:=2) (by omega);have n3:=pr7.free (o:=3) (by omega);have n4:=pr7.free (o:=4) (by omega);simp [sp5] at m0 m1 m2 m3 m4
      have rr:=r0.gr hG7a (by omega);have rl:=rr.lt;have i0:=rr.cell (o:=0) (by omega);have i1:=rr.cell (o:=1) (by omega);have i2:=rr.cell (o:=2) (by omega);have i3:=rr.cell (o:=3) (by omega);have i4:=rr.cell (o:=4) (by omega);have j0:=rr.free (o:=0) (by omega);have j1:=rr.free (o:=1) (by omega);have j2:=rr.free (o:=2) (by omega);have j3:=rr.free (o:=3) (by omega);have j4:=rr.free (o:=4) (by omega);simp [zero5f] at i0 i1 i2 i3 i4
      have HG:Gr g w w7:=gr_trans hG0 hG7a;have hne1:¬w.heap.size=p:=by omega
      have hne2:¬p=w.heap.size:=by omega
      go_wp2_with fail
      refine bodyPost_ret (v:=.agg #[.int .i64 (1+x1),.int .i64 x2,.string s,.int .i64 x4,.int .i64 u]) (by simp [results,Tryz.results113,go_sem,cell_set_same, *]) rfl ⟨_,_,_,_,_,rfl,ss,?_,?_⟩
      ·repeat (first | (with_reducible exact hR7) | ((with_reducible refine Rdr.far ?_ ?_ ?_ _);rotate_left;(focus (simp <;> omega));(focus (exact h.old (by simp <;> omega)))))
      ·repeat (first | (with_reducible exact HG) | ((with_reducible refine gr_new ?_ _ ?_ _);rotate_left;(focus (simp <;> omega))))
     ·have b29:(t==29)=false:=by simp [a29]
      clear a28 a29;have m0:=pr6.cell (o:=0) (by omega);have m1:=pr6.cell (o:=1) (by omega);have m2:=pr6.cell (o:=2) (by omega);have m3:=pr6.cell (o:=3) (by omega);have m4:=pr6.cell (o:=4) (by omega);have n0:=pr6.free (o:=0) (by omega);have n1:=pr6.free (o:=1) (by omega);have n2:=pr6.free (o:=2) (by omega);have n3:=pr6.free (o:=3) (by omega);have n4:=pr6.free (o:=4) (by omega);simp [sp5] at m0 m1 m2 m3 m4
      have rr:=r0.gr hG6a (by omega);have rl:=rr.lt;have i0:=rr.cell (o:=0) (by omega);have i1:=rr.cell (o:=1) (by omega);have i2:=rr.cell (o:=2) (by omega);have i3:=rr.cell (o:=3) (by omega);have i4:=rr.cell (o:=4) (by omega);have j0:=rr.free (o:=0) (by omega);have j1:=rr.free (o:=1) (by omega);have j2:=rr.free (o:=2) (by omega);have j3:=rr.free (o:=3) (by omega);have j4:=rr.free (o:=4) (by omega);simp [zero5f] at i0 i1 i2 i3 i4
      have HG:Gr g w w6:=gr_trans hG0 hG6a;have hne1:¬w.heap.size=p:=by omega
      have hne2:¬p=w.heap.size:=by omega
      go_wp2_with fail
      refine bodyPost_ret (v:=.agg #[.int .i64 (1+x1),.int .i64 x2,.string s,.int .i64 x4,.int .i64 (x4+x5)]) (by simp [results,Tryz.results113,go_sem,cell_set_same, *]) rfl ⟨_,_,_,_,_,rfl,ss,?_,?_⟩
      ·repeat (first | (with_reducible exact hR6) | ((with_reducible refine Rdr.far ?_ ?_ ?_ _);rotate_left;(focus (simp <;> omega));(focus (exact h.old (by simp <;> omega)))))
      ·repeat (first | (with_reducible exact HG) | ((with_reducible refine gr_new ?_ _ ?_ _);rotate_left;(focus (simp <;> omega))))
 refine have_state 2 #[true,true,true,true,true,true,true,true,true,true,true,true,true,false,false] (fun a w1=>∃ (x1:Int) (x2:Int) (x3:Int) (x4:Int) (q:Nat) (s:ByteArray),a=(⟨#[.pointer (some ⟨g,0,none⟩),undef,.pointer (some ⟨w.heap.size,0,none⟩),undef,.pointer (some ⟨g,0,none⟩),.int .i64 x1,.int .i64 (1+x1),.pointer (some ⟨g,0,none⟩),.int .i64 x2,.slice (some ⟨q,0,none⟩) 3 3,.pointer (some ⟨g,0,none⟩),.int .i64 x3,.pointer (some ⟨q,x3.toNat,none⟩),.string s,.pointer (some ⟨g,0,none⟩),.int .i64 x4,.agg #[.int .i64 (1+x1),.int .i64 x2,.string s,.int .i64 x4,.int .i64 0],undef,undef,undef,undef,undef,undef,undef,undef,undef,undef,undef,undef,undef,undef,undef,undef,undef,undef,undef,undef,undef,undef,undef,undef,undef,undef,undef],[]⟩:Act)∧0≤x1∧x1<5∧0≤x2∧x2<6∧0≤x3∧x3<3∧0≤x4∧x4<20∧W0.heap.size≤q∧q<w1.heap.size∧RowAt w1 q 3 (fun o=>.string (nm3 o))∧s.size≤4) ?_ (fun st_4110=>?_)
 ·rintro a w1 ⟨x1,x2,x3,x4,q,s,rfl,y1,z1,y2,z2,y3,z3,y4,z4,q1,q2,qr,ss⟩ hS
  have hsz:=hS.2.size;refine sZ 13 fun K hK=>?_
  ·go_simp
   go_wp2_with fail
   refine hK.out _ _ ⟨hS.1.below ((Below.refl _ _).alloc (Nat.le_refl _) _),gr_alloc hS.2 _⟩ (fun hS2=>?_);clear hK;(try simp only[pZ,zZ]);obtain ⟨w2,hw2⟩:∃ W,W=(w1.alloc (.cells #[.int .i64 0,.int .i64 0,.string ⟨#[]⟩,.int .i64 0,.int .i64 0] 70)):=⟨_,rfl⟩
   rw [←hw2] at hS2 ⊢;have pr:RowAt w2 w1.heap.size 5 zero5f:=by subst hw2;exact row5z w1 _
   have hz2:w2.heap.size=w1.heap.size+1:=by subst hw2;simp
   have bb2:Below w1.heap.size w1 w2:=by subst hw2;exact (Below.refl _ _).alloc (Nat.le_refl _) _
   clear hw2;obtain ⟨p,hp⟩:∃ p,p=w1.heap.size:=⟨_,rfl⟩
   rw [←hp] at pr ⊢;exact st_4111.out _ _ ⟨x1,x2,x3,x4,q,s,p,rfl,y1,z1,y2,z2,y3,z3,y4,z4,q1,(by omega),(qr.below bb2),ss,(by omega),(by omega),pr,(by omega)⟩ hS2
 refine have_state 3 #[true,true,true,true,true,true,true,true,true,false,true,true,false,true,false] (fun a w1=>∃ (x1:Int) (x2:Int) (x3:Int) (x4:Int) (q:Nat) (p:Nat),a=(⟨#[.pointer (some ⟨g,0,none⟩),undef,.pointer (some ⟨w.heap.size,0,none⟩),.pointer (some ⟨p,0,none⟩),.pointer (some ⟨g,0,none⟩),.int .i64 x1,.int .i64 (1+x1),.pointer (some ⟨g,0,none⟩),.int .i64 x2,.slice (some ⟨q,0,none⟩) 3 3,.pointer (some ⟨g,0,none⟩),.int .i64 x3,.pointer (some ⟨q,x3.toNat,none⟩),undef,.pointer (some ⟨g,0,none⟩),.int .i64 x4,undef,undef,undef,undef,undef,undef,undef,undef,undef,undef,undef,undef,undef,undef,undef,undef,undef,undef,undef,undef,undef,undef,undef,undef,undef,undef,undef,undef],[]⟩:Act)∧0≤x1∧x1<5∧0≤x2∧x2<6∧0≤x3∧x3<3∧0≤x4∧x4<20∧W0.heap.size≤q∧q<w1.heap.size∧RowAt w1 q 3 (fun o=>.string (nm3 o))∧W0.heap.size≤p∧p<w1.heap.size∧RowAt w1 p 5 zero5f∧¬q=p) ?_ (fun st_4101=>?_)
 ·rintro a w1 ⟨x1,x2,x3,x4,q,p,rfl,y1,z1,y2,z2,y3,z3,y4,z4,q1,q2,qr,p1,p2,pr,qp⟩ hS
  have hsz:=hS.2.size;refine sZ 9 fun K hK=>?_
  ·have cx:=qr.cell (o:=x3.toNat) (by omega)
   go_simp
   go_wp2_with fail
   refine hK.out _ _ hS (fun hS2=>?_);clear hK;(try simp only[pZ,zZ]);obtain ⟨s,hs⟩:∃ s,s=nm3 x3.toNat:=⟨_,rfl⟩
   have ss:s.size≤4:=by rw [hs];exact nm3_size _
   rw [←hs];clear hs;refine tZ (i:=12) (v:=.agg #[.int .i64 (1+x1),.int .i64 x2,.string s,.int .i64 x4,.int .i64 0]) rfl (.inl ⟨by rfl,?_⟩) hS2 ?_
   ·(intro w hSw;(try dsimp only at hSw);go_simp;try (with_reducible rfl))
   (try simp only[pZ,zZ]);exact st_4111.out _ _ ⟨x1,x2,x3,x4,q,s,p,rfl,y1,z1,y2,z2,y3,z3,y4,z4,q1,q2,qr,ss,p1,p2,pr,qp⟩ hS2
 refine have_state 4 #[true,true,true,true,true,true,true,true,true,false,true,true,false,false,false] (fun a w1=>∃ (x1:Int) (x2:Int) (x3:Int) (x4:Int) (q:Nat),a=(⟨#[.pointer (some ⟨g,0,none⟩),undef,.pointer (some ⟨w.heap.size,0,none⟩),undef,.pointer (some ⟨g,0,none⟩),.int .i64 x1,.int .i64 (1+x1),.pointer (some ⟨g,0,none⟩),.int .i64 x2,.slice (some ⟨q,0,none⟩) 3 3,.pointer (some ⟨g,0,none⟩),.int .i64 x3,.pointer (some ⟨q,x3.toNat,none⟩),undef,.pointer (some ⟨g,0,none⟩),.int .i64 x4,undef,undef,undef,undef,undef,undef,undef,undef,undef,undef,undef,undef,undef,undef,undef,undef,undef,undef,undef,undef,undef,undef,undef,undef,undef,undef,undef,undef],[]⟩:Act)∧0≤x1∧x1<5∧0≤x2∧x2<6∧0≤x3∧x3<3∧0≤x4∧x4<20∧W0.heap.size≤q∧q<w1.heap.size∧RowAt w1 q 3 (fun o=>.string (nm3 o))) ?_ (fun st_4100=>?_)
 ·rintro a w1 ⟨x1,x2,x3,x4,q,rfl,y1,z1,y2,z2,y3,z3,y4,z4,q1,q2,qr⟩ hS
  have hsz:=hS.2.size;refine rZ [9,13] (.cons rfl (fun K hK=>?_) (.cons rfl (fun K hK=>?_) .nil))
  ·have cx:=qr.cell (o:=x3.toNat) (by omega)
   go_simp
   go_wp2_with fail
   refine hK.out _ _ hS (fun hS2=>?_);clear hK;(try simp only[pZ,zZ]);obtain ⟨s,hs⟩:∃ s,s=nm3 x3.toNat:=⟨_,rfl⟩
   have ss:s.size≤4:=by rw [hs];exact nm3_size _
   rw [←hs];clear hs;refine tZ (i:=12) (v:=.agg #[.int .i64 (1+x1),.int .i64 x2,.string s,.int .i64 x4,.int .i64 0]) rfl (.inl ⟨by rfl,?_⟩) hS2 ?_
   ·(intro w hSw;(try dsimp only at hSw);go_simp;try (with_reducible rfl))
   (try simp only[pZ,zZ]);exact st_4110.out _ _ ⟨x1,x2,x3,x4,q,s,rfl,y1,z1,y2,z2,y3,z3,y4,z4,q1,q2,qr,ss⟩ hS2
  ·go_simp
   go_wp2_with fail
   refine hK.out _ _ ⟨hS.1.below ((Below.refl _ _).alloc (Nat.le_refl _) _),gr_alloc hS.2 _⟩ (fun hS2=>?_);clear hK;(try simp only[pZ,zZ]);obtain ⟨w2,hw2⟩:∃ W,W=(w1.alloc (.cells #[.int .i64 0,.int .i64 0,.string ⟨#[]⟩,.int .i64 0,.int .i64 0] 70)):=⟨_,rfl⟩
   rw [←hw2] at hS2 ⊢;have pr:RowAt w2 w1.heap.size 5 zero5f:=by subst hw2;exact row5z w1 _
   have hz2:w2.heap.size=w1.heap.size+1:=by subst hw2;simp
   have bb2:Below w1.heap.size w1 w2:=by subst hw2;exact (Below.refl _ _).alloc (Nat.le_refl _) _
   clear hw2;obtain ⟨p,hp⟩:∃ p,p=w1.heap.size:=⟨_,rfl⟩
   rw [←hp] at pr ⊢;exact st_4101.out _ _ ⟨x1,x2,x3,x4,q,p,rfl,y1,z1,y2,z2,y3,z3,y4,z4,q1,(by omega),(qr.below bb2),(by omega),(by omega),pr,(by omega)⟩ hS2
 refine have_state 5 #[true,true,true,true,true,false,true,true,false,false,true,true,false,true,false] (fun a w1=>∃ (x1:Int) (x2:Int) (x3:Int) (x4:Int) (p:Nat),a=(⟨#[.pointer (some ⟨g,0,none⟩),undef,.pointer (some ⟨w.heap.size,0,none⟩),.pointer (some ⟨p,0,none⟩),.pointer (some ⟨g,0,none⟩),.int .i64 x1,.int .i64 (1+x1),.pointer (some ⟨g,0,none⟩),.int .i64 x2,undef,.pointer (some ⟨g,0,none⟩),.int .i64 x3,undef,undef,.pointer (some ⟨g,0,none⟩),.int .i64 x4,undef,undef,undef,undef,undef,undef,undef,undef,undef,undef,undef,undef,undef,undef,undef,undef,undef,undef,undef,undef,undef,undef,undef,undef,undef,undef,undef,undef],[]⟩:Act)∧0≤x1∧x1<5∧0≤x2∧x2<6∧0≤x3∧x3<3∧0≤x4∧x4<20∧W0.heap.size≤p∧p<w1.heap.size∧RowAt w1 p 5 zero5f) ?_ (fun st_4001=>?_)
 ·rintro a w1 ⟨x1,x2,x3,x4,p,rfl,y1,z1,y2,z2,y3,z3,y4,z4,p1,p2,pr⟩ hS
  have hsz:=hS.2.size;refine sZ 5 fun K hK=>?_
  ·go_simp
   go_wp2_with fail
   refine hK.out _ _ ⟨hS.1.below ((Below.refl _ _).alloc (Nat.le_refl _) _),gr_alloc hS.2 _⟩ (fun hS2=>?_);clear hK;(try simp only[pZ,zZ]);obtain ⟨w2,hw2⟩:∃ W,W=(w1.alloc (.cells #[.string ⟨#[119,101,98]⟩,.string ⟨#[100,98]⟩,.string ⟨#[97,117,116,104]⟩] 9)):=⟨_,rfl⟩
   rw [←hw2] at hS2 ⊢;have qr:RowAt w2 w1.heap.size 3 (fun o=>.string (nm3 o)):=by subst hw2;exact row3 w1 _
   have hz2:w2.heap.size=w1.heap.size+1:=by subst hw2;simp
   have bb2:Below w1.heap.size w1 w2:=by subst hw2;exact (Below.refl _ _).alloc (Nat.le_refl _) _
   clear hw2;obtain ⟨q,hq⟩:∃ q,q=w1.heap.size:=⟨_,rfl⟩
   rw [←hq] at qr ⊢;refine tZ (i:=8) (v:=.pointer (some ⟨q,x3.toNat,none⟩)) rfl (.inl ⟨by rfl,?_⟩) hS2 ?_
   ·(intro w hSw;(try dsimp only at hSw);go_simp;try (with_reducible rfl))
   (try simp only[pZ,zZ]);exact st_4101.out _ _ ⟨x1,x2,x3,x4,q,p,rfl,y1,z1,y2,z2,y3,z3,y4,z4,(by omega),(by omega),qr,p1,(by omega),(pr.below bb2),(by omega)⟩ hS2
 refine have_state 6 #[true,true,true,true,true,false,true,true,false,false,true,true,false,false,false] (fun a w1=>∃ (x1:Int) (x2:Int) (x3:Int) (x4:Int),a=(⟨#[.pointer (some ⟨g,0,none⟩),undef,.pointer (some ⟨w.heap.size,0,none⟩),undef,.pointer (some ⟨g,0,none⟩),.int .i64 x1,.int .i64 (1+x1),.pointer (some ⟨g,0,none⟩),.int .i64 x2,undef,.pointer (some ⟨g,0,none⟩),.int .i64 x3,undef,undef,.pointer (some ⟨g,0,none⟩),.int .i64 x4,undef,undef,undef,undef,undef,undef,undef,undef,undef,undef,undef,undef,undef,undef,undef,undef,undef,undef,undef,undef,undef,undef,undef,undef,undef,undef,undef,undef],[]⟩:Act)∧0≤x1∧x1<5∧0≤x2∧x2<6∧0≤x3∧x3<3∧0≤x4∧x4<20) ?_ (fun st_4000=>?_)
 ·rintro a w1 ⟨x1,x2,x3,x4,rfl,y1,z1,y2,z2,y3,z3,y4,z4⟩ hS
  have hsz:=hS.2.size;refine rZ [5,13] (.cons rfl (fun K hK=>?_) (.cons rfl (fun K hK=>?_) .nil))
  ·go_simp
   go_wp2_with fail
   refine hK.out _ _ ⟨hS.1.below ((Below.refl _ _).alloc (Nat.le_refl _) _),gr_alloc hS.2 _⟩ (fun hS2=>?_);clear hK;(try simp only[pZ,zZ]);obtain ⟨w2,hw2⟩:∃ W,W=(w1.alloc (.cells #[.string ⟨#[119,101,98]⟩,.string ⟨#[100,98]⟩,.string ⟨#[97,117,116,104]⟩] 9)):=⟨_,rfl⟩
   rw [←hw2] at hS2 ⊢;have qr:RowAt w2 w1.heap.size 3 (fun o=>.string (nm3 o)):=by subst hw2;exact row3 w1 _
   have hz2:w2.heap.size=w1.heap.size+1:=by subst hw2;simp
   have bb2:Below w1.heap.size w1 w2:=by subst hw2;exact (Below.refl _ _).alloc (Nat.le_refl _) _
   clear hw2;obtain ⟨q,hq⟩:∃ q,q=w1.heap.size:=⟨_,rfl⟩
   rw [←hq] at qr ⊢;refine tZ (i:=8) (v:=.pointer (some ⟨q,x3.toNat,none⟩)) rfl (.inl ⟨by rfl,?_⟩) hS2 ?_
   ·(intro w hSw;(try dsimp only at hSw);go_simp;try (with_reducible rfl))
   (try simp only[pZ,zZ]);exact st_4100.out _ _ ⟨x1,x2,x3,x4,q,rfl,y1,z1,y2,z2,y3,z3,y4,z4,(by omega),(by omega),qr⟩ hS2
  ·go_simp
   go_wp2_with fail
   refine hK.out _ _ ⟨hS.1.below ((Below.refl _ _).alloc (Nat.le_refl _) _),gr_alloc hS.2 _⟩ (fun hS2=>?_);clear hK;(try simp only[pZ,zZ]);obtain ⟨w2,hw2⟩:∃ W,W=(w1.alloc (.cells #[.int .i64 0,.int .i64 0,.string ⟨#[]⟩,.int .i64 0,.int .i64 0] 70)):=⟨_,rfl⟩
   rw [←hw2] at hS2 ⊢;have pr:RowAt w2 w1.heap.size 5 zero5f:=by subst hw2;exact row5z w1 _
   have hz2:w2.heap.size=w1.heap.size+1:=by subst hw2;simp
   have bb2:Below w1.heap.size w1 w2:=by subst hw2;exact (Below.refl _ _).alloc (Nat.le_refl _) _
   clear hw2;obtain ⟨p,hp⟩:∃ p,p=w1.heap.size:=⟨_,rfl⟩
   rw [←hp] at pr ⊢;exact st_4001.out _ _ ⟨x1,x2,x3,x4,p,rfl,y1,z1,y2,z2,y3,z3,y4,z4,(by omega),(by omega),pr⟩ hS2
 refine have_state 3 #[true,true,true,true,true,true,true,true,true,true,true,false,false,true,false] (fun a w1=>∃ (x1:Int) (x2:Int) (x3:Int) (q:Nat) (s:ByteArray) (p:Nat),a=(⟨#[.pointer (some ⟨g,0,none⟩),undef,.pointer (some ⟨w.heap.size,0,none⟩),.pointer (some ⟨p,0,none⟩),.pointer (some ⟨g,0,none⟩),.int .i64 x1,.int .i64 (1+x1),.pointer (some ⟨g,0,none⟩),.int .i64 x2,.slice (some ⟨q,0,none⟩) 3 3,.pointer (some ⟨g,0,none⟩),.int .i64 x3,.pointer (some ⟨q,x3.toNat,none⟩),.string s,.pointer (some ⟨g,0,none⟩),undef,undef,undef,undef,undef,undef,undef,undef,undef,undef,undef,undef,undef,undef,undef,undef,undef,undef,undef,undef,undef,undef,undef,undef,undef,undef,undef,undef,undef],[]⟩:Act)∧0≤x1∧x1<5∧0≤x2∧x2<6∧0≤x3∧x3<3∧W0.heap.size≤q∧q<w1.heap.size∧RowAt w1 q 3 (fun o=>.string (nm3 o))∧s.size≤4∧W0.heap.size≤p∧p<w1.heap.size∧RowAt w1 p 5 zero5f∧¬q=p) ?_ (fun st_3111=>?_)
 ·rintro a w1 ⟨x1,x2,x3,q,s,p,rfl,y1,z1,y2,z2,y3,z3,q1,q2,qr,ss,p1,p2,pr,qp⟩ hS
  have hsz:=hS.2.size;refine sZ 11 fun K hK=>?_
  ·go_simp
   refine (below_any _ _ _ _ _ _ hS.1 (by omega) (by omega)).mono ?_;rintro e w2 ⟨x4,rfl,y4,z4,hR2,hG2⟩;go_wp2_with fail
   refine hK.out _ _ ⟨hR2,gr_trans hS.2 hG2⟩ (fun hS2=>?_);have hs2:=hG2.size;clear hK;(try simp only[pZ,zZ]);refine tZ (i:=12) (v:=.agg #[.int .i64 (1+x1),.int .i64 x2,.string s,.int .i64 x4,.int .i64 0]) rfl (.inl ⟨by rfl,?_⟩) hS2 ?_
   ·(intro w hSw;(try dsimp only at hSw);go_simp;try (with_reducible rfl))
   (try simp only[pZ,zZ]);exact st_4111.out _ _ ⟨x1,x2,x3,x4,q,s,p,rfl,y1,z1,y2,z2,y3,z3,y4,z4,q1,(by omega),(qr.gr hG2 (by omega)),ss,p1,(by omega),(pr.gr hG2 (by omega)),qp⟩ hS2
 refine have_state 4 #[true,true,true,true,true,true,true,true,true,true,true,false,false,false,false] (fun a w1=>∃ (x1:Int) (x2:Int) (x3:Int) (q:Nat) (s:ByteArray),a=(⟨#[.pointer (some ⟨g,0,none⟩),undef,.pointer (some ⟨w.heap.size,0,none⟩),undef,.pointer (some ⟨g,0,none⟩),.int .i64 x1,.int .i64 (1+x1),.pointer (some ⟨g,0,none⟩),.int .i64 x2,.slice (some ⟨q,0,none⟩) 3 3,.pointer (some ⟨g,0,none⟩),.int .i64 x3,.pointer (some ⟨q,x3.toNat,none⟩),.string s,.pointer (some ⟨g,0,none⟩),undef,undef,undef,undef,undef,undef,undef,undef,undef,undef,undef,undef,undef,undef,undef,undef,undef,undef,undef,undef,undef,undef,undef,undef,undef,undef,undef,undef,undef],[]⟩:Act)∧0≤x1∧x1<5∧0≤x2∧x2<6∧0≤x3∧x3<3∧W0.heap.size≤q∧q<w1.heap.size∧RowAt w1 q 3 (fun o=>.string (nm3 o))∧s.size≤4) ?_ (fun st_3110=>?_)
 ·rintro a w1 ⟨x1,x2,x3,q,s,rfl,y1,z1,y2,z2,y3,z3,q1,q2,qr,ss⟩ hS
  have hsz:=hS.2.size;refine rZ [11,13] (.cons rfl (fun K hK=>?_) (.cons rfl (fun K hK=>?_) .nil))
  ·go_simp
   refine (below_any _ _ _ _ _ _ hS.1 (by omega) (by omega)).mono ?_;rintro e w2 ⟨x4,rfl,y4,z4,hR2,hG2⟩;go_wp2_with fail
   refine hK.out _ _ ⟨hR2,gr_trans hS.2 hG2⟩ (fun hS2=>?_);have hs2:=hG2.size;clear hK;(try simp only[pZ,zZ]);refine tZ (i:=12) (v:=.agg #[.int .i64 (1+x1),.int .i64 x2,.string s,.int .i64 x4,.int .i64 0]) rfl (.inl ⟨by rfl,?_⟩) hS2 ?_
   ·(intro w hSw;(try dsimp only at hSw);go_simp;try (with_reducible rfl))
   (try simp only[pZ,zZ]);exact st_4110.out _ _ ⟨x1,x2,x3,x4,q,s,rfl,y1,z1,y2,z2,y3,z3,y4,z4,q1,(by omega),(qr.gr hG2 (by omega)),ss⟩ hS2
  ·go_simp
   go_wp2_with fail
   refine hK.out _ _ ⟨hS.1.below ((Below.refl _ _).alloc (Nat.le_refl _) _),gr_alloc hS.2 _⟩ (fun hS2=>?_);clear hK;(try simp only[pZ,zZ]);obtain ⟨w2,hw2⟩:∃ W,W=(w1.alloc (.cells #[.int .i64 0,.int .i64 0,.string ⟨#[]⟩,.int .i64 0,.int .i64 0] 70)):=⟨_,rfl⟩
   rw [←hw2] at hS2 ⊢;have pr:RowAt w2 w1.heap.size 5 zero5f:=by subst hw2;exact row5z w1 _
   have hz2:w2.heap.size=w1.heap.size+1:=by subst hw2;simp
   have bb2:Below w1.heap.size w1 w2:=by subst hw2;exact (Below.refl _ _).alloc (Nat.le_refl _) _
   clear hw2;obtain ⟨p,hp⟩:∃ p,p=w1.heap.size:=⟨_,rfl⟩
   rw [←hp] at pr ⊢;exact st_3111.out _ _ ⟨x1,x2,x3,q,s,p,rfl,y1,z1,y2,z2,y3,z3,q1,(by omega),(qr.below bb2),ss,(by omega),(by omega),pr,(by omega)⟩ hS2
 refine have_state 4 #[true,true,true,true,true,true,true,true,true,false,true,false,false,true,false] (fun a w1=>∃ (x1:Int) (x2:Int) (x3:Int) (q:Nat) (p:Nat),a=(⟨#[.pointer (some ⟨g,0,none⟩),undef,.pointer (some ⟨w.heap.size,0,none⟩),.pointer (some ⟨p,0,none⟩),.pointer (some ⟨g,0,none⟩),.int .i64 x1,.int .i64 (1+x1),.pointer (some ⟨g,0,none⟩),.int .i64 x2,.slice (some ⟨q,0,none⟩) 3 3,.pointer (some ⟨g,0,none⟩),.int .i64 x3,.pointer (some ⟨q,x3.toNat,none⟩),undef,.pointer (some ⟨g,0,none⟩),undef,undef,undef,undef,undef,undef,undef,undef,undef,undef,undef,undef,undef,undef,undef,undef,undef,undef,undef,undef,undef,undef,undef,undef,undef,undef,undef,undef,undef],[]⟩:Act)∧0≤x1∧x1<5∧0≤x2∧x2<6∧0≤x3∧x3<3∧W0.heap.size≤q∧q<w1.heap.size∧RowAt w1 q 3 (fun o=>.string (nm3 o))∧W0.heap.size≤p∧p<w1.heap.size∧RowAt w1 p 5 zero5f∧¬q=p) ?_ (fun st_3101=>?_)
 ·rintro a w1 ⟨x1,x2,x3,q,p,rfl,y1,z1,y2,z2,y3,z3,q1,q2,qr,p1,p2,pr,qp⟩ hS
  have hsz:=hS.2.size;refine rZ [9,11] (.cons rfl (fun K hK=>?_) (.cons rfl (fun K hK=>?_) .nil))
  ·have cx:=qr.cell (o:=x3.toNat) (by omega)
   go_simp
   go_wp2_with fail
   refine hK.out _ _ hS (fun hS2=>?_);clear hK;(try simp only[pZ,zZ]);obtain ⟨s,hs⟩:∃ s,s=nm3 x3.toNat:=⟨_,rfl⟩
   have ss:s.size≤4:=by rw [hs];exact nm3_size _
   rw [←hs];clear hs;exact st_3111.out _ _ ⟨x1,x2,x3,q,s,p,rfl,y1,z1,y2,z2,y3,z3,q1,q2,qr,ss,p1,p2,pr,qp⟩ hS2
  ·go_simp
   refine (below_any _ _ _ _ _ _ hS.1 (by omega) (by omega)).mono ?_;rintro e w2 ⟨x4,rfl,y4,z4,hR2,hG2⟩;go_wp2_with fail
   refine hK.out _ _ ⟨hR2,gr_trans hS.2 hG2⟩ (fun hS2=>?_);have hs2:=hG2.size;clear hK;(try simp only[pZ,zZ]);exact st_4101.out _ _ ⟨x1,x2,x3,x4,q,p,rfl,y1,z1,y2,z2,y3,z3,y4,z4,q1,(by omega),(qr.gr hG2 (by omega)),p1,(by omega),(pr.gr hG2 (by omega)),qp⟩ hS2
 refine have_state 5 #[true,true,true,true,true,true,true,true,true,false,true,false,false,false,false] (fun a w1=>∃ (x1:Int) (x2:Int) (x3:Int) (q:Nat),a=(⟨#[.pointer (some ⟨g,0,none⟩),undef,.pointer (some ⟨w.heap.size,0,none⟩),undef,.pointer (some ⟨g,0,none⟩),.int .i64 x1,.int .i64 (1+x1),.pointer (some ⟨g,0,none⟩),.int .i64 x2,.slice (some ⟨q,0,none⟩) 3 3,.pointer (some ⟨g,0,none⟩),.int .i64 x3,.pointer (some ⟨q,x3.toNat,none⟩),undef,.pointer (some ⟨g,0,none⟩),undef,undef,undef,undef,undef,undef,undef,undef,undef,undef,undef,undef,undef,undef,undef,undef,undef,undef,undef,undef,undef,undef,undef,undef,undef,undef,undef,undef,undef],[]⟩:Act)∧0≤x1∧x1<5∧0≤x2∧x2<6∧0≤x3∧x3<3∧W0.heap.size≤q∧q<w1.heap.size∧RowAt w1 q 3 (fun o=>.string (nm3 o))) ?_ (fun st_3100=>?_)
 ·rintro a w1 ⟨x1,x2,x3,q,rfl,y1,z1,y2,z2,y3,z3,q1,q2,qr⟩ hS
  have hsz:=hS.2.size;refine rZ [9,11,13] (.cons rfl (fun K hK=>?_) (.cons rfl (fun K hK=>?_) (.cons rfl (fun K hK=>?_) .nil)))
  ·have cx:=qr.cell (o:=x3.toNat) (by omega)
   go_simp
   go_wp2_with fail
   refine hK.out _ _ hS (fun hS2=>?_);clear hK;(try simp only[pZ,zZ]);obtain ⟨s,hs⟩:∃ s,s=nm3 x3.toNat:=⟨_,rfl⟩
   have ss:s.size≤4:=by rw [hs];exact nm3_size _
   rw [←hs];clear hs;exact st_3110.out _ _ ⟨x1,x2,x3,q,s,rfl,y1,z1,y2,z2,y3,z3,q1,q2,qr,ss⟩ hS2
  ·go_simp
   refine (below_any _ _ _ _ _ _ hS.1 (by omega) (by omega)).mono ?_;rintro e w2 ⟨x4,rfl,y4,z4,hR2,hG2⟩;go_wp2_with fail
   refine hK.out _ _ ⟨hR2,gr_trans hS.2 hG2⟩ (fun hS2=>?_);have hs2:=hG2.size;clear hK;(try simp only[pZ,zZ]);exact st_4100.out _ _ ⟨x1,x2,x3,x4,q,rfl,y1,z1,y2,z2,y3,z3,y4,z4,q1,(by omega),(qr.gr hG2 (by omega))⟩ hS2
  ·go_simp
   go_wp2_with fail
   refine hK.out _ _ ⟨hS.1.below ((Below.refl _ _).alloc (Nat.le_refl _) _),gr_alloc hS.2 _⟩ (fun hS2=>?_);clear hK;(try simp only[pZ,zZ]);obtain ⟨w2,hw2⟩:∃ W,W=(w1.alloc (.cells #[.int .i64 0,.int .i64 0,.string ⟨#[]⟩,.int .i64 0,.int .i64 0] 70)):=⟨_,rfl⟩
   rw [←hw2] at hS2 ⊢;have pr:RowAt w2 w1.heap.size 5 zero5f:=by subst hw2;exact row5z w1 _
   have hz2:w2.heap.size=w1.heap.size+1:=by subst hw2;simp
   have bb2:Below w1.heap.size w1 w2:=by subst hw2;exact (Below.refl _ _).alloc (Nat.le_refl _) _
   clear hw2;obtain ⟨p,hp⟩:∃ p,p=w1.heap.size:=⟨_,rfl⟩
   rw [←hp] at pr ⊢;exact st_3101.out _ _ ⟨x1,x2,x3,q,p,rfl,y1,z1,y2,z2,y3,z3,q1,(by omega),(qr.below bb2),(by omega),(by omega),pr,(by omega)⟩ hS2
 refine have_state 6 #[true,true,true,true,true,false,true,true,false,false,true,false,false,true,false] (fun a w1=>∃ (x1:Int) (x2:Int) (x3:Int) (p:Nat),a=(⟨#[.pointer (some ⟨g,0,none⟩),undef,.pointer (some ⟨w.heap.size,0,none⟩),.pointer (some ⟨p,0,none⟩),.pointer (some ⟨g,0,none⟩),.int .i64 x1,.int .i64 (1+x1),.pointer (some ⟨g,0,none⟩),.int .i64 x2,undef,.pointer (some ⟨g,0,none⟩),.int .i64 x3,undef,undef,.pointer (some ⟨g,0,none⟩),undef,undef,undef,undef,undef,undef,undef,undef,undef,undef,undef,undef,undef,undef,undef,undef,undef,undef,undef,undef,undef,undef,undef,undef,undef,undef,undef,undef,undef],[]⟩:Act)∧0≤x1∧x1<5∧0≤x2∧x2<6∧0≤x3∧x3<3∧W0.heap.size≤p∧p<w1.heap.size∧RowAt w1 p 5 zero5f) ?_ (fun st_3001=>?_)
 ·rintro a w1 ⟨x1,x2,x3,p,rfl,y1,z1,y2,z2,y3,z3,p1,p2,pr⟩ hS
  have hsz:=hS.2.size;refine rZ [5,11] (.cons rfl (fun K hK=>?_) (.cons rfl (fun K hK=>?_) .nil))
  ·go_simp
   go_wp2_with fail
   refine hK.out _ _ ⟨hS.1.below ((Below.refl _ _).alloc (Nat.le_refl _) _),gr_alloc hS.2 _⟩ (fun hS2=>?_);clear hK;(try simp only[pZ,zZ]);obtain ⟨w2,hw2⟩:∃ W,W=(w1.alloc (.cells #[.string ⟨#[119,101,98]⟩,.string ⟨#[100,98]⟩,.string ⟨#[97,117,116,104]⟩] 9)):=⟨_,rfl⟩
   rw [←hw2] at hS2 ⊢;have qr:RowAt w2 w1.heap.size 3 (fun o=>.string (nm3 o)):=by subst hw2;exact row3 w1 _
   have hz2:w2.heap.size=w1.heap.size+1:=by subst hw2;simp
   have bb2:Below w1.heap.size w1 w2:=by subst hw2;exact (Below.refl _ _).alloc (Nat.le_refl _) _
   clear hw2;obtain ⟨q,hq⟩:∃ q,q=w1.heap.size:=⟨_,rfl⟩
   rw [←hq] at qr ⊢;refine tZ (i:=8) (v:=.pointer (some ⟨q,x3.toNat,none⟩)) rfl (.inl ⟨by rfl,?_⟩) hS2 ?_
   ·(intro w hSw;(try dsimp only at hSw);go_simp;try (with_reducible rfl))
   (try simp only[pZ,zZ]);exact st_3101.out _ _ ⟨x1,x2,x3,q,p,rfl,y1,z1,y2,z2,y3,z3,(by omega),(by omega),qr,p1,(by omega),(pr.below bb2),(by omega)⟩ hS2
  ·go_simp
   refine (below_any _ _ _ _ _ _ hS.1 (by omega) (by omega)).mono ?_;rintro e w2 ⟨x4,rfl,y4,z4,hR2,hG2⟩;go_wp2_with fail
   refine hK.out _ _ ⟨hR2,gr_trans hS.2 hG2⟩ (fun hS2=>?_);have hs2:=hG2.size;clear hK;(try simp only[pZ,zZ]);exact st_4001.out _ _ ⟨x1,x2,x3,x4,p,rfl,y1,z1,y2,z2,y3,z3,y4,z4,p1,(by omega),(pr.gr hG2 (by omega))⟩ hS2
 refine have_state 7 #[true,true,true,true,true,false,true,true,false,false,true,false,false,false,false] (fun a w1=>∃ (x1:Int) (x2:Int) (x3:Int),a=(⟨#[.pointer (some ⟨g,0,none⟩),undef,.pointer (some ⟨w.heap.size,0,none⟩),undef,.pointer (some ⟨g,0,none⟩),.int .i64 x1,.int .i64 (1+x1),.pointer (some ⟨g,0,none⟩),.int .i64 x2,undef,.pointer (some ⟨g,0,none⟩),.int .i64 x3,undef,undef,.pointer (some ⟨g,0,none⟩),undef,undef,undef,undef,undef,undef,undef,undef,undef,undef,undef,undef,undef,undef,undef,undef,undef,undef,undef,undef,undef,undef,undef,undef,undef,undef,undef,undef,undef],[]⟩:Act)∧0≤x1∧x1<5∧0≤x2∧x2<6∧0≤x3∧x3<3) ?_ (fun st_3000=>?_)
 ·rintro a w1 ⟨x1,x2,x3,rfl,y1,z1,y2,z2,y3,z3⟩ hS
  have hsz:=hS.2.size;refine rZ [5,11,13] (.cons rfl (fun K hK=>?_) (.cons rfl (fun K hK=>?_) (.cons rfl (fun K hK=>?_) .nil)))
  ·go_simp
   go_wp2_with fail
   refine hK.out _ _ ⟨hS.1.below ((Below.refl _ _).alloc (Nat.le_refl _) _),gr_alloc hS.2 _⟩ (fun hS2=>?_);clear hK;(try simp only[pZ,zZ]);obtain ⟨w2,hw2⟩:∃ W,W=(w1.alloc (.cells #[.string ⟨#[119,101,98]⟩,.string ⟨#[100,98]⟩,.string ⟨#[97,117,116,104]⟩] 9)):=⟨_,rfl⟩
   rw [←hw2] at hS2 ⊢;have qr:RowAt w2 w1.heap.size 3 (fun o=>.string (nm3 o)):=by subst hw2;exact row3 w1 _
   have hz2:w2.heap.size=w1.heap.size+1:=by subst hw2;simp
   have bb2:Below w1.heap.size w1 w2:=by subst hw2;exact (Below.refl _ _).alloc (Nat.le_refl _) _
   clear hw2;obtain ⟨q,hq⟩:∃ q,q=w1.heap.size:=⟨_,rfl⟩
   rw [←hq] at qr ⊢;refine tZ (i:=8) (v:=.pointer (some ⟨q,x3.toNat,none⟩)) rfl (.inl ⟨by rfl,?_⟩) hS2 ?_
   ·(intro w hSw;(try dsimp only at hSw);go_simp;try (with_reducible rfl))
   (try simp only[pZ,zZ]);exact st_3100.out _ _ ⟨x1,x2,x3,q,rfl,y1,z1,y2,z2,y3,z3,(by omega),(by omega),qr⟩ hS2
  ·go_simp
   refine (below_any _ _ _ _ _ _ hS.1 (by omega) (by omega)).mono ?_;rintro e w2 ⟨x4,rfl,y4,z4,hR2,hG2⟩;go_wp2_with fail
   refine hK.out _ _ ⟨hR2,gr_trans hS.2 hG2⟩ (fun hS2=>?_);have hs2:=hG2.size;clear hK;(try simp only[pZ,zZ]);exact st_4000.out _ _ ⟨x1,x2,x3,x4,rfl,y1,z1,y2,z2,y3,z3,y4,z4⟩ hS2
  ·go_simp
   go_wp2_with fail
   refine hK.out _ _ ⟨hS.1.below ((Below.refl _ _).alloc (Nat.le_refl _) _),gr_alloc hS.2 _⟩ (fun hS2=>?_);clear hK;(try simp only[pZ,zZ]);obtain ⟨w2,hw2⟩:∃ W,W=(w1.alloc (.cells #[.int .i64 0,.int .i64 0,.string ⟨#[]⟩,.int .i64 0,.int .i64 0] 70)):=⟨_,rfl⟩
   rw [←hw2] at hS2 ⊢;have pr:RowAt w2 w1.heap.size 5 zero5f:=by subst hw2;exact row5z w1 _
   have hz2:w2.heap.size=w1.heap.size+1:=by subst hw2;simp
   have bb2:Below w1.heap.size w1 w2:=by subst hw2;exact (Below.refl _ _).alloc (Nat.le_refl _) _
   clear hw2;obtain ⟨p,hp⟩:∃ p,p=w1.heap.size:=⟨_,rfl⟩
   rw [←hp] at pr ⊢;exact st_3001.out _ _ ⟨x1,x2,x3,p,rfl,y1,z1,y2,z2,y3,z3,(by omega),(by omega),pr⟩ hS2
 refine have_state 6 #[true,true,true,true,true,true,true,false,false,false,true,false,false,true,false] (fun a w1=>∃ (x1:Int) (x2:Int) (q:Nat) (p:Nat),a=(⟨#[.pointer (some ⟨g,0,none⟩),undef,.pointer (some ⟨w.heap.size,0,none⟩),.pointer (some ⟨p,0,none⟩),.pointer (some ⟨g,0,none⟩),.int .i64 x1,.int .i64 (1+x1),.pointer (some ⟨g,0,none⟩),.int .i64 x2,.slice (some ⟨q,0,none⟩) 3 3,.pointer (some ⟨g,0,none⟩),undef,undef,undef,.pointer (some ⟨g,0,none⟩),undef,undef,undef,undef,undef,undef,undef,undef,undef,undef,undef,undef,undef,undef,undef,undef,undef,undef,undef,undef,undef,undef,undef,undef,undef,undef,undef,undef,undef],[]⟩:Act)∧0≤x1∧x1<5∧0≤x2∧x2<6∧W0.heap.size≤q∧q<w1.heap.size∧RowAt w1 q 3 (fun o=>.string (nm3 o))∧W0.heap.size≤p∧p<w1.heap.size∧RowAt w1 p 5 zero5f∧¬q=p) ?_ (fun st_2101=>?_)
 ·rintro a w1 ⟨x1,x2,q,p,rfl,y1,z1,y2,z2,q1,q2,qr,p1,p2,pr,qp⟩ hS
  have hsz:=hS.2.size;refine sZ 7 fun K hK=>?_
  ·go_simp
   refine (below_any _ _ _ _ _ _ hS.1 (by omega) (by omega)).mono ?_;rintro e w2 ⟨x3,rfl,y3,z3,hR2,hG2⟩;go_wp2_with fail
   refine hK.out _ _ ⟨hR2,gr_trans hS.2 hG2⟩ (fun hS2=>?_);have hs2:=hG2.size;clear hK;(try simp only[pZ,zZ]);refine tZ (i:=8) (v:=.pointer (some ⟨q,x3.toNat,none⟩)) rfl (.inl ⟨by rfl,?_⟩) hS2 ?_
   ·(intro w hSw;(try dsimp only at hSw);go_simp;try (with_reducible rfl))
   (try simp only[pZ,zZ]);exact st_3101.out _ _ ⟨x1,x2,x3,q,p,rfl,y1,z1,y2,z2,y3,z3,q1,(by omega),(qr.gr hG2 (by omega)),p1,(by omega),(pr.gr hG2 (by omega)),qp⟩ hS2
 refine have_state 7 #[true,true,true,true,true,true,true,false,false,false,true,false,false,false,false] (fun a w1=>∃ (x1:Int) (x2:Int) (q:Nat),a=(⟨#[.pointer (some ⟨g,0,none⟩),undef,.pointer (some ⟨w.heap.size,0,none⟩),undef,.pointer (some ⟨g,0,none⟩),.int .i64 x1,.int .i64 (1+x1),.pointer (some ⟨g,0,none⟩),.int .i64 x2,.slice (some ⟨q,0,none⟩) 3 3,.pointer (some ⟨g,0,none⟩),undef,undef,undef,.pointer (some ⟨g,0,none⟩),undef,undef,undef,undef,undef,undef,undef,undef,undef,undef,undef,undef,undef,undef,undef,undef,undef,undef,undef,undef,undef,undef,undef,undef,undef,undef,undef,undef,undef],[]⟩:Act)∧0≤x1∧x1<5∧0≤x2∧x2<6∧W0.heap.size≤q∧q<w1.heap.size∧RowAt w1 q 3 (fun o=>.string (nm3 o))) ?_ (fun st_2100=>?_)
 ·rintro a w1 ⟨x1,x2,q,rfl,y1,z1,y2,z2,q1,q2,qr⟩ hS
  have hsz:=hS.2.size;refine rZ [7,13] (.cons rfl (fun K hK=>?_) (.cons rfl (fun K hK=>?_) .nil))
  ·go_simp
   refine (below_any _ _ _ _ _ _ hS.1 (by omega) (by omega)).mono ?_;rintro e w2 ⟨x3,rfl,y3,z3,hR2,hG2⟩;go_wp2_with fail
   refine hK.out _ _ ⟨hR2,gr_trans hS.2 hG2⟩ (fun hS2=>?_);have hs2:=hG2.size;clear hK;(try simp only[pZ,zZ]);refine tZ (i:=8) (v:=.pointer (some ⟨q,x3.toNat,none⟩)) rfl (.inl ⟨by rfl,?_⟩) hS2 ?_
   ·(intro w hSw;(try dsimp only at hSw);go_simp;try (with_reducible rfl))
   (try simp only[pZ,zZ]);exact st_3100.out _ _ ⟨x1,x2,x3,q,rfl,y1,z1,y2,z2,y3,z3,q1,(by omega),(qr.gr hG2 (by omega))⟩ hS2
  ·go_simp
   go_wp2_with fail
   refine hK.out _ _ ⟨hS.1.below ((Below.refl _ _).alloc (Nat.le_refl _) _),gr_alloc hS.2 _⟩ (fun hS2=>?_);clear hK;(try simp only[pZ,zZ]);obtain ⟨w2,hw2⟩:∃ W,W=(w1.alloc (.cells #[.int .i64 0,.int .i64 0,.string ⟨#[]⟩,.int .i64 0,.int .i64 0] 70)):=⟨_,rfl⟩
   rw [←hw2] at hS2 ⊢;have pr:RowAt w2 w1.heap.size 5 zero5f:=by subst hw2;exact row5z w1 _
   have hz2:w2.heap.size=w1.heap.size+1:=by subst hw2;simp
   have bb2:Below w1.heap.size w1 w2:=by subst hw2;exact (Below.refl _ _).alloc (Nat.le_refl _) _
   clear hw2;obtain ⟨p,hp⟩:∃ p,p=w1.heap.size:=⟨_,rfl⟩
   rw [←hp] at pr ⊢;exact st_2101.out _ _ ⟨x1,x2,q,p,rfl,y1,z1,y2,z2,q1,(by omega),(qr.below bb2),(by omega),(by omega),pr,(by omega)⟩ hS2
 refine have_state 7 #[true,true,true,true,true,false,true,false,false,false,true,false,false,true,false] (fun a w1=>∃ (x1:Int) (x2:Int) (p:Nat),a=(⟨#[.pointer (some ⟨g,0,none⟩),undef,.pointer (some ⟨w.heap.size,0,none⟩),.pointer (some ⟨p,0,none⟩),.pointer (some ⟨g,0,none⟩),.int .i64 x1,.int .i64 (1+x1),.pointer (some ⟨g,0,none⟩),.int .i64 x2,undef,.pointer (some ⟨g,0,none⟩),undef,undef,undef,.pointer (some ⟨g,0,none⟩),undef,undef,undef,undef,undef,undef,undef,undef,undef,undef,undef,undef,undef,undef,undef,undef,undef,undef,undef,undef,undef,undef,undef,undef,undef,undef,undef,undef,undef],[]⟩:Act)∧0≤x1∧x1<5∧0≤x2∧x2<6∧W0.heap.size≤p∧p<w1.heap.size∧RowAt w1 p 5 zero5f) ?_ (fun st_2001=>?_)
 ·rintro a w1 ⟨x1,x2,p,rfl,y1,z1,y2,z2,p1,p2,pr⟩ hS
  have hsz:=hS.2.size;refine rZ [5,7] (.cons rfl (fun K hK=>?_) (.cons rfl (fun K hK=>?_) .nil))
  ·go_simp
   go_wp2_with fail
   refine hK.out _ _ ⟨hS.1.below ((Below.refl _ _).alloc (Nat.le_refl _) _),gr_alloc hS.2 _⟩ (fun hS2=>?_);clear hK;(try simp only[pZ,zZ]);obtain ⟨w2,hw2⟩:∃ W,W=(w1.alloc (.cells #[.string ⟨#[119,101,98]⟩,.string ⟨#[100,98]⟩,.string ⟨#[97,117,116,104]⟩] 9)):=⟨_,rfl⟩
   rw [←hw2] at hS2 ⊢;have qr:RowAt w2 w1.heap.size 3 (fun o=>.string (nm3 o)):=by subst hw2;exact row3 w1 _
   have hz2:w2.heap.size=w1.heap.size+1:=by subst hw2;simp
   have bb2:Below w1.heap.size w1 w2:=by subst hw2;exact (Below.refl _ _).alloc (Nat.le_refl _) _
   clear hw2;obtain ⟨q,hq⟩:∃ q,q=w1.heap.size:=⟨_,rfl⟩
   rw [←hq] at qr ⊢;exact st_2101.out _ _ ⟨x1,x2,q,p,rfl,y1,z1,y2,z2,(by omega),(by omega),qr,p1,(by omega),(pr.below bb2),(by omega)⟩ hS2
  ·go_simp
   refine (below_any _ _ _ _ _ _ hS.1 (by omega) (by omega)).mono ?_;rintro e w2 ⟨x3,rfl,y3,z3,hR2,hG2⟩;go_wp2_with fail
   refine hK.out _ _ ⟨hR2,gr_trans hS.2 hG2⟩ (fun hS2=>?_);have hs2:=hG2.size;clear hK;(try simp only[pZ,zZ]);exact st_3001.out _ _ ⟨x1,x2,x3,p,rfl,y1,z1,y2,z2,y3,z3,p1,(by omega),(pr.gr hG2 (by omega))⟩ hS2
 refine have_state 8 #[true,true,true,true,true,false,true,false,false,false,true,false,false,false,false] (fun a w1=>∃ (x1:Int) (x2:Int),a=(⟨#[.pointer (some ⟨g,0,none⟩),undef,.pointer (some ⟨w.heap.size,0,none⟩),undef,.pointer (some ⟨g,0,none⟩),.int .i64 x1,.int .i64 (1+x1),.pointer (some ⟨g,0,none⟩),.int .i64 x2,undef,.pointer (some ⟨g,0,none⟩),undef,undef,undef,.pointer (some ⟨g,0,none⟩),undef,undef,undef,undef,undef,undef,undef,undef,undef,undef,undef,undef,undef,undef,undef,undef,undef,undef,undef,undef,undef,undef,undef,undef,undef,undef,undef,undef,undef],[]⟩:Act)∧0≤x1∧x1<5∧0≤x2∧x2<6) ?_ (fun st_2000=>?_)
 ·rintro a w1 ⟨x1,x2,rfl,y1,z1,y2,z2⟩ hS
  have hsz:=hS.2.size;refine rZ [5,7,13] (.cons rfl (fun K hK=>?_) (.cons rfl (fun K hK=>?_) (.cons rfl (fun K hK=>?_) .nil)))
  ·go_simp
   go_wp2_with fail
   refine hK.out _ _ ⟨hS.1.below ((Below.refl _ _).alloc (Nat.le_refl _) _),gr_alloc hS.2 _⟩ (fun hS2=>?_);clear hK;(try simp only[pZ,zZ]);obtain ⟨w2,hw2⟩:∃ W,W=(w1.alloc (.cells #[.string ⟨#[119,101,98]⟩,.string ⟨#[100,98]⟩,.string ⟨#[97,117,116,104]⟩] 9)):=⟨_,rfl⟩
   rw [←hw2] at hS2 ⊢;have qr:RowAt w2 w1.heap.size 3 (fun o=>.string (nm3 o)):=by subst hw2;exact row3 w1 _
   have hz2:w2.heap.size=w1.heap.size+1:=by subst hw2;simp
   have bb2:Below w1.heap.size w1 w2:=by subst hw2;exact (Below.refl _ _).alloc (Nat.le_refl _) _
   clear hw2;obtain ⟨q,hq⟩:∃ q,q=w1.heap.size:=⟨_,rfl⟩
   rw [←hq] at qr ⊢;exact st_2100.out _ _ ⟨x1,x2,q,rfl,y1,z1,y2,z2,(by omega),(by omega),qr⟩ hS2
  ·go_simp
   refine (below_any _ _ _ _ _ _ hS.1 (by omega) (by omega)).mono ?_;rintro e w2 ⟨x3,rfl,y3,z3,hR2,hG2⟩;go_wp2_with fail
   refine hK.out _ _ ⟨hR2,gr_trans hS.2 hG2⟩ (fun hS2=>?_);have hs2:=hG2.size;clear hK;(try simp only[pZ,zZ]);exact st_3000.out _ _ ⟨x1,x2,x3,rfl,y1,z1,y2,z2,y3,z3⟩ hS2
  ·go_simp
   go_wp2_with fail
   refine hK.out _ _ ⟨hS.1.below ((Below.refl _ _).alloc (Nat.le_refl _) _),gr_alloc hS.2 _⟩ (fun hS2=>?_);clear hK;(try simp only[pZ,zZ]);obtain ⟨w2,hw2⟩:∃ W,W=(w1.alloc (.cells #[.int .i64 0,.int .i64 0,.string ⟨#[]⟩,.int .i64 0,.int .i64 0] 70)):=⟨_,rfl⟩
   rw [←hw2] at hS2 ⊢;have pr:RowAt w2 w1.heap.size 5 zero5f:=by subst hw2;exact row5z w1 _
   have hz2:w2.heap.size=w1.heap.size+1:=by subst hw2;simp
   have bb2:Below w1.heap.size w1 w2:=by subst hw2;exact (Below.refl _ _).alloc (Nat.le_refl _) _
   clear hw2;obtain ⟨p,hp⟩:∃ p,p=w1.heap.size:=⟨_,rfl⟩
   rw [←hp] at pr ⊢;exact st_2001.out _ _ ⟨x1,x2,p,rfl,y1,z1,y2,z2,(by omega),(by omega),pr⟩ hS2
 refine have_state 7 #[true,true,true,true,false,true,true,false,false,false,true,false,false,true,false] (fun a w1=>∃ (x1:Int) (q:Nat) (p:Nat),a=(⟨#[.pointer (some ⟨g,0,none⟩),undef,.pointer (some ⟨w.heap.size,0,none⟩),.pointer (some ⟨p,0,none⟩),.pointer (some ⟨g,0,none⟩),.int .i64 x1,.int .i64 (1+x1),.pointer (some ⟨g,0,none⟩),undef,.slice (some ⟨q,0,none⟩) 3 3,.pointer (some ⟨g,0,none⟩),undef,undef,undef,.pointer (some ⟨g,0,none⟩),undef,undef,undef,undef,undef,undef,undef,undef,undef,undef,undef,undef,undef,undef,undef,undef,undef,undef,undef,undef,undef,undef,undef,undef,undef,undef,undef,undef,undef],[]⟩:Act)∧0≤x1∧x1<5∧W0.heap.size≤q∧q<w1.heap.size∧RowAt w1 q 3 (fun o=>.string (nm3 o))∧W0.heap.size≤p∧p<w1.heap.size∧RowAt w1 p 5 zero5f∧¬q=p) ?_ (fun st_1101=>?_)
 ·rintro a w1 ⟨x1,q,p,rfl,y1,z1,q1,q2,qr,p1,p2,pr,qp⟩ hS
  have hsz:=hS.2.size;refine sZ 4 fun K hK=>?_
  ·go_simp
   refine (below_any _ _ _ _ _ _ hS.1 (by omega) (by omega)).mono ?_;rintro e w2 ⟨x2,rfl,y2,z2,hR2,hG2⟩;go_wp2_with fail
   refine hK.out _ _ ⟨hR2,gr_trans hS.2 hG2⟩ (fun hS2=>?_);have hs2:=hG2.size;clear hK;(try simp only[pZ,zZ]);exact st_2101.out _ _ ⟨x1,x2,q,p,rfl,y1,z1,y2,z2,q1,(by omega),(qr.gr hG2 (by omega)),p1,(by omega),(pr.gr hG2 (by omega)),qp⟩ hS2
 refine have_state 8 #[true,true,true,true,false,true,true,false,false,false,true,false,false,false,false] (fun a w1=>∃ (x1:Int) (q:Nat),a=(⟨#[.pointer (some ⟨g,0,none⟩),undef,.pointer (some ⟨w.heap.size,0,none⟩),undef,.pointer (some ⟨g,0,none⟩),.int .i64 x1,.int .i64 (1+x1),.pointer (some ⟨g,0,none⟩),undef,.slice (some ⟨q,0,none⟩) 3 3,.pointer (some ⟨g,0,none⟩),undef,undef,undef,.pointer (some ⟨g,0,none⟩),undef,undef,undef,undef,undef,undef,undef,undef,undef,undef,undef,undef,undef,undef,undef,undef,undef,undef,undef,undef,undef,undef,undef,undef,undef,undef,undef,undef,undef],[]⟩:Act)∧0≤x1∧x1<5∧W0.heap.size≤q∧q<w1.heap.size∧RowAt w1 q 3 (fun o=>.string (nm3 o))) ?_ (fun st_1100=>?_)
 ·rintro a w1 ⟨x1,q,rfl,y1,z1,q1,q2,qr⟩ hS
  have hsz:=hS.2.size;refine rZ [4,13] (.cons rfl (fun K hK=>?_) (.cons rfl (fun K hK=>?_) .nil))
  ·go_simp
   refine (below_any _ _ _ _ _ _ hS.1 (by omega) (by omega)).mono ?_;rintro e w2 ⟨x2,rfl,y2,z2,hR2,hG2⟩;go_wp2_with fail
   refine hK.out _ _ ⟨hR2,gr_trans hS.2 hG2⟩ (fun hS2=>?_);have hs2:=hG2.size;clear hK;(try simp only[pZ,zZ]);exact st_2100.out _ _ ⟨x1,x2,q,rfl,y1,z1,y2,z2,q1,(by omega),(qr.gr hG2 (by omega))⟩ hS2
  ·go_simp
   go_wp2_with fail
   refine hK.out _ _ ⟨hS.1.below ((Below.refl _ _).alloc (Nat.le_refl _) _),gr_alloc hS.2 _⟩ (fun hS2=>?_);clear hK;(try simp only[pZ,zZ]);obtain ⟨w2,hw2⟩:∃ W,W=(w1.alloc (.cells #[.int .i64 0,.int .i64 0,.string ⟨#[]⟩,.int .i64 0,.int .i64 0] 70)):=⟨_,rfl⟩
   rw [←hw2] at hS2 ⊢;have pr:RowAt w2 w1.heap.size 5 zero5f:=by subst hw2;exact row5z w1 _
   have hz2:w2.heap.size=w1.heap.size+1:=by subst hw2;simp
   have bb2:Below w1.heap.size w1 w2:=by subst hw2;exact (Below.refl _ _).alloc (Nat.le_refl _) _
   clear hw2;obtain ⟨p,hp⟩:∃ p,p=w1.heap.size:=⟨_,rfl⟩
   rw [←hp] at pr ⊢;exact st_1101.out _ _ ⟨x1,q,p,rfl,y1,z1,q1,(by omega),(qr.below bb2),(by omega),(by omega),pr,(by omega)⟩ hS2
 refine have_state 8 #[true,true,true,true,false,false,true,false,false,false,true,false,false,true,false] (fun a w1=>∃ (x1:Int) (p:Nat),a=(⟨#[.pointer (some ⟨g,0,none⟩),undef,.pointer (some ⟨w.heap.size,0,none⟩),.pointer (some ⟨p,0,none⟩),.pointer (some ⟨g,0,none⟩),.int .i64 x1,.int .i64 (1+x1),.pointer (some ⟨g,0,none⟩),undef,undef,.pointer (some ⟨g,0,none⟩),undef,undef,undef,.pointer (some ⟨g,0,none⟩),undef,undef,undef,undef,undef,undef,undef,undef,undef,undef,undef,undef,undef,undef,undef,undef,undef,undef,undef,undef,undef,undef,undef,undef,undef,undef,undef,undef,undef],[]⟩:Act)∧0≤x1∧x1<5∧W0.heap.size≤p∧p<w1.heap.size∧RowAt w1 p 5 zero5f) ?_ (fun st_1001=>?_)
 ·rintro a w1 ⟨x1,p,rfl,y1,z1,p1,p2,pr⟩ hS
  have hsz:=hS.2.size;refine rZ [4,5] (.cons rfl (fun K hK=>?_) (.cons rfl (fun K hK=>?_) .nil))
  ·go_simp
   refine (below_any _ _ _ _ _ _ hS.1 (by omega) (by omega)).mono ?_;rintro e w2 ⟨x2,rfl,y2,z2,hR2,hG2⟩;go_wp2_with fail
   refine hK.out _ _ ⟨hR2,gr_trans hS.2 hG2⟩ (fun hS2=>?_);have hs2:=hG2.size;clear hK;(try simp only[pZ,zZ]);exact st_2001.out _ _ ⟨x1,x2,p,rfl,y1,z1,y2,z2,p1,(by omega),(pr.gr hG2 (by omega))⟩ hS2
  ·go_simp
   go_wp2_with fail
   refine hK.out _ _ ⟨hS.1.below ((Below.refl _ _).alloc (Nat.le_refl _) _),gr_alloc hS.2 _⟩ (fun hS2=>?_);clear hK;(try simp only[pZ,zZ]);obtain ⟨w2,hw2⟩:∃ W,W=(w1.alloc (.cells #[.string ⟨#[119,101,98]⟩,.string ⟨#[100,98]⟩,.string ⟨#[97,117,116,104]⟩] 9)):=⟨_,rfl⟩
   rw [←hw2] at hS2 ⊢;have qr:RowAt w2 w1.heap.size 3 (fun o=>.string (nm3 o)):=by subst hw2;exact row3 w1 _
   have hz2:w2.heap.size=w1.heap.size+1:=by subst hw2;simp
   have bb2:Below w1.heap.size w1 w2:=by subst hw2;exact (Below.refl _ _).alloc (Nat.le_refl _) _
   clear hw2;obtain ⟨q,hq⟩:∃ q,q=w1.heap.size:=⟨_,rfl⟩
   rw [←hq] at qr ⊢;exact st_1101.out _ _ ⟨x1,q,p,rfl,y1,z1,(by omega),(by omega),qr,p1,(by omega),(pr.below bb2),(by omega)⟩ hS2
 refine have_state 9 #[true,true,true,true,false,false,true,false,false,false,true,false,false,false,false] (fun a w1=>∃ (x1:Int),a=(⟨#[.pointer (some ⟨g,0,none⟩),undef,.pointer (some ⟨w.heap.size,0,none⟩),undef,.pointer (some ⟨g,0,none⟩),.int .i64 x1,.int .i64 (1+x1),.pointer (some ⟨g,0,none⟩),undef,undef,.pointer (some ⟨g,0,none⟩),undef,undef,undef,.pointer (some ⟨g,0,none⟩),undef,undef,undef,undef,undef,undef,undef,undef,undef,undef,undef,undef,undef,undef,undef,undef,undef,undef,undef,undef,undef,undef,undef,undef,undef,undef,undef,undef,undef],[]⟩:Act)∧0≤x1∧x1<5) ?_ (fun st_1000=>?_)
 ·rintro a w1 ⟨x1,rfl,y1,z1⟩ hS
  have hsz:=hS.2.size;refine rZ [4,5,13] (.cons rfl (fun K hK=>?_) (.cons rfl (fun K hK=>?_) (.cons rfl (fun K hK=>?_) .nil)))
  ·go_simp
   refine (below_any _ _ _ _ _ _ hS.1 (by omega) (by omega)).mono ?_;rintro e w2 ⟨x2,rfl,y2,z2,hR2,hG2⟩;go_wp2_with fail
   refine hK.out _ _ ⟨hR2,gr_trans hS.2 hG2⟩ (fun hS2=>?_);have hs2:=hG2.size;clear hK;(try simp only[pZ,zZ]);exact st_2000.out _ _ ⟨x1,x2,rfl,y1,z1,y2,z2⟩ hS2
  ·go_simp
   go_wp2_with fail
   refine hK.out _ _ ⟨hS.1.below ((Below.refl _ _).alloc (Nat.le_refl _) _),gr_alloc hS.2 _⟩ (fun hS2=>?_);clear hK;(try simp only[pZ,zZ]);obtain ⟨w2,hw2⟩:∃ W,W=(w1.alloc (.cells #[.string ⟨#[119,101,98]⟩,.string ⟨#[100,98]⟩,.string ⟨#[97,117,116,104]⟩] 9)):=⟨_,rfl⟩
   rw [←hw2] at hS2 ⊢;have qr:RowAt w2 w1.heap.size 3 (fun o=>.string (nm3 o)):=by subst hw2;exact row3 w1 _
   have hz2:w2.heap.size=w1.heap.size+1:=by subst hw2;simp
   have bb2:Below w1.heap.size w1 w2:=by subst hw2;exact (Below.refl _ _).alloc (Nat.le_refl _) _
   clear hw2;obtain ⟨q,hq⟩:∃ q,q=w1.heap.size:=⟨_,rfl⟩
   rw [←hq] at qr ⊢;exact st_1100.out _ _ ⟨x1,q,rfl,y1,z1,(by omega),(by omega),qr⟩ hS2
  ·go_simp
   go_wp2_with fail
   refine hK.out _ _ ⟨hS.1.below ((Below.refl _ _).alloc (Nat.le_refl _) _),gr_alloc hS.2 _⟩ (fun hS2=>?_);clear hK;(try simp only[pZ,zZ]);obtain ⟨w2,hw2⟩:∃ W,W=(w1.alloc (.cells #[.int .i64 0,.int .i64 0,.string ⟨#[]⟩,.int .i64 0,.int .i64 0] 70)):=⟨_,rfl⟩
   rw [←hw2] at hS2 ⊢;have pr:RowAt w2 w1.heap.size 5 zero5f:=by subst hw2;exact row5z w1 _
   have hz2:w2.heap.size=w1.heap.size+1:=by subst hw2;simp
   have bb2:Below w1.heap.size w1 w2:=by subst hw2;exact (Below.refl _ _).alloc (Nat.le_refl _) _
   clear hw2;obtain ⟨p,hp⟩:∃ p,p=w1.heap.size:=⟨_,rfl⟩
   rw [←hp] at pr ⊢;exact st_1001.out _ _ ⟨x1,p,rfl,y1,z1,(by omega),(by omega),pr⟩ hS2
 refine have_state 9 #[true,false,false,true,false,true,true,false,false,false,true,false,false,true,false] (fun a w1=>∃ (q:Nat) (p:Nat),a=(⟨#[.pointer (some ⟨g,0,none⟩),undef,.pointer (some ⟨w.heap.size,0,none⟩),.pointer (some ⟨p,0,none⟩),.pointer (some ⟨g,0,none⟩),undef,undef,.pointer (some ⟨g,0,none⟩),undef,.slice (some ⟨q,0,none⟩) 3 3,.pointer (some ⟨g,0,none⟩),undef,undef,undef,.pointer (some ⟨g,0,none⟩),undef,undef,undef,undef,undef,undef,undef,undef,undef,undef,undef,undef,undef,undef,undef,undef,undef,undef,undef,undef,undef,undef,undef,undef,undef,undef,undef,undef,undef],[]⟩:Act)∧W0.heap.size≤q∧q<w1.heap.size∧RowAt w1 q 3 (fun o=>.string (nm3 o))∧W0.heap.size≤p∧p<w1.heap.size∧RowAt w1 p 5 zero5f∧¬q=p) ?_ (fun st_0101=>?_)
 ·rintro a w1 ⟨q,p,rfl,q1,q2,qr,p1,p2,pr,qp⟩ hS
  have hsz:=hS.2.size;refine sZ 1 fun K hK=>?_
  ·go_simp
   refine (below_any _ _ _ _ _ _ hS.1 (by omega) (by omega)).mono ?_;rintro e w2 ⟨x1,rfl,y1,z1,hR2,hG2⟩;go_wp2_with fail
   refine hK.out _ _ ⟨hR2,gr_trans hS.2 hG2⟩ (fun hS2=>?_);have hs2:=hG2.size;clear hK;(try simp only[pZ,zZ]);refine tZ (i:=2) (v:=.int .i64 (1+x1)) rfl (.inl ⟨by rfl,?_⟩) hS2 ?_
   ·(intro w hSw;(try dsimp only at hSw);go_simp;(try (with_reducible rfl));(try exact IntWalk.i64_in _ (by omega)))
   (try simp only[pZ,zZ]);exact st_1101.out _ _ ⟨x1,q,p,rfl,y1,z1,q1,(by omega),(qr.gr hG2 (by omega)),p1,(by omega),(pr.gr hG2 (by omega)),qp⟩ hS2
 refine have_state 10 #[true,false,false,true,false,true,true,false,false,false,true,false,false,false,false] (fun a w1=>∃ (q:Nat),a=(⟨#[.pointer (some ⟨g,0,none⟩),undef,.pointer (some ⟨w.heap.size,0,none⟩),undef,.pointer (some ⟨g,0,none⟩),undef,undef,.pointer (some ⟨g,0,none⟩),undef,.slice (some ⟨q,0,none⟩) 3 3,.pointer (some ⟨g,0,none⟩),undef,undef,undef,.pointer (some ⟨g,0,none⟩),undef,undef,undef,undef,undef,undef,undef,undef,undef,undef,undef,undef,undef,undef,undef,undef,undef,undef,undef,undef,undef,undef,undef,undef,undef,undef,undef,undef,undef],[]⟩:Act)∧W0.heap.size≤q∧q<w1.heap.size∧RowAt w1 q 3 (fun o=>.string (nm3 o))) ?_ (fun st_0100=>?_)
 ·rintro a w1 ⟨q,rfl,q1,q2,qr⟩ hS
  have hsz:=hS.2.size;refine rZ [1,13] (.cons rfl (fun K hK=>?_) (.cons rfl (fun K hK=>?_) .nil))
  ·go_simp
   refine (below_any _ _ _ _ _ _ hS.1 (by omega) (by omega)).mono ?_;rintro e w2 ⟨x1,rfl,y1,z1,hR2,hG2⟩;go_wp2_with fail
   refine hK.out _ _ ⟨hR2,gr_trans hS.2 hG2⟩ (fun hS2=>?_);have hs2:=hG2.size;clear hK;(try simp only[pZ,zZ]);refine tZ (i:=2) (v:=.int .i64 (1+x1)) rfl (.inl ⟨by rfl,?_⟩) hS2 ?_
   ·(intro w hSw;(try dsimp only at hSw);go_simp;(try (with_reducible rfl));(try exact IntWalk.i64_in _ (by omega)))
   (try simp only[pZ,zZ]);exact st_1100.out _ _ ⟨x1,q,rfl,y1,z1,q1,(by omega),(qr.gr hG2 (by omega))⟩ hS2
  ·go_simp
   go_wp2_with fail
   refine hK.out _ _ ⟨hS.1.below ((Below.refl _ _).alloc (Nat.le_refl _) _),gr_alloc hS.2 _⟩ (fun hS2=>?_);clear hK;(try simp only[pZ,zZ]);obtain ⟨w2,hw2⟩:∃ W,W=(w1.alloc (.cells #[.int .i64 0,.int .i64 0,.string ⟨#[]⟩,.int .i64 0,.int .i64 0] 70)):=⟨_,rfl⟩
   rw [←hw2] at hS2 ⊢;have pr:RowAt w2 w1.heap.size 5 zero5f:=by subst hw2;exact row5z w1 _
   have hz2:w2.heap.size=w1.heap.size+1:=by subst hw2;simp
   have bb2:Below w1.heap.size w1 w2:=by subst hw2;exact (Below.refl _ _).alloc (Nat.le_refl _) _
   clear hw2;obtain ⟨p,hp⟩:∃ p,p=w1.heap.size:=⟨_,rfl⟩
   rw [←hp] at pr ⊢;exact st_0101.out _ _ ⟨q,p,rfl,q1,(by omega),(qr.below bb2),(by omega),(by omega),pr,(by omega)⟩ hS2
 refine have_state 10 #[true,false,false,true,false,false,true,false,false,false,true,false,false,true,false] (fun a w1=>∃ (p:Nat),a=(⟨#[.pointer (some ⟨g,0,none⟩),undef,.pointer (some ⟨w.heap.size,0,none⟩),.pointer (some ⟨p,0,none⟩),.pointer (some ⟨g,0,none⟩),undef,undef,.pointer (some ⟨g,0,none⟩),undef,undef,.pointer (some ⟨g,0,none⟩),undef,undef,undef,.pointer (some ⟨g,0,none⟩),undef,undef,undef,undef,undef,undef,undef,undef,undef,undef,undef,undef,undef,undef,undef,undef,undef,undef,undef,undef,undef,undef,undef,undef,undef,undef,undef,undef,undef],[]⟩:Act)∧W0.heap.size≤p∧p<w1.heap.size∧RowAt w1 p 5 zero5f) ?_ (fun st_0001=>?_)
 ·rintro a w1 ⟨p,rfl,p1,p2,pr⟩ hS
  have hsz:=hS.2.size;refine rZ [1,5] (.cons rfl (fun K hK=>?_) (.cons rfl (fun K hK=>?_) .nil))
  ·go_simp
   refine (below_any _ _ _ _ _ _ hS.1 (by omega) (by omega)).mono ?_;rintro e w2 ⟨x1,rfl,y1,z1,hR2,hG2⟩;go_wp2_with fail
   refine hK.out _ _ ⟨hR2,gr_trans hS.2 hG2⟩ (fun hS2=>?_);have hs2:=hG2.size;clear hK;(try simp only[pZ,zZ]);refine tZ (i:=2) (v:=.int .i64 (1+x1)) rfl (.inl ⟨by rfl,?_⟩) hS2 ?_
   ·(intro w hSw;(try dsimp only at hSw);go_simp;(try (with_reducible rfl));(try exact IntWalk.i64_in _ (by omega)))
   (try simp only[pZ,zZ]);exact st_1001.out _ _ ⟨x1,p,rfl,y1,z1,p1,(by omega),(pr.gr hG2 (by omega))⟩ hS2
  ·go_simp
   go_wp2_with fail
   refine hK.out _ _ ⟨hS.1.below ((Below.refl _ _).alloc (Nat.le_refl _) _),gr_alloc hS.2 _⟩ (fun hS2=>?_);clear hK;(try simp only[pZ,zZ]);obtain ⟨w2,hw2⟩:∃ W,W=(w1.alloc (.cells #[.string ⟨#[119,101,98]⟩,.string ⟨#[100,98]⟩,.string ⟨#[97,117,116,104]⟩] 9)):=⟨_,rfl⟩
   rw [←hw2] at hS2 ⊢;have qr:RowAt w2 w1.heap.size 3 (fun o=>.string (nm3 o)):=by subst hw2;exact row3 w1 _
   have hz2:w2.heap.size=w1.heap.size+1:=by subst hw2;simp
   have bb2:Below w1.heap.size w1 w2:=by subst hw2;exact (Below.refl _ _).alloc (Nat.le_refl _) _
   clear hw2;obtain ⟨q,hq⟩:∃ q,q=w1.heap.size:=⟨_,rfl⟩
   rw [←hq] at qr ⊢;exact st_0101.out _ _ ⟨q,p,rfl,(by omega),(by omega),qr,p1,(by omega),(pr.below bb2),(by omega)⟩ hS2
 refine have_state 11 #[true,false,false,true,false,false,true,false,false,false,true,false,false,false,false] (fun a w1=>a=(⟨#[.pointer (some ⟨g,0,none⟩),undef,.pointer (some ⟨w.heap.size,0,none⟩),undef,.pointer (some ⟨g,0,none⟩),undef,undef,.pointer (some ⟨g,0,none⟩),undef,undef,.pointer (some ⟨g,0,none⟩),undef,undef,undef,.pointer (some ⟨g,0,none⟩),undef,undef,undef,undef,undef,undef,undef,undef,undef,undef,undef,undef,undef,undef,undef,undef,undef,undef,undef,undef,undef,undef,undef,undef,undef,undef,undef,undef,undef],[]⟩:Act)) ?_ (fun st_0000=>?_)
 ·rintro a w1 rfl hS
  have hsz:=hS.2.size;refine rZ [1,5,13] (.cons rfl (fun K hK=>?_) (.cons rfl (fun K hK=>?_) (.cons rfl (fun K hK=>?_) .nil)))
  ·go_simp
   refine (below_any _ _ _ _ _ _ hS.1 (by omega) (by omega)).mono ?_;rintro e w2 ⟨x1,rfl,y1,z1,hR2,hG2⟩;go_wp2_with fail
   refine hK.out _ _ ⟨hR2,gr_trans hS.2 hG2⟩ (fun hS2=>?_);have hs2:=hG2.size;clear hK;(try simp only[pZ,zZ]);refine tZ (i:=2) (v:=.int .i64 (1+x1)) rfl (.inl ⟨by rfl,?_⟩) hS2 ?_
   ·(intro w hSw;(try dsimp only at hSw);go_simp;(try (with_reducible rfl));(try exact IntWalk.i64_in _ (by omega)))
   (try simp only[pZ,zZ]);exact st_1000.out _ _ ⟨x1,rfl,y1,z1⟩ hS2
  ·go_simp
   go_wp2_with fail
   refine hK.out _ _ ⟨hS.1.below ((Below.refl _ _).alloc (Nat.le_refl _) _),gr_alloc hS.2 _⟩ (fun hS2=>?_);clear hK;(try simp only[pZ,zZ]);obtain ⟨w2,hw2⟩:∃ W,W=(w1.alloc (.cells #[.string ⟨#[119,101,98]⟩,.string ⟨#[100,98]⟩,.string ⟨#[97,117,116,104]⟩] 9)):=⟨_,rfl⟩
   rw [←hw2] at hS2 ⊢;have qr:RowAt w2 w1.heap.size 3 (fun o=>.string (nm3 o)):=by subst hw2;exact row3 w1 _
   have hz2:w2.heap.size=w1.heap.size+1:=by subst hw2;simp
   have bb2:Below w1.heap.size w1 w2:=by subst hw2;exact (Below.refl _ _).alloc (Nat.le_refl _) _
   clear hw2;obtain ⟨q,hq⟩:∃ q,q=w1.heap.size:=⟨_,rfl⟩
   rw [←hq] at qr ⊢;exact st_0100.out _ _ ⟨q,rfl,(by omega),(by omega),qr⟩ hS2
  ·go_simp
   go_wp2_with fail
   refine hK.out _ _ ⟨hS.1.below ((Below.refl _ _).alloc (Nat.le_refl _) _),gr_alloc hS.2 _⟩ (fun hS2=>?_);clear hK;(try simp only[pZ,zZ]);obtain ⟨w2,hw2⟩:∃ W,W=(w1.alloc (.cells #[.int .i64 0,.int .i64 0,.string ⟨#[]⟩,.int .i64 0,.int .i64 0] 70)):=⟨_,rfl⟩
   rw [←hw2] at hS2 ⊢;have pr:RowAt w2 w1.heap.size 5 zero5f:=by subst hw2;exact row5z w1 _
   have hz2:w2.heap.size=w1.heap.size+1:=by subst hw2;simp
   have bb2:Below w1.heap.size w1 w2:=by subst hw2;exact (Below.refl _ _).alloc (Nat.le_refl _) _
   clear hw2;obtain ⟨p,hp⟩:∃ p,p=w1.heap.size:=⟨_,rfl⟩
   rw [←hp] at pr ⊢;exact st_0001.out _ _ ⟨p,rfl,(by omega),(by omega),pr⟩ hS2
 refine tZ (i:=0) (v:=.pointer (some ⟨g,0,none⟩)) rfl (.inl ⟨by rfl,?_⟩) hS2 ?_
 ·(intro w hSw;(try dsimp only at hSw);go_simp;try (with_reducible rfl))
 (try simp only[pZ,zZ]);refine tZ (i:=3) (v:=.pointer (some ⟨g,0,none⟩)) rfl (.inl ⟨by rfl,?_⟩) hS2 ?_
 ·(intro w hSw;(try dsimp only at hSw);go_simp;try (with_reducible rfl))
 (try simp only[pZ,zZ]);refine tZ (i:=6) (v:=.pointer (some ⟨g,0,none⟩)) rfl (.inl ⟨by rfl,?_⟩) hS2 ?_
 ·(intro w hSw;(try dsimp only at hSw);go_simp;try (with_reducible rfl))
 (try simp only[pZ,zZ]);refine tZ (i:=10) (v:=.pointer (some ⟨g,0,none⟩)) rfl (.inl ⟨by rfl,?_⟩) hS2 ?_
 ·(intro w hSw;(try dsimp only at hSw);go_simp;try (with_reducible rfl))
 (try simp only[pZ,zZ]);exact st_0000.out _ _ rfl hS2
end Go.Proofs.YtgcinolbkllkkaaGreat
