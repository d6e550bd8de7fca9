/-
  Texts of one proof, joined: Uq, Lf1, Reg3.
-/
import Derived.Test.YtgcinolbkllkkaaGreatZFConverged14
import Derived.Test.YtgcinolbkllkkaaGreatZFConverged10
set_option linter.unusedSimpArgs false
set_option linter.unusedVariables false
namespace Go.Proofs.YtgcinolbkllkkaaGreat
open Go.ChangeShapes Go.WideShapes Go.ChangeAt Go.RowKit
def uq (u:M1.Upd)(o:Nat):Value:=[.int .i64 u.dr,.int .i64 u.dn,.int .i64 u.sw,.int .i64 u.sc,.int .i64 u.sr,.int .i64 u.k,.int .i64 u.tr,.int .i64 u.id,.int .i64 u.pa,.string u.s,.int .i64 u.st,.int .i64 u.en,.int .i64 u.lv].getD o undef
theorem uq_same {f f':Nat→Value}(h0:f 0=f' 0)(h1:f 1=f' 1)(h2:f 2=f' 2)(h3:f 3=f' 3)(h4:f 4=f' 4)(h5:f 5=f' 5)(h6:f 6=f' 6)(h7:f 7=f' 7)(h8:f 8=f' 8)(h9:f 9=f' 9)(h10:f 10=f' 10)(h11:f 11=f' 11)(h12:f 12=f' 12):∀ o,o<13→f o=f' o:=fun o ho=>by
 match o,ho with
 | 0,_=>exact h0
 | 1,_=>exact h1
 | 2,_=>exact h2
 | 3,_=>exact h3
 | 4,_=>exact h4
 | 5,_=>exact h5
 | 6,_=>exact h6
 | 7,_=>exact h7
 | 8,_=>exact h8
 | 9,_=>exact h9
 | 10,_=>exact h10
 | 11,_=>exact h11
 | 12,_=>exact h12
theorem uq_new (w:World)(u:M1.Upd)(t:TypeId):RowAt (w.alloc (.cells #[.int .i64 u.dr,.int .i64 u.dn,.int .i64 u.sw,.int .i64 u.sc,.int .i64 u.sr,.int .i64 u.k,.int .i64 u.tr,.int .i64 u.id,.int .i64 u.pa,.string u.s,.int .i64 u.st,.int .i64 u.en,.int .i64 u.lv] t)) w.heap.size 13 (uq u) :=
 (RowAt.new w #[.int .i64 u.dr,.int .i64 u.dn,.int .i64 u.sw,.int .i64 u.sc,.int .i64 u.sr,.int .i64 u.k,.int .i64 u.tr,.int .i64 u.id,.int .i64 u.pa,.string u.s,.int .i64 u.st,.int .i64 u.en,.int .i64 u.lv] t).same (uq_same rfl rfl rfl rfl rfl rfl rfl rfl rfl rfl rfl rfl rfl)
theorem uq_cells {w:World}{p:Nat}{u:M1.Upd}(h:RowAt w p 13 (uq u)):w.cell? ⟨p,0,none⟩=some (.int .i64 u.dr)∧w.cell? ⟨p,1,none⟩=some (.int .i64 u.dn)∧w.cell? ⟨p,2,none⟩=some (.int .i64 u.sw)∧w.cell? ⟨p,3,none⟩=some (.int .i64 u.sc)∧w.cell? ⟨p,4,none⟩=some (.int .i64 u.sr)∧w.cell? ⟨p,5,none⟩=some (.int .i64 u.k)∧w.cell? ⟨p,6,none⟩=some (.int .i64 u.tr)∧w.cell? ⟨p,7,none⟩=some (.int .i64 u.id)∧w.cell? ⟨p,8,none⟩=some (.int .i64 u.pa)∧w.cell? ⟨p,9,none⟩=some (.string u.s)∧w.cell? ⟨p,10,none⟩=some (.int .i64 u.st)∧w.cell? ⟨p,11,none⟩=some (.int .i64 u.en)∧w.cell? ⟨p,12,none⟩=some (.int .i64 u.lv) :=
 ⟨h.cell (o:=0) (by omega),h.cell (o:=1) (by omega),h.cell (o:=2) (by omega),h.cell (o:=3) (by omega),h.cell (o:=4) (by omega),h.cell (o:=5) (by omega),h.cell (o:=6) (by omega),h.cell (o:=7) (by omega),h.cell (o:=8) (by omega),h.cell (o:=9) (by omega),h.cell (o:=10) (by omega),h.cell (o:=11) (by omega),h.cell (o:=12) (by omega)⟩
theorem uq_free {w:World}{p:Nat}{u:M1.Upd}(h:RowAt w p 13 (uq u)):w.frozen? ⟨p,0,none⟩=false∧w.frozen? ⟨p,1,none⟩=false∧w.frozen? ⟨p,2,none⟩=false∧w.frozen? ⟨p,3,none⟩=false∧w.frozen? ⟨p,4,none⟩=false∧w.frozen? ⟨p,5,none⟩=false∧w.frozen? ⟨p,6,none⟩=false∧w.frozen? ⟨p,7,none⟩=false∧w.frozen? ⟨p,8,none⟩=false∧w.frozen? ⟨p,9,none⟩=false∧w.frozen? ⟨p,10,none⟩=false∧w.frozen? ⟨p,11,none⟩=false∧w.frozen? ⟨p,12,none⟩=false :=
 ⟨h.free (o:=0) (by omega),h.free (o:=1) (by omega),h.free (o:=2) (by omega),h.free (o:=3) (by omega),h.free (o:=4) (by omega),h.free (o:=5) (by omega),h.free (o:=6) (by omega),h.free (o:=7) (by omega),h.free (o:=8) (by omega),h.free (o:=9) (by omega),h.free (o:=10) (by omega),h.free (o:=11) (by omega),h.free (o:=12) (by omega)⟩
theorem uq_put {w:World}{r:Nat}{u0:M1.Upd}(h:RowAt w r 13 (uq u0))(u:M1.Upd):RowAt (((((((((((((w.setCell ⟨r,0,none⟩ (.int .i64 u.dr)).setCell ⟨r,1,none⟩ (.int .i64 u.dn)).setCell ⟨r,2,none⟩ (.int .i64 u.sw)).setCell ⟨r,3,none⟩ (.int .i64 u.sc)).setCell ⟨r,4,none⟩ (.int .i64 u.sr)).setCell ⟨r,5,none⟩ (.int .i64 u.k)).setCell ⟨r,6,none⟩ (.int .i64 u.tr)).setCell ⟨r,7,none⟩ (.int .i64 u.id)).setCell ⟨r,8,none⟩ (.int .i64 u.pa)).setCell ⟨r,9,none⟩ (.string u.s)).setCell ⟨r,10,none⟩ (.int .i64 u.st)).setCell ⟨r,11,none⟩ (.int .i64 u.en)).setCell ⟨r,12,none⟩ (.int .i64 u.lv)) r 13 (uq u) :=
 RowAt.same (((((((((((((h.set (o:=0) (by omega) (.int .i64 u.dr)).set (o:=1) (by omega) (.int .i64 u.dn)).set (o:=2) (by omega) (.int .i64 u.sw)).set (o:=3) (by omega) (.int .i64 u.sc)).set (o:=4) (by omega) (.int .i64 u.sr)).set (o:=5) (by omega) (.int .i64 u.k)).set (o:=6) (by omega) (.int .i64 u.tr)).set (o:=7) (by omega) (.int .i64 u.id)).set (o:=8) (by omega) (.int .i64 u.pa)).set (o:=9) (by omega) (.string u.s)).set (o:=10) (by omega) (.int .i64 u.st)).set (o:=11) (by omega) (.int .i64 u.en)).set (o:=12) (by omega) (.int .i64 u.lv)) (uq_same rfl rfl rfl rfl rfl rfl rfl rfl rfl rfl rfl rfl rfl)
theorem bel_put {a w:World}{B r:Nat}(h:Below B a w)(hr:B≤r)(u:M1.Upd):Below B a (((((((((((((w.setCell ⟨r,0,none⟩ (.int .i64 u.dr)).setCell ⟨r,1,none⟩ (.int .i64 u.dn)).setCell ⟨r,2,none⟩ (.int .i64 u.sw)).setCell ⟨r,3,none⟩ (.int .i64 u.sc)).setCell ⟨r,4,none⟩ (.int .i64 u.sr)).setCell ⟨r,5,none⟩ (.int .i64 u.k)).setCell ⟨r,6,none⟩ (.int .i64 u.tr)).setCell ⟨r,7,none⟩ (.int .i64 u.id)).setCell ⟨r,8,none⟩ (.int .i64 u.pa)).setCell ⟨r,9,none⟩ (.string u.s)).setCell ⟨r,10,none⟩ (.int .i64 u.st)).setCell ⟨r,11,none⟩ (.int .i64 u.en)).setCell ⟨r,12,none⟩ (.int .i64 u.lv)):=(((((((((((((h.setCell (p:=⟨r,0,none⟩) hr (.int .i64 u.dr)).setCell (p:=⟨r,1,none⟩) hr (.int .i64 u.dn)).setCell (p:=⟨r,2,none⟩) hr (.int .i64 u.sw)).setCell (p:=⟨r,3,none⟩) hr (.int .i64 u.sc)).setCell (p:=⟨r,4,none⟩) hr (.int .i64 u.sr)).setCell (p:=⟨r,5,none⟩) hr (.int .i64 u.k)).setCell (p:=⟨r,6,none⟩) hr (.int .i64 u.tr)).setCell (p:=⟨r,7,none⟩) hr (.int .i64 u.id)).setCell (p:=⟨r,8,none⟩) hr (.int .i64 u.pa)).setCell (p:=⟨r,9,none⟩) hr (.string u.s)).setCell (p:=⟨r,10,none⟩) hr (.int .i64 u.st)).setCell (p:=⟨r,11,none⟩) hr (.int .i64 u.en)).setCell (p:=⟨r,12,none⟩) hr (.int .i64 u.lv))
theorem far13 {w:World}{k m r:Nat}{f:Nat→Value}(h:RowAt w k m f)(hn:r≠k)(u:M1.Upd):RowAt (((((((((((((w.setCell ⟨r,0,none⟩ (.int .i64 u.dr)).setCell ⟨r,1,none⟩ (.int .i64 u.dn)).setCell ⟨r,2,none⟩ (.int .i64 u.sw)).setCell ⟨r,3,none⟩ (.int .i64 u.sc)).setCell ⟨r,4,none⟩ (.int .i64 u.sr)).setCell ⟨r,5,none⟩ (.int .i64 u.k)).setCell ⟨r,6,none⟩ (.int .i64 u.tr)).setCell ⟨r,7,none⟩ (.int .i64 u.id)).setCell ⟨r,8,none⟩ (.int .i64 u.pa)).setCell ⟨r,9,none⟩ (.string u.s)).setCell ⟨r,10,none⟩ (.int .i64 u.st)).setCell ⟨r,11,none⟩ (.int .i64 u.en)).setCell ⟨r,12,none⟩ (.int .i64 u.lv)) k m f :=
 (((((((((((((h.far (p:=⟨r,0,none⟩) hn (.int .i64 u.dr)).far (p:=⟨r,1,none⟩) hn (.int .i64 u.dn)).far (p:=⟨r,2,none⟩) hn (.int .i64 u.sw)).far (p:=⟨r,3,none⟩) hn (.int .i64 u.sc)).far (p:=⟨r,4,none⟩) hn (.int .i64 u.sr)).far (p:=⟨r,5,none⟩) hn (.int .i64 u.k)).far (p:=⟨r,6,none⟩) hn (.int .i64 u.tr)).far (p:=⟨r,7,none⟩) hn (.int .i64 u.id)).far (p:=⟨r,8,none⟩) hn (.int .i64 u.pa)).far (p:=⟨r,9,none⟩) hn (.string u.s)).far (p:=⟨r,10,none⟩) hn (.int .i64 u.st)).far (p:=⟨r,11,none⟩) hn (.int .i64 u.en)).far (p:=⟨r,12,none⟩) hn (.int .i64 u.lv))
abbrev RgAt (w:World)(p:Nat)(id a b c:Int)(av:Option Addr)(n cn:Nat):Prop:=RowAt w p 5 (fun o=>[.int .i64 id,.int .i64 a,.int .i64 b,.int .i64 c,.slice av n cn].getD o undef)
theorem rg_new (w:World)(id a b c:Int)(av:Option Addr)(n cn:Nat)(t:TypeId):RgAt (w.alloc (.cells #[.int .i64 id,.int .i64 a,.int .i64 b,.int .i64 c,.slice av n cn] t)) w.heap.size id a b c av n cn :=
 (RowAt.new w #[.int .i64 id,.int .i64 a,.int .i64 b,.int .i64 c,.slice av n cn] t).same fun o ho=>by
  match o,ho with
  | 0,_=>rfl
  | 1,_=>rfl
  | 2,_=>rfl
  | 3,_=>rfl
  | 4,_=>rfl
theorem RgAt.cells {w:World}{p:Nat}{id a b c:Int}{av:Option Addr}{n cn:Nat}(h:RgAt w p id a b c av n cn):w.cell? ⟨p,0,none⟩=some (.int .i64 id)∧w.cell? ⟨p,1,none⟩=some (.int .i64 a)∧w.cell? ⟨p,2,none⟩=some (.int .i64 b)∧w.cell? ⟨p,3,none⟩=some (.int .i64 c)∧w.cell? ⟨p,4,none⟩=some (.slice av n cn):=⟨h.cell (o:=0) (by omega),h.cell (o:=1) (by omega),h.cell (o:=2) (by omega),h.cell (o:=3) (by omega),h.cell (o:=4) (by omega)⟩
theorem RgAt.frees {w:World}{p:Nat}{id a b c:Int}{av:Option Addr}{n cn:Nat}(h:RgAt w p id a b c av n cn):w.frozen? ⟨p,0,none⟩=false∧w.frozen? ⟨p,1,none⟩=false∧w.frozen? ⟨p,2,none⟩=false∧w.frozen? ⟨p,3,none⟩=false∧w.frozen? ⟨p,4,none⟩=false:=⟨h.free (o:=0) (by omega),h.free (o:=1) (by omega),h.free (o:=2) (by omega),h.free (o:=3) (by omega),h.free (o:=4) (by omega)⟩
theorem RgAt.put {w:World}{p:Nat}{id a b c:Int}{av:Option Addr}{n cn:Nat}(h:RgAt w p id a b c av n cn)(id2 a2 b2 c2:Int)(v2:Option Addr)(n2 m2:Nat):RgAt (((((w.setCell ⟨p,0,none⟩ (.int .i64 id2)).setCell ⟨p,1,none⟩ (.int .i64 a2)).setCell ⟨p,2,none⟩ (.int .i64 b2)).setCell ⟨p,3,none⟩ (.int .i64 c2)).setCell ⟨p,4,none⟩ (.slice v2 n2 m2)) p id2 a2 b2 c2 v2 n2 m2 :=
 RowAt.same (((((h.set (o:=0) (by omega) (.int .i64 id2)).set (o:=1) (by omega) (.int .i64 a2)).set (o:=2) (by omega) (.int .i64 b2)).set (o:=3) (by omega) (.int .i64 c2)).set (o:=4) (by omega) (.slice v2 n2 m2)) fun o ho=>by
  match o,ho with
  | 0,_=>rfl
  | 1,_=>rfl
  | 2,_=>rfl
  | 3,_=>rfl
  | 4,_=>rfl
theorem bel_put5 {a w:World}{B r:Nat}(h:Below B a w)(hr:B≤r)(v0 v1 v2 v3 v4:Value):Below B a (((((w.setCell ⟨r,0,none⟩ v0).setCell ⟨r,1,none⟩ v1).setCell ⟨r,2,none⟩ v2).setCell ⟨r,3,none⟩ v3).setCell ⟨r,4,none⟩ v4) :=
 ((((h.setCell (p:=⟨r,0,none⟩) hr _).setCell (p:=⟨r,1,none⟩) hr _).setCell (p:=⟨r,2,none⟩) hr _).setCell (p:=⟨r,3,none⟩) hr _).setCell (p:=⟨r,4,none⟩) hr _
theorem rg_set {w:World}{p:Nat}{id a b c:Int}{av:Option Addr}{n cn:Nat}(h:RgAt w p id a b c av n cn)(v2:Option Addr)(n2 m2:Nat):RgAt (w.setCell ⟨p,4,none⟩ (.slice v2 n2 m2)) p id a b c v2 n2 m2 :=
 RowAt.same (h.set (o:=4) (by omega) (.slice v2 n2 m2)) fun o ho=>by
  match o,ho with
  | 0,_=>rfl
  | 1,_=>rfl
  | 2,_=>rfl
  | 3,_=>rfl
  | 4,_=>rfl
theorem mu_far {w:World}{av:Option Addr}{n cap lo hi:Nat}{f:Nat→Value}(h:MU w av n cap lo hi f){p:Addr}(hp:∀ q,av=some q→¬q.block=p.block)(v:Value):MU (w.setCell p v) av n cap lo hi f :=
 ⟨h.1,h.2.1,h.2.2.imp id fun ⟨k,e,h3,h4,r⟩=>⟨k,e,h3,h4,r.far (fun e2=>hp _ e (by rw [e2])) v⟩⟩
theorem mu_put5 {w:World}{av:Option Addr}{n cap lo z:Nat}{f:Nat→Value}(h:MU w av n cap lo w.heap.size f)(hz:∀ q,av=some q→¬q.block=z)(v0 v1 v2 v3 v4:Value):MU (((((w.setCell ⟨z,0,none⟩ v0).setCell ⟨z,1,none⟩ v1).setCell ⟨z,2,none⟩ v2).setCell ⟨z,3,none⟩ v3).setCell ⟨z,4,none⟩ v4) av n cap lo (((((w.setCell ⟨z,0,none⟩ v0).setCell ⟨z,1,none⟩ v1).setCell ⟨z,2,none⟩ v2).setCell ⟨z,3,none⟩ v3).setCell ⟨z,4,none⟩ v4).heap.size f:=by
 have e:(((((w.setCell ⟨z,0,none⟩ v0).setCell ⟨z,1,none⟩ v1).setCell ⟨z,2,none⟩ v2).setCell ⟨z,3,none⟩ v3).setCell ⟨z,4,none⟩ v4).heap.size=w.heap.size:=by simp [World.setCell]
 rw [e];exact mu_far (p:=⟨z,4,none⟩) (mu_far (p:=⟨z,3,none⟩) (mu_far (p:=⟨z,2,none⟩) (mu_far (p:=⟨z,1,none⟩) (mu_far (p:=⟨z,0,none⟩) h hz v0) hz v1) hz v2) hz v3) hz v4
set_option maxHeartbeats 32000000 in
theorem regionOk_impl (id a b c:Int)(av:Option Addr)(n cn:Nat)(us:List M1.Upd)(w:World)(h1:IsUpds w av n cn us) :
  Calls Tryz.prog 54 #[.agg #[.int .i64 id,.int .i64 a,.int .i64 b,.int .i64 c,.slice av n cn]] w fun e w'=>e=.returned (.bool (M1.regOk id a b c us))∧Below w.heap.size w w':=by
 have hl1:Hid (us.length=n):=h1.hlen;have hm1:=h1.hcap;have hm2:=h1.hmost;unfold maxLen at hm2;by_cases q1:M1.inB id 1 5=true
 ·by_cases q2:M1.stOk a b c=true
  ·by_cases q3:c=id
   ·by_cases q4:M1.setOk us=true
    ·rw [M1.regOk_5 q1 q2 q3 q4]
     have q3b:(c != id)=false:=by simp [q3]
     clear q3;go_enter Tryz.func54,Tryz.ntmps54
     go_wp2_with fail
     refine (inRange_any _ _ _ _).mono ?_;rw [q1];rintro e w0 ⟨rfl,rfl⟩;go_wp2_with fail
     refine (stampOk_impl _ _ _ _).mono ?_;rw [q2];rintro e w1 ⟨rfl,hb1⟩;obtain ⟨hc1,hf1⟩:=bcell hb1;have hs1:=hb1.size;simp at hs1
     have hs1a:w.heap.size<w1.heap.size:=by omega
     have hB1:Below w.heap.size w w1:=by repeat (first | (with_reducible exact Below.refl _ _) | ((with_reducible refine Below.setCell ?_ ?_ _);rotate_left;(focus (first | omega | (simp;done) | (simp;omega)))) | ((with_reducible refine Below.alloc ?_ ?_ _);rotate_left;(focus (first | omega | (simp;done) | (simp;omega)))) | (with_reducible refine Below.drew ?_) | ((with_reducible refine Below.trans ?_ (Below.mono hb1 ?_));rotate_left;(focus (first | omega | (simp;done) | (simp;omega)))))
     go_wp2_with fail
     refine (setOk_impl _ _ _ _ _ (h1.below hB1)).mono ?_;rw [q4];rintro e w2 ⟨rfl,hb2⟩;have hB2:=hb1.trans (hb2.mono hb1.size);clear hc1 hf1;obtain ⟨hc2,hf2⟩:=bcell hB2;have hs2:=hB2.size;simp at hs2
     have hs2a:w.heap.size<w2.heap.size:=by omega
     have hB2':Below w.heap.size w w2:=by repeat (first | (with_reducible exact Below.refl _ _) | ((with_reducible refine Below.setCell ?_ ?_ _);rotate_left;(focus (first | omega | (simp;done) | (simp;omega)))) | ((with_reducible refine Below.alloc ?_ ?_ _);rotate_left;(focus (first | omega | (simp;done) | (simp;omega)))) | (with_reducible refine Below.drew ?_) | ((with_reducible refine Below.trans ?_ (Below.mono hB2 ?_));rotate_left;(focus (first | omega | (simp;done) | (simp;omega)))))
     go_wp2_with fail
     go_loopw [32] (fun i wr=>∃ k:Nat,k≤n∧i=.int .i64 k∧Below (w.alloc (.cells #[.int .i64 id,.int .i64 a,.int .i64 b,.int .i64 c,.slice av n cn] 34)).heap.size (w.alloc (.cells #[.int .i64 id,.int .i64 a,.int .i64 b,.int .i64 c,.slice av n cn] 34)) wr∧Hid (∀ j,j<k→M1.laterB (M1.up us j).sw (M1.up us j).sc a b=false)) (fun i _=>n-(intOf i).toNat)
     case atStart=>exact ⟨0,Nat.zero_le _,rfl,hB2,fun j hj=>absurd hj (Nat.not_lt_zero _)⟩
     case round =>
      clear hc2 hf2;obtain ⟨k,hk,rfl,hB,hall⟩:=hrel;obtain ⟨hcr,hfr⟩:=bcell hB;have hsr:=hB.size;simp at hsr
      have hsra:w.heap.size<wr.heap.size:=by omega
      have hBw:Below w.heap.size w wr:=by repeat (first | (with_reducible exact Below.refl _ _) | ((with_reducible refine Below.setCell ?_ ?_ _);rotate_left;(focus (first | omega | (simp;done) | (simp;omega)))) | ((with_reducible refine Below.alloc ?_ ?_ _);rotate_left;(focus (first | omega | (simp;done) | (simp;omega)))) | (with_reducible refine Below.drew ?_) | ((with_reducible refine Below.trans ?_ (Below.mono hB ?_));rotate_left;(focus (first | omega | (simp;done) | (simp;omega)))))
      by_cases hlt:k<n
      ·have g1:=h1.below hBw
       rcases g1.hlies with h0 | ⟨bb,off,rfl,hbb,hcc⟩
       ·omega
       obtain ⟨c0,c1,c2,c3,c4,c5,c6,c7,c8,c9,c10,c11,c12⟩:=hcc k hlt;clear hcc g1;have i0:(0:Int)≤(k:Int):=by omega
       have i1:(k:Int)<(n:Int):=by omega
       by_cases hq:M1.laterB (M1.up us k).sw (M1.up us k).sc a b=true
       ·have HQ:Hid (M1.noneLater us a b=false):=M1.noneLater_no (j:=k) (by have:=hl1.out;omega) hq
        clear hall;go_wp2_with fail
        refine (later_any _ _ _ _ _ _ _).mono ?_;rw [hq];rintro e w3 ⟨rfl,hb3⟩;have hB3:Below (w.alloc (.cells #[.int .i64 id,.int .i64 a,.int .i64 b,.int .i64 c,.slice (some ⟨bb,off,none⟩) n cn] 34)).heap.size (w.alloc (.cells #[.int .i64 id,.int .i64 a,.int .i64 b,.int .i64 c,.slice (some ⟨bb,off,none⟩) n cn] 34)) w3:=by repeat (first | (with_reducible exact Below.refl _ _) | ((with_reducible refine Below.setCell ?_ ?_ _);rotate_left;(focus (first | omega | (simp;done) | (simp;omega)))) | ((with_reducible refine Below.alloc ?_ ?_ _);rotate_left;(focus (first | omega | (simp;done) | (simp;omega)))) | (with_reducible refine Below.drew ?_) | ((with_reducible refine Below.trans ?_ (Below.mono hb3 ?_));rotate_left;(focus (first | omega | (simp;done) | (simp;omega)))) | ((with_reducible refine Below.trans ?_ (Below.mono hB ?_));rotate_left;(focus (first | omega | (simp;done) | (simp;omega)))))
        go_wp2_with fail
        go_ret
        refine ⟨by rw [HQ.out];rfl,?_⟩;repeat (first | (with_reducible exact Below.refl _ _) | ((with_reducible refine Below.setCell ?_ ?_ _);rotate_left;(focus (first | omega | (simp;done) | (simp;omega)))) | ((with_reducible refine Below.alloc ?_ ?_ _);rotate_left;(focus (first | omega | (simp;done) | (simp;omega)))) | (with_reducible refine Below.drew ?_) | ((with_reducible refine Below.trans ?_ (Below.mono hB3 ?_));rotate_left;(focus (first | omega | (simp;done) | (simp;omega)))))
       ·replace hq:M1.laterB (M1.up us k).sw (M1.up us k).sc a b=false:=by simpa using hq
        have HQ:Hid (∀ j,j<k+1→M1.laterB (M1.up us j).sw (M1.up us j).sc a b=false):=fun j hj=>by
         by_cases e:j=k
         ·rw [e];exact hq
         ·exact hall.out j (by omega)
        clear hall;go_wp2_with fail
        refine (later_any _ _ _ _ _ _ _).mono ?_;rw [hq];rintro e w3 ⟨rfl,hb3⟩;have hB3:Below (w.alloc (.cells #[.int .i64 id,.int .i64 a,.int .i64 b,.int .i64 c,.slice (some ⟨bb,off,none⟩) n cn] 34)).heap.size (w.alloc (.cells #[.int .i64 id,.int .i64 a,.int .i64 b,.int .i64 c,.slice (some ⟨bb,off,none⟩) n cn] 34)) w3:=by repeat (first | (with_reducible exact Below.refl _ _) | ((with_reducible refine Below.setCell ?_ ?_ _);rotate_left;(focus (first | omega | (simp;done) | (simp;omega)))) | ((with_reducible refine Below.alloc ?_ ?_ _);rotate_left;(focus (first | omega | (simp;done) | (simp;omega)))) | (with_reducible refine Below.drew ?_) | ((with_reducible refine Below.trans ?_ (Below.mono hb3 ?_));rotate_left;(focus (first | omega | (simp;done) | (simp;omega)))) | ((with_reducible refine Below.trans ?_ (Below.mono hB ?_));rotate_left;(focus (first | omega | (simp;done) | (simp;omega)))))
        go_wp2_with fail
        exact ⟨⟨k+1,by omega,by go_num,hB3,HQ⟩,by simp [intOf];omega⟩
      ·have HQ:Hid (M1.noneLater us a b=true):=M1.noneLater_yes (fun j hj=>hall.out j (by have:=hl1.out;omega))
       clear hall;go_wp2_with fail
       go_ret
       refine ⟨by rw [HQ.out];rfl,?_⟩;repeat (first | (with_reducible exact Below.refl _ _) | ((with_reducible refine Below.setCell ?_ ?_ _);rotate_left;(focus (first | omega | (simp;done) | (simp;omega)))) | ((with_reducible refine Below.alloc ?_ ?_ _);rotate_left;(focus (first | omega | (simp;done) | (simp;omega)))) | (with_reducible refine Below.drew ?_) | ((with_reducible refine Below.trans ?_ (Below.mono hB ?_));rotate_left;(focus (first | omega | (simp;done) | (simp;omega)))))
    ·replace q4:M1.setOk us=false:=by simpa using q4
     rw [M1.regOk_4 q4];have q3b:(c != id)=false:=by simp [q3]
     clear q3;go_enter Tryz.func54,Tryz.ntmps54
     go_wp2_with fail
     refine (inRange_any _ _ _ _).mono ?_;rw [q1];rintro e w0 ⟨rfl,rfl⟩;go_wp2_with fail
     refine (stampOk_impl _ _ _ _).mono ?_;rw [q2];rintro e w1 ⟨rfl,hb1⟩;obtain ⟨hc1,hf1⟩:=bcell hb1;have hs1:=hb1.size;simp at hs1
     have hs1a:w.heap.size<w1.heap.size:=by omega
     have hB1:Below w.heap.size w w1:=by repeat (first | (with_reducible exact Below.refl _ _) | ((with_reducible refine Below.setCell ?_ ?_ _);rotate_left;(focus (first | omega | (simp;done) | (simp;omega)))) | ((with_reducible refine Below.alloc ?_ ?_ _);rotate_left;(focus (first | omega | (simp;done) | (simp;omega)))) | (with_reducible refine Below.drew ?_) | ((with_reducible refine Below.trans ?_ (Below.mono hb1 ?_));rotate_left;(focus (first | omega | (simp;done) | (simp;omega)))))
     go_wp2_with fail
     refine (setOk_impl _ _ _ _ _ (h1.below hB1)).mono ?_;rw [q4];rintro e w2 ⟨rfl,hb2⟩;have hB2:=hb1.trans (hb2.mono hb1.size);clear hc1 hf1;obtain ⟨hc2,hf2⟩:=bcell hB2;have hs2:=hB2.size;simp at hs2
     have hs2a:w.heap.size<w2.heap.size:=by omega
     have hB2':Below w.heap.size w w2:=by repeat (first | (with_reducible exact Below.refl _ _) | ((with_reducible refine Below.setCell ?_ ?_ _);rotate_left;(focus (first | omega | (simp;done) | (simp;omega)))) | ((with_reducible refine Below.alloc ?_ ?_ _);rotate_left;(focus (first | omega | (simp;done) | (simp;omega)))) | (with_reducible refine Below.drew ?_) | ((with_reducible refine Below.trans ?_ (Below.mono hB2 ?_));rotate_left;(focus (first | omega | (simp;done) | (simp;omega)))))
     go_wp2_with fail
     go_ret
     refine ⟨rfl,?_⟩;exact hB2'
   ·have q3b:(c != id)=true:=by simp [q3]
    rw [M1.regOk_3 q3];clear q3;go_enter Tryz.func54,Tryz.ntmps54
    go_wp2_with fail
    refine (inRange_any _ _ _ _).mono ?_;rw [q1];rintro e w0 ⟨rfl,rfl⟩;go_wp2_with fail
    refine (stampOk_impl _ _ _ _).mono ?_;rw [q2];rintro e w1 ⟨rfl,hb1⟩;obtain ⟨hc1,hf1⟩:=bcell hb1;have hs1:=hb1.size;simp at hs1
    have hs1a:w.heap.size<w1.heap.size:=by omega
    have hB1:Below w.heap.size w w1:=by repeat (first | (with_reducible exact Below.refl _ _) | ((with_reducible refine Below.setCell ?_ ?_ _);rotate_left;(focus (first | omega | (simp;done) | (simp;omega)))) | ((with_reducible refine Below.alloc ?_ ?_ _);rotate_left;(focus (first | omega | (simp;done) | (simp;omega)))) | (with_reducible refine Below.drew ?_) | ((with_reducible refine Below.trans ?_ (Below.mono hb1 ?_));rotate_left;(focus (first | omega | (simp;done) | (simp;omega)))))
    go_wp2_with fail
    go_ret
    refine ⟨rfl,?_⟩;exact hB1
  ·replace q2:M1.stOk a b c=false:=by simpa using q2
   rw [M1.regOk_2 q2];go_enter Tryz.func54,Tryz.ntmps54
   go_wp2_with fail
   refine (inRange_any _ _ _ _).mono ?_;rw [q1];rintro e w0 ⟨rfl,rfl⟩;go_wp2_with fail
   refine (stampOk_impl _ _ _ _).mono ?_;rw [q2];rintro e w1 ⟨rfl,hb1⟩;obtain ⟨hc1,hf1⟩:=bcell hb1;have hs1:=hb1.size;simp at hs1
   have hs1a:w.heap.size<w1.heap.size:=by omega
   have hB1:Below w.heap.size w w1:=by repeat (first | (with_reducible exact Below.refl _ _) | ((with_reducible refine Below.setCell ?_ ?_ _);rotate_left;(focus (first | omega | (simp;done) | (simp;omega)))) | ((with_reducible refine Below.alloc ?_ ?_ _);rotate_left;(focus (first | omega | (simp;done) | (simp;omega)))) | (with_reducible refine Below.drew ?_) | ((with_reducible refine Below.trans ?_ (Below.mono hb1 ?_));rotate_left;(focus (first | omega | (simp;done) | (simp;omega)))))
   go_wp2_with fail
   go_ret
   refine ⟨rfl,?_⟩;exact hB1
 ·replace q1:M1.inB id 1 5=false:=by simpa using q1
  rw [M1.regOk_1 q1];go_enter Tryz.func54,Tryz.ntmps54
  go_wp2_with fail
  refine (inRange_any _ _ _ _).mono ?_;rw [q1];rintro e w0 ⟨rfl,rfl⟩;go_wp2_with fail
  go_ret
  refine ⟨rfl,?_⟩;exact bZ
end Go.Proofs.YtgcinolbkllkkaaGreat
