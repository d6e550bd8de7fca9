/-
  Texts of one proof, joined: Reg4, Wn1, Wn3, Bytes.
-/
import Derived.Test.YtgcinolbkllkkaaGreatZFConverged10
import Derived.Test.YtgcinolbkllkkaaGreatZFConverged36
set_option linter.unusedSimpArgs false
set_option linter.unusedVariables false
namespace Go.Proofs.YtgcinolbkllkkaaGreat
open Go.ChangeShapes Go.WideShapes Go.ChangeAt Go.RowKit
theorem regionNew_spec (id:Int)(w:World) :
  Calls Tryz.prog 80 #[.int .i64 id] w fun e w'=>e=.returned (.tuple #[.agg #[.int .i64 (if M1.inB id 1 5=true then id else 0),.int .i64 0,.int .i64 0,.int .i64 (if M1.inB id 1 5=true then id else 0),.slice none 0 0],.bool (M1.inB id 1 5)])∧Below w.heap.size w w':=by
 by_cases q1:M1.inB id 1 5=true
 ·rw [if_pos q1,q1]
  go_enter Tryz.func80,Tryz.ntmps80
  go_wp2_with fail
  refine (l1In_any _ _ _ _).mono ?_;rw [q1];rintro e w0 ⟨rfl,rfl⟩;go_wp2_with fail
  refine bodyPost_ret (v:=.tuple #[.agg #[.int .i64 id,.int .i64 0,.int .i64 0,.int .i64 id,.slice none 0 0],.bool true]) (by simp [results,Tryz.results80,go_sem]) rfl ⟨rfl,?_⟩;exact bZ
 ·rw [if_neg q1]
  replace q1:M1.inB id 1 5=false:=by simpa using q1
  rw [q1];go_enter Tryz.func80,Tryz.ntmps80
  go_wp2_with fail
  refine (l1In_any _ _ _ _).mono ?_;rw [q1];rintro e w0 ⟨rfl,rfl⟩;go_wp2_with fail
  refine bodyPost_ret (v:=.tuple #[.agg #[.int .i64 0,.int .i64 0,.int .i64 0,.int .i64 0,.slice none 0 0],.bool false]) (by simp [results,Tryz.results80,go_sem]) rfl ⟨rfl,?_⟩;exact bZ
def rcell (o:Nat):Value:=if o % 5=4 then .slice none 0 0 else if o % 5=0∨o % 5=3 then .int .i64 (((o / 5:Nat):Int)+1) else .int .i64 0
theorem rcell0 (p:Nat):rcell (p*5)=.int .i64 ((p:Int)+1):=by
 unfold rcell;rw [if_neg (by omega),if_pos (by omega),show p*5 / 5=p by omega]
theorem rcell1 (p:Nat):rcell (p*5+1)=.int .i64 0:=by
 unfold rcell;rw [if_neg (by omega),if_neg (by omega)]
theorem rcell2 (p:Nat):rcell (p*5+2)=.int .i64 0:=by
 unfold rcell;rw [if_neg (by omega),if_neg (by omega)]
theorem rcell3 (p:Nat):rcell (p*5+3)=.int .i64 ((p:Int)+1):=by
 unfold rcell;rw [if_neg (by omega),if_pos (by omega),show (p*5+3) / 5=p by omega]
theorem rcell4 (p:Nat):rcell (p*5+4)=.slice none 0 0:=by
 unfold rcell;rw [if_pos (by omega)]
def MG (w:World)(av:Option Addr)(n cap lo hi:Nat)(f:Nat→Value):Prop :=
 n≤cap∧cap≤maxLen∧((n=0∧av=none)∨∃ g,av=some ⟨g,0,none⟩∧lo≤g∧g<hi∧RowAt w g (n*5) f)
theorem MG.below {w w':World}{av:Option Addr}{n cap lo hi:Nat}{f:Nat→Value}(h:MG w av n cap lo hi f)(hb:Below w.heap.size w w'):MG w' av n cap lo hi f :=
 ⟨h.1,h.2.1,h.2.2.imp id fun ⟨g,e,h1,h2,r⟩=>⟨g,e,h1,h2,r.below hb⟩⟩
theorem owns_gr5 {w w':World}{base g:Nat}{e:TypeId}{size n:Nat}{v:Value}{xs:List Value}(h:w.ownsRow base e size v n xs)(hg:Gr g w w')(hb:g<base):w'.ownsRow base e size v n xs:=by
 obtain ⟨h1,h2⟩:=h;refine ⟨h1,h2.imp id fun ⟨k,cap,cur,hv,hk,hh,r⟩=>⟨k,cap,cur,hv,hk,?_,r⟩⟩;have hlt:k<w.heap.size:=by
  rcases Nat.lt_or_ge k w.heap.size with h | h
  ·exact h
  ·rw [Array.getElem?_eq_none h] at hh;cases hh
 rw [hg.block k hlt (fun e=>by injection e with e;omega)];exact hh
def rcs (i:Nat):List Value:=[.int .i64 ((i:Int)+1),.int .i64 0,.int .i64 0,.int .i64 ((i:Int)+1),.slice none 0 0]
def rcL:Nat→List Value
 | 0=>[]
 | k+1=>rcL k ++ rcs k
theorem rcL_len:∀ k,(rcL k).length=k*5
 | 0=>rfl
 | k+1=>by simp [rcL,rcs,rcL_len k];omega
theorem rcL_get:∀ (k o:Nat),o<k*5→(rcL k).getD o undef=rcell o
 | 0,o,h=>by omega
 | k+1,o,h=>by
  have hl:=rcL_len k;by_cases c:o<k*5
  ·have:=rcL_get k o c
   rw [←this];simp only [rcL,List.getD_eq_getElem?_getD];rw [List.getElem?_append_left (by omega)]
  ·simp only [rcL,List.getD_eq_getElem?_getD]
   rw [List.getElem?_append_right (by omega),hl];obtain ⟨j,rfl⟩:∃ j,o=k*5+j:=⟨o-k*5,by omega⟩
   have hj:j=0∨j=1∨j=2∨j=3∨j=4:=by omega
   rw [show k*5+j-k*5=j by omega];rcases hj with rfl | rfl | rfl | rfl | rfl
   ·exact (rcell0 k).symm
   ·exact (rcell1 k).symm
   ·exact (rcell2 k).symm
   ·exact (rcell3 k).symm
   ·exact (rcell4 k).symm
theorem MG.of_owns {w:World}{base n:Nat}{e:TypeId}{av:Option Addr}{cap:Nat}(h:w.ownsRow base e 5 (.slice av n cap) n (rcL n)):MG w av n cap base w.heap.size rcell:=by
 have h0:=h;obtain ⟨h1,h2⟩:=h;rcases h2 with ⟨e1,h3⟩ | ⟨g,cap',cur,e1,hg,hh,hn,hm,hs,ht⟩
 ·injection e1 with a1 a2 a3;subst a1;subst a2;subst a3
  exact ⟨Nat.le_refl _,by unfold maxLen;omega,Or.inl ⟨rfl,rfl⟩⟩
 ·injection e1 with a1 a2 a3;subst a1;subst a3
  have hr:=(RowAt.of_owns h0).same fun o ho=>rcL_get n o ho;exact ⟨hn,hm,Or.inr ⟨g,rfl,hg,hr.lt,hr⟩⟩
theorem infoReg0:(Tryz.prog.info? 34).map (fun i=>(i.zero,i.size,i.bytes))=some (some (.agg #[.int .i64 0,.int .i64 0,.int .i64 0,.int .i64 0,.slice none 0 0]),5,56):=by kernel_rfl
theorem infoReg:∃ i,Tryz.prog.info? 34=some i∧i.zero=some (.agg #[.int .i64 0,.int .i64 0,.int .i64 0,.int .i64 0,.slice none 0 0])∧i.size=5∧i.bytes=56:=by
 have h:=infoReg0
 cases e:Tryz.prog.info? 34 with
 | none=>rw [e] at h;cases h
 | some i=>rw [e] at h;simp at h;exact ⟨i,rfl,h.1,h.2.1,h.2.2⟩
theorem newsW5 (w:World)(x0 x1 x2 x3 x4:Value)(t:TypeId):∀ j u,[x0,x1,x2,x3,x4][j]?=some u→(w.alloc (.cells #[x0,x1,x2,x3,x4] t)).cell? ((⟨w.heap.size,0,none⟩:Addr).add j)=some u:=by
 intro j u hu
 match j,hu with
 | 0,hu=>simp at hu;subst hu;simp [Addr.add]
 | 1,hu=>simp at hu;subst hu;simp [Addr.add]
 | 2,hu=>simp at hu;subst hu;simp [Addr.add]
 | 3,hu=>simp at hu;subst hu;simp [Addr.add]
 | 4,hu=>simp at hu;subst hu;simp [Addr.add]
 | j+5,hu=>simp at hu
theorem one5 (i:Nat):∀ v∈rcs i,v.oneCell'=true:=by
 intro v hv;simp [rcs] at hv
 rcases hv with rfl | rfl | rfl | rfl | rfl <;> rfl
theorem rowgr {a b:World}{g m:Nat}{f:Nat→Value}{row:Option Nat}(h:RowAt a g m f)(hg:a.grownBy b row)(hn:∀ k,row=some k→¬k=g):RowAt b g m f:=by
 have e:=hg.block g h.lt (fun e=>hn g e.symm rfl);exact ⟨Nat.lt_of_lt_of_le h.1 hg.size,fun o ho=>⟨(World.cell?_of_block (w:=a) (a:=⟨g,o,none⟩) e).trans (h.2 o ho).1,(World.frozen?_of_block (w:=a) (a:=⟨g,o,none⟩) e).trans (h.2 o ho).2⟩⟩
def wc (v:Value)(o:Nat):Value:=if o=1 then v else if o=0 then .int .i64 0 else .slice none 0 0
theorem wc_new (w:World)(t:TypeId):RowAt (w.alloc (.cells #[.int .i64 0,.slice none 0 0,.slice none 0 0] t)) w.heap.size 3 (wc (.slice none 0 0)) :=
 (RowAt.new w #[.int .i64 0,.slice none 0 0,.slice none 0 0] t).same fun o ho=>by
  match o,ho with
  | 0,_=>rfl
  | 1,_=>rfl
  | 2,_=>rfl
def WN (w w':World)(e:Ending)(r:Int):Prop:=∃ (av:Option Addr) (n cap:Nat),e=.returned (.tuple #[.agg #[.int .i64 0,.slice av n cap,.slice none 0 0],.bool (M1.inB r 2 5)])∧n=(if M1.inB r 2 5=true then r.toNat else 0)∧MG w' av n cap w.heap.size w'.heap.size rcell∧Below w.heap.size w w'
theorem MG.wide {w:World}{av:Option Addr}{n cap lo hi lo2:Nat}{f:Nat→Value}(h:MG w av n cap lo hi f)(hl:lo2≤lo):MG w av n cap lo2 hi f :=
 ⟨h.1,h.2.1,h.2.2.imp id fun ⟨g,e,h1,h2,r⟩=>⟨g,e,by omega,h2,r⟩⟩
structure WnR (w wr:World)(av:Option Addr)(K cap:Nat):Prop where
 r0:RowAt wr w.heap.size 3 (wc (.slice none 0 0))
 r1:RowAt wr (w.heap.size+1) 3 (wc (.slice av K cap))
 own:wr.ownsRow (w.heap.size+2) 34 5 (.slice av K cap) K (rcL K)
 bl:Below w.heap.size w wr
theorem WnR.below {w wr w':World}{av:Option Addr}{K cap:Nat}(h:WnR w wr av K cap)(hb:Below wr.heap.size wr w'):WnR w w' av K cap :=
 ⟨h.r0.below hb,h.r1.below hb,owns_below h.own hb,h.bl.trans (hb.mono h.bl.size)⟩
set_option maxHeartbeats 32000000 in
set_option maxRecDepth 100000 in
theorem worldNew_spec (r:Int)(w:World) :
  Calls Tryz.prog 49 #[.int .i64 r] w fun e w'=>WN w w' e r:=by
 obtain ⟨ti,hi1,hi2,hi3,hi4⟩:=infoReg;have hi4':Hid (ti.bytes=56):=hi4;have hi2':Hid (ti.zero=some (.agg #[.int .i64 0,.int .i64 0,.int .i64 0,.int .i64 0,.slice none 0 0])):=hi2;have hi3':Hid (ti.size=5):=hi3;have hi1':Hid (Tryz.prog.info? 34=some ti):=hi1;clear hi1 hi2 hi3 hi4;by_cases q1:M1.inB r 2 5=true
 ·have hr:=M1.inB_true q1
  have Q:Hid (M1.inB r 2 5=true):=q1;go_enter Tryz.func49,Tryz.ntmps49
  go_wp2_with fail
  refine (l1In_any _ _ _ _).mono ?_;rw [q1];clear q1;rintro e w0 ⟨rfl,rfl⟩;obtain ⟨R,hR⟩:∃ R:Nat,r=(R:Int):=⟨r.toNat,by omega⟩
  subst hR;go_wp2_with fail
  obtain ⟨W1,hW1⟩:∃ W,W=((w.alloc (.cells #[.int .i64 0,.slice none 0 0,.slice none 0 0] 27)).alloc (.cells #[.int .i64 0,.slice none 0 0,.slice none 0 0] 27)):=⟨_,rfl⟩
  have S0:WnR w W1 none 0 0:=by
   rw [hW1];refine ⟨(wc_new w _).alloc _,?_,⟨rfl,Or.inl ⟨rfl,rfl⟩⟩,((Below.refl _ _).alloc (Nat.le_refl _) _).alloc (by simp) _⟩;have q:=wc_new (w.alloc (.cells #[.int .i64 0,.slice none 0 0,.slice none 0 0] 27)) 27
   simpa using q
  rw [←hW1];clear hW1;go_loopw [5] (fun i wr=>∃ (K:Nat) (av:Option Addr) (cap:Nat),K≤R∧i=.int .i64 ((K:Int)+1)∧WnR w wr av K cap) (fun i _=>R+1-(intOf i).toNat)
  case atStart=>exact ⟨0,none,0,Nat.zero_le _,rfl,S0⟩
  case round =>
   clear S0;obtain ⟨K,av,cap,hK,rfl,hS⟩:=hrel;have hl1:=hS.r1.lt;have hl0:=hS.r0.lt;by_cases hlt:K<R
   ·have i1:(K:Int)+1≤(R:Int):=by omega
    have hin:M1.inB ((K:Int)+1) 1 5=true:=by unfold M1.inB;simp;omega
    have c2:=regionNew_spec ((K:Int)+1) wr;rw [hin,if_pos rfl] at c2;clear hin;go_wp2_with fail
    refine c2.mono ?_;clear c2;rintro e w2 ⟨rfl,hb2⟩;have S2:=hS.below hb2;have hs2:=hb2.size;have hl2:=S2.r1.lt;clear hS hb2;have d1:=S2.r1.cell (o:=1) (by omega);simp only [wc,if_true] at d1;have hown:=owns_below (owns_below S2.own ((Below.refl _ _).alloc (Nat.le_refl _) (.cells #[.int .i64 ((K:Int)+1),.int .i64 0,.int .i64 0,.int .i64 ((K:Int)+1),.slice none 0 0] 34))) ((Below.refl _ _).alloc (Nat.le_refl _) (.cells #[.int .i64 ((K:Int)+1),.int .i64 0,.int .i64 0,.int .i64 ((K:Int)+1),.slice none 0 0] 34));have hnews:∀ j u,(rcs K)[j]?=some u→((w2.alloc (.cells #[.int .i64 ((K:Int)+1),.int .i64 0,.int .i64 0,.int .i64 ((K:Int)+1),.slice none 0 0] 34)).alloc (.cells #[.int .i64 ((K:Int)+1),.int .i64 0,.int .i64 0,.int .i64 ((K:Int)+1),.slice none 0 0] 34)).cell? ((⟨w2.heap.size+1,0,none⟩:Addr).add j)=some u:=by
     have q:=newsW5 (w2.alloc (.cells #[.int .i64 ((K:Int)+1),.int .i64 0,.int .i64 0,.int .i64 ((K:Int)+1),.slice none 0 0] 34)) (.int .i64 ((K:Int)+1)) (.int .i64 0) (.int .i64 0) (.int .i64 ((K:Int)+1)) (.slice none 0 0) 34;have ez:(w2.alloc (.cells #[.int .i64 ((K:Int)+1),.int .i64 0,.int .i64 0,.int .i64 ((K:Int)+1),.slice none 0 0] 34)).heap.size=w2.heap.size+1:=by simp
     rw [ez] at q;exact q
    go_wp2_with (at_builtin;refine wpList_append_lies _ rfl _ _ _ rfl (w.heap.size+2) 34 ti _ 5 56 Tryz.underlying24 hi1'.out hi2'.out hi3'.out hi4'.out rfl (by omega) (.slice av K cap) K (rcL K) rfl hown ⟨w2.heap.size+1,0,none⟩ 1 1 (rcs K) rfl rfl hnews (one5 _) (by omega) (by unfold maxLen;omega) (by omega) (by simp;omega) _ rfl ?_;intro g4 cap4 w4 hown4 hgrow4 hat4 hlt4;have hbs:∀ k,(Value.slice av K cap).ownBlock=some k→w.heap.size+2≤k:=owns_base S2.own;have R1:=rowgr ((S2.r1.alloc _).alloc _) hgrow4 (fun k e=>by have:=hbs k e;omega);have l4:=R1.lt;have d4:=R1.cell (o:=1) (by omega);have y4:=R1.free (o:=1) (by omega))
    have R0:=rowgr ((S2.r0.alloc _).alloc _) hgrow4 (fun k e=>by have:=hbs k e;omega);have B4:=((S2.bl.alloc S2.bl.size (.cells #[.int .i64 ((K:Int)+1),.int .i64 0,.int .i64 0,.int .i64 ((K:Int)+1),.slice none 0 0] 34)).alloc (by have:=S2.bl.size;simp;omega) (.cells #[.int .i64 ((K:Int)+1),.int .i64 0,.int .i64 0,.int .i64 ((K:Int)+1),.slice none 0 0] 34)).grown hgrow4 (by have:=S2.bl.size;simp;omega) (fun k e=>by have:=hbs k e;omega);have G5:=gr_set (gr_refl (w.heap.size+1) w4) 1 (.slice (some ⟨g4,0,none⟩) (K+1) cap4);refine ⟨⟨K+1,some ⟨g4,0,none⟩,cap4,by omega,by go_num,⟨R0.far (by show w.heap.size+1≠w.heap.size;omega) _,(R1.set (o:=1) (by omega) _).same fun o ho=>?_,owns_gr5 hown4 G5 (by omega),B4.trans (gr_to G5 B4.size (by omega))⟩⟩,by simp [intOf];omega⟩;by_cases e:o=1
    ·simp [wc,e]
    ·simp [wc,e]
   ·have i1:¬(K:Int)+1≤(R:Int):=by omega
    have hKR:K=R:=by omega
    subst hKR;have d0:=hS.r1.cell (o:=0) (by omega);have d1:=hS.r1.cell (o:=1) (by omega);have d2:=hS.r1.cell (o:=2) (by omega);have c0:=hS.r0.cell (o:=0) (by omega);have c1:=hS.r0.cell (o:=1) (by omega);have c2:=hS.r0.cell (o:=2) (by omega);have y0:=hS.r0.free (o:=0) (by omega);have y1:=hS.r0.free (o:=1) (by omega);have y2:=hS.r0.free (o:=2) (by omega);simp only [wc] at d0 d1 d2 c0 c1 c2;go_wp2_with fail
    have G3:=gr_set (gr_set (gr_set (gr_refl w.heap.size wr) 0 (.int .i64 0)) 1 (.slice av K cap)) 2 (.slice none 0 0);have R3:=((hS.r0.set (o:=0) (by omega) (.int .i64 0)).set (o:=1) (by omega) (.slice av K cap)).set (o:=2) (by omega) (.slice none 0 0);have B3:=hS.bl.trans (gr_to G3 hS.bl.size (Nat.le_refl _));have O3:=MG.of_owns (owns_gr5 hS.own G3 (by omega));obtain ⟨W3,hW3⟩:∃ W,W=(((wr.setCell ⟨w.heap.size,0,none⟩ (.int .i64 0)).setCell ⟨w.heap.size,1,none⟩ (.slice av K cap)).setCell ⟨w.heap.size,2,none⟩ (.slice none 0 0)):=⟨_,rfl⟩
    rw [←hW3] at G3 R3 B3 O3 ⊢;clear hW3 G3 d0 d1 d2 c0 c1 c2 y0 y1 y2;have d0:=R3.cell (o:=0) (by omega);have d1:=R3.cell (o:=1) (by omega);have d2:=R3.cell (o:=2) (by omega);simp at d0 d1 d2
    refine bodyPost_ret (v:=.tuple #[.agg #[.int .i64 0,.slice av K cap,.slice none 0 0],.bool true]) (by simp [results,Tryz.results49,go_sem,d0,d1,d2]) rfl ?_;exact ⟨av,K,cap,by rw [Q.out],by rw [if_pos Q.out];simp,O3.wide (by omega),B3⟩
 ·replace q1:M1.inB r 2 5=false:=by simpa using q1
  have Q:Hid (M1.inB r 2 5=false):=q1;go_enter Tryz.func49,Tryz.ntmps49
  go_wp2_with fail
  refine (l1In_any _ _ _ _).mono ?_;rw [q1];clear q1;rintro e w0 ⟨rfl,rfl⟩;go_wp2_with fail
  refine bodyPost_ret (v:=.tuple #[.agg #[.int .i64 0,.slice none 0 0,.slice none 0 0],.bool false]) (by simp [results,Tryz.results49,go_sem]) rfl ?_;refine ⟨none,0,0,by rw [Q.out],by rw [Q.out];rfl,⟨Nat.le_refl _,Nat.zero_le _,Or.inl ⟨rfl,rfl⟩⟩,?_⟩;exact bZ
end Go.Proofs.YtgcinolbkllkkaaGreat
namespace Go.Proofs.YtgcinolbkllkkaaGreat
open Go.ChangeShapes Go.WideShapes Go.ChangeAt Go.RowKit
set_option maxRecDepth 100000
structure IsBytes (w:World)(av:Option Addr)(len cap:Nat):Prop where
 hc:len≤cap
 hm:cap≤maxLen
 lies:len=0∨∃ b off,av=some ⟨b,off,none⟩∧b<w.heap.size∧∀ i,i<len→∃ z,w.cell? ⟨b,off+i,none⟩=some (.int .u8 z)∧0≤z∧z≤255
theorem IsBytes.below {w w':World}{av:Option Addr}{len cap:Nat}(h:IsBytes w av len cap){B:Nat}(hB:w.heap.size≤B)(hb:Below B w w'):IsBytes w' av len cap :=
 ⟨h.hc,h.hm,h.lies.imp id fun ⟨b,off,e,hlt,hz⟩=>⟨b,off,e,Nat.lt_of_lt_of_le hlt hb.size,fun i hi=>let ⟨z,h2,h3⟩:=hz i hi;⟨z,(hb.cell (p:=⟨b,off+i,none⟩) (by show b<B;omega)).trans h2,h3⟩⟩⟩
theorem open_bytes {H:Type}{enc:TypeId × Value→H}{W:World}{fuel len cap:Nat}{a:Option Addr}{x:DataW H × List MemPlace}
  (hf:DataW.trod enc Tryz.prog W 0 (fun _=>true) true fuel 22 (Value.slice a len cap).cells.toList=some x):IsBytes W a len cap:=by
 rcases open_ints Tryz.underlying22 Tryz.underlying5 (by kernel_rfl) hf with ⟨hcs,_⟩ | ⟨y,l,c,zs,hcs,_,hl,hm,hz,_,hcell,hwz⟩
 ·simp [Value.cells] at hcs
  obtain ⟨rfl,rfl,rfl⟩:=hcs;exact ⟨Nat.le_refl _,Nat.zero_le _,Or.inl rfl⟩
 ·simp [Value.cells] at hcs
  obtain ⟨rfl,rfl,rfl⟩:=hcs;have hz':zs.length=cap:=by simpa using hz
  refine ⟨hl,hm,?_⟩;rcases Nat.eq_zero_or_pos len with h0 | h0
  ·exact Or.inl h0
  ·obtain ⟨b,off,rfl,hc⟩:=ints_at hcell (by omega)
   refine Or.inr ⟨b,off,rfl,World.block_lt_of_cell? W _ (hc 0 (by omega)),fun i hi=>⟨zs.getD i 0,hc i (by omega),?_⟩⟩;have hw:=bounds_u8 (hwz (zs.getD i 0) (by simp [List.getD,show i<zs.length from by omega]));exact hw
theorem l1Open_any (av:Option Addr)(len cap:Nat)(w:World)(h:IsBytes w av len cap) :
  Calls Tryz.prog 20 #[.slice av len cap] w fun e w'=>e=.returned (.pointer (some ⟨w.heap.size,0,none⟩))∧Rdr w' w.heap.size av len cap∧Below w.heap.size w w':=by
 go_enter Tryz.func20,Tryz.ntmps20
 go_wp2
 go_ret
 have hr:=RowAt.new w #[.slice av len cap,.int .i64 0] 103;refine ⟨rfl,⟨by simp,hr.cell (o:=0) (by simp),⟨0,Nat.zero_le _,hr.cell (o:=1) (by simp)⟩,hr.free (o:=0) (by simp),hr.free (o:=1) (by simp),h.hc,h.hm,?_⟩,(Below.refl _ _).alloc (Nat.le_refl _) _⟩;have hb:Below w.heap.size w (w.alloc (.cells #[.slice av len cap,.int .i64 0] 103)):=(Below.refl _ _).alloc (Nat.le_refl _) _;exact h.lies.imp id fun ⟨b,off,e,hlt,hz⟩=>⟨b,off,e,by simp;omega,by omega,fun i hi=>let ⟨z,h2,h3⟩:=hz i hi;⟨z,(hb.cell (p:=⟨b,off+i,none⟩) hlt).trans h2,h3⟩⟩
end Go.Proofs.YtgcinolbkllkkaaGreat
