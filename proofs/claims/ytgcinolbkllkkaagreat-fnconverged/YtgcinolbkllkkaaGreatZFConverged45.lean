/-
  Texts of one proof, joined: Sp5.
-/
import Derived.Test.YtgcinolbkllkkaaGreatZFConverged44
import Derived.Test.YtgcinolbkllkkaaGreatZFConverged22
set_option linter.unusedSimpArgs false
set_option linter.unusedVariables false
namespace M1
def mpL (xs:List Upd):List Upd:=xs.foldl mpS []
theorem mpL_snoc (xs:List Upd)(u:Upd):mpL (xs ++ [u])=mpS (mpL xs) u:=by simp [mpL]
theorem mpTo_eq (us:List Upd)(tr:Int):∀ k,mpTo us tr k=mpL (ofT 1 tr us k)
 | 0=>rfl
 | k+1=>by
  unfold mpTo ofT
  split
  ·rw [mpL_snoc,←mpTo_eq us tr k]
  ·exact mpTo_eq us tr k
end M1
namespace Go.Proofs.YtgcinolbkllkkaaGreat
open Go.ChangeShapes Go.WideShapes Go.ChangeAt Go.RowKit Go.Shelf
attribute [local go_sem] Oper.semAt_some run_makeMap
def lenS:Value→Nat
 | .slice _ n _=>n
 | _=>0
theorem owns_lenS {w:World}{base:Nat}{e:TypeId}{size n:Nat}{v:Value}{xs:List Value}(h:w.ownsRow base e size v n xs):lenS v=n∧∃ a c,v=.slice a n c:=by
 rcases h.2 with ⟨rfl,rfl⟩ | ⟨g,cap,cur,rfl,_⟩
 ·exact ⟨rfl,_,_,rfl⟩
 ·exact ⟨rfl,_,_,rfl⟩
theorem up_getS {l:List M1.Upd}{i:Nat}(h:i<l.length):M1.up l i=l[i]:=by simp [M1.up,List.getD,h]
theorem owns_grS {w w':World}{base g:Nat}{e:TypeId}{size n:Nat}{v:Value}{xs:List Value}(h:w.ownsRow base e size v n xs)(hg:Gr g w w')(hb:g<base):w'.ownsRow base e size v n xs:=by
 obtain ⟨h1,h2⟩:=h;refine ⟨h1,h2.imp id fun ⟨k,cap,cur,hv,hk,hh,r⟩=>⟨k,cap,cur,hv,hk,?_,r⟩⟩;have hlt:k<w.heap.size:=by
  rcases Nat.lt_or_ge k w.heap.size with h | h
  ·exact h
  ·rw [Array.getElem?_eq_none h] at hh;cases hh
 rw [hg.block k hlt (fun e=>by injection e with e;omega)];exact hh
theorem mapJ_ownFrom {β:Type}(b B:Nat)(hb:b<B)(f:β→List M1.Upd):OwnFrom B (fun s W=>MapJ W b (f s)):=fun s X Y row hs hg hr =>
 hs.block (hg.block b hs.lt (fun e=>by have:=(hr b e.symm).1;omega))
theorem field4 (x0 x1 x2 x3 x4 x5 x6 x7 x8 x9 x10 x11 x12:Value)(w:World):(Instr.field 72 (.agg #[x0,x1,x2,x3,x4,x5,x6,x7,x8,x9,x10,x11,x12]) 4).run Tryz.prog w=.ok (.agg #[x7,x8,x9,x10,x11]) w:=by kernel_rfl
theorem RowAt.put {w:World}{g m D:Nat}{f:Nat→Value}{o:Obj}(h:RowAt w g m f)(hn:¬D=g):RowAt (w.putObj D o) g m f:=by
 have hb:(w.putObj D o).heap[g]?=w.heap[g]?:=by simp [World.putObj,hn]
 refine ⟨by have:=h.1;simp [World.putObj];exact this,fun k hk=>?_⟩;have:=h.2 k hk;simp only [World.cell?,World.frozen?,hb] at this ⊢;exact this
theorem cell_of_block {w w':World}{b:Nat}(h:w'.heap[b]?=w.heap[b]?)(o:Nat):w'.cell? ⟨b,o,none⟩=w.cell? ⟨b,o,none⟩:=by simp [World.cell?,h]
theorem kpI_upd {n₀ B m:Nat}{W W':World}(hg:W.grownBy W' (some m))(h1:n₀≤W.heap.size)(h2:B+3≤W.heap.size)(h3:n₀≤m)(h4:m<B):KpI n₀ B W W' :=
 ⟨(Below.refl _ _).grown hg h1 (fun k e=>by injection e with e;omega),fun b o hb hb2=>cell_of_block (hg.block b (by omega) (fun e=>by injection e with e;omega)) o⟩
set_option maxRecDepth 100000 in
set_option maxHeartbeats 64000000 in
theorem spansOf_impl (av:Option Addr)(n cn:Nat)(us:List M1.Upd)(tr:Int)(w:World)(h1:IsUpds w av n cn us) :
  Calls Tryz.prog 36 #[.slice av n cn,.int .i64 tr] w fun e w'=>SpW w w' e (M1.sps us tr)∧Below w.heap.size w w':=by
 have hl1:Hid (us.length=n):=h1.hlen;refine (callsIn_wide (n:=6)).1 ?_;by_cases hs:M1.setOk us=true
 ·have HT:Hid (M1.sps us tr=M1.spTo us tr n):=(by unfold M1.sps;rw [if_pos hs,hl1.out]:M1.sps us tr=M1.spTo us tr n)
  have HOK:Hid (M1.setOk us=true):=hs;refine callsIn_of_wp_marks Tryz.func36 rfl trivial ?_ rfl;simp only [Tryz.ntmps36,List.size_toArray,List.length_cons,List.length_nil,Nat.reduceAdd,Nat.reduceSub,Array.replicate_succ,Array.replicate_zero,List.push_toArray,List.append_toArray,List.nil_append,List.cons_append]
  gi_wp2_with fail
  refine ⟨trivial,?_⟩;refine (callsIn_wide.2 (setOk_impl _ _ _ _ _ h1)).mono ?_;rw [hs];clear hs;rintro e w1 ⟨rfl,hb1⟩
  gi_wp2_with fail
  refine ⟨trivial,?_⟩;refine (ofTrace_in Fence.wide 5 trivial rfl _ _ _ _ _ _).mono ?_;rintro e w2 ⟨rfl,rfl⟩;simp only [World.size_alloc];have hs1:=hb1.size;have bM:MapJ (((((w1.alloc (.map #[] 0)).alloc (.cells #[.map (some w1.heap.size)] 121)).alloc (.cells #[.slice av n cn] 32)).alloc (.cells #[.int .i64 1] 2)).alloc (.cells #[.int .i64 tr] 2)) w1.heap.size []:=(MapJ.made w1).below (((((Below.refl _ _).alloc (Nat.le_refl _) _).alloc (by simp) _).alloc (by simp) _).alloc (by simp) _) (by simp);have bL:=(((Boxed.new (w1.alloc (.map #[] 0)) 121 (.map (some w1.heap.size))).alloc (.cells #[.slice av n cn] 32)).alloc (.cells #[.int .i64 1] 2)).alloc (.cells #[.int .i64 tr] 2);have b0:=((Boxed.new ((w1.alloc (.map #[] 0)).alloc (.cells #[.map (some w1.heap.size)] 121)) 32 (.slice av n cn)).alloc (.cells #[.int .i64 1] 2)).alloc (.cells #[.int .i64 tr] 2);have b1:=(Boxed.new (((w1.alloc (.map #[] 0)).alloc (.cells #[.map (some w1.heap.size)] 121)).alloc (.cells #[.slice av n cn] 32)) 2 (.int .i64 1)).alloc (.cells #[.int .i64 tr] 2);have b2:=Boxed.new ((((w1.alloc (.map #[] 0)).alloc (.cells #[.map (some w1.heap.size)] 121)).alloc (.cells #[.slice av n cn] 32)).alloc (.cells #[.int .i64 1] 2)) 2 (.int .i64 tr);simp only [World.size_alloc] at bL b0 b1 b2;have hB0:Below w.heap.size w (((((w1.alloc (.map #[] 0)).alloc (.cells #[.map (some w1.heap.size)] 121)).alloc (.cells #[.slice av n cn] 32)).alloc (.cells #[.int .i64 1] 2)).alloc (.cells #[.int .i64 tr] 2)):=((((hb1.alloc hb1.size _).alloc (by simp;omega) _).alloc (by simp;omega) _).alloc (by simp;omega) _).alloc (by simp;omega) _;have hsz:(((((w1.alloc (.map #[] 0)).alloc (.cells #[.map (some w1.heap.size)] 121)).alloc (.cells #[.slice av n cn] 32)).alloc (.cells #[.int .i64 1] 2)).alloc (.cells #[.int .i64 tr] 2)).heap.size=w1.heap.size+5:=by simp
  obtain ⟨W0,hW0⟩:∃ W0,(((((w1.alloc (.map #[] 0)).alloc (.cells #[.map (some w1.heap.size)] 121)).alloc (.cells #[.slice av n cn] 32)).alloc (.cells #[.int .i64 1] 2)).alloc (.cells #[.int .i64 tr] 2))=W0:=⟨_,rfl⟩
  rw [hW0] at bM bL b0 b1 b2 hB0 hsz ⊢;clear hW0
  gi_wp2_with fail
  refine wpIn_rangeFunc_ownH rfl (by omega) (gf:=73) (lb:=#[.pointer (some ⟨w1.heap.size+1+1,0,none⟩),.pointer (some ⟨w1.heap.size+1+1+1,0,none⟩),.pointer (some ⟨w1.heap.size+1+1+1+1,0,none⟩)]) rfl trivial (enters_of Tryz.func73 (by kernel_rfl) rfl)
   (ofTrace_stops Fence.wide _ trivial rfl (by omega) (w1.heap.size+1+1) av n cn 1 tr us w h1 W0 hB0 (by omega) b0.cell b1.cell b2.cell) kpI_t (kpI_put (by omega) (by omega)) (Below.refl _ _) (fun _=>rfl)
   (fun pre W=>(((MapJ W w1.heap.size (M1.mpL pre))∧Boxed W (w1.heap.size+1) 121 (.map (some w1.heap.size)))∧Below w.heap.size w W)∧W0.heap.size≤W.heap.size)
   (fun _ _ _=>False)
   (OwnFrom.and (OwnFrom.and (OwnFrom.and (mapJ_ownFrom _ _ (by omega) _) (Own.from (boxed_own _ _ _) _)) (ownFrom_below (Nat.le_refl _) (by omega))) (fun _ _ _ _ hs hg _=>Nat.le_trans hs hg.size))
   (fun _ _ _ _ _ hs _ _=>hs)
   ⟨⟨⟨bM,bL⟩,hB0⟩,Nat.le_refl _⟩
   (fun x a' W=>∃ Bx,w1.heap.size+4<Bx∧UBox W Bx x∧a'={ tmps:=#[.slice av n cn,.int .i64 tr,undef,undef,.slice none 0 0,.pointer (some ⟨w1.heap.size+1,0,none⟩),.pointer (some ⟨Bx,0,none⟩),undef,undef,undef,undef,undef,.slice av n cn,.bool true,.bool false,.map (some w1.heap.size),.slice av n cn,.int .i64 tr,.func (.func 73) #[] #[.pointer (some ⟨w1.heap.size+1+1,0,none⟩),.pointer (some ⟨w1.heap.size+1+1+1,0,none⟩),.pointer (some ⟨w1.heap.size+1+1+1+1,0,none⟩)],.agg #[.int .i64 x.dr,.int .i64 x.dn,.int .i64 x.sw,.int .i64 x.sc,.int .i64 x.sr,.int .i64 x.k,.int .i64 x.tr,.int .i64 x.id,.int .i64 x.pa,.string x.s,.int .i64 x.st,.int .i64 x.en,.int .i64 x.lv],undef,undef,undef,undef,undef,undef,undef,undef,undef,undef,undef,undef,undef,undef,undef,undef,undef,undef,undef,undef,undef,undef,undef,undef,undef,undef,undef,undef,undef,undef,undef,undef,undef,undef,undef,undef,undef],defers:=[] })
   (fun x a' _ X Y row hs hg hr=>by obtain ⟨Bx,h1,h2,h3⟩:=hs;exact ⟨Bx,h1,ubox_own Bx (fun (_:Unit)=>x) () X Y row h2 hg (fun r e=>(hr r e).2),h3⟩)
   ?assign ?body ?done ?stop
  case assign =>
   rintro l pre x W K ⟨⟨⟨bM1,bL1⟩,hB1⟩,hz1⟩ hK
   gi_wp2
   exact hK _ _ ((KeepsOthers.alloc _ _).from _) (kpI_alloc hB1.size (by omega) _) ⟨⟨⟨bM1.below ((Below.refl _ _).alloc (Nat.le_refl _) _) bM1.lt,bL1.alloc _⟩,hB1.alloc hB1.size _⟩,by simp;omega⟩ ⟨W.heap.size,by omega,UBox.new W x,rfl⟩
  case body =>
   rintro l pre x a' W hl ⟨r,hr⟩ ⟨⟨⟨bM1,bL1⟩,hB1⟩,hz1⟩ ⟨Bx,hBx,bX,rfl⟩ hlt;have cL:=bL1.cell;have hbx:=bX.lt;have cx0:W.cell? ⟨Bx,0,none⟩=some (.int .i64 x.dr):=by simp [World.cell?,show W.heap[Bx]?=_ from bX]
   have cx1:W.cell? ⟨Bx,1,none⟩=some (.int .i64 x.dn):=by simp [World.cell?,show W.heap[Bx]?=_ from bX]
   have cx2:W.cell? ⟨Bx,2,none⟩=some (.int .i64 x.sw):=by simp [World.cell?,show W.heap[Bx]?=_ from bX]
   have cx3:W.cell? ⟨Bx,3,none⟩=some (.int .i64 x.sc):=by simp [World.cell?,show W.heap[Bx]?=_ from bX]
   have cx4:W.cell? ⟨Bx,4,none⟩=some (.int .i64 x.sr):=by simp [World.cell?,show W.heap[Bx]?=_ from bX]
   have cx5:W.cell? ⟨Bx,5,none⟩=some (.int .i64 x.k):=by simp [World.cell?,show W.heap[Bx]?=_ from bX]
   have cx6:W.cell? ⟨Bx,6,none⟩=some (.int .i64 x.tr):=by simp [World.cell?,show W.heap[Bx]?=_ from bX]
   have cx7:W.cell? ⟨Bx,7,none⟩=some (.int .i64 x.id):=by simp [World.cell?,show W.heap[Bx]?=_ from bX]
   have cx8:W.cell? ⟨Bx,8,none⟩=some (.int .i64 x.pa):=by simp [World.cell?,show W.heap[Bx]?=_ from bX]
   have cx9:W.cell? ⟨Bx,9,none⟩=some (.string x.s):=by simp [World.cell?,show W.heap[Bx]?=_ from bX]
   have cx10:W.cell? ⟨Bx,10,none⟩=some (.int .i64 x.st):=by simp [World.cell?,show W.heap[Bx]?=_ from bX]
   have cx11:W.cell? ⟨Bx,11,none⟩=some (.int .i64 x.en):=by simp [World.cell?,show W.heap[Bx]?=_ from bX]
   have cx12:W.cell? ⟨Bx,12,none⟩=some (.int .i64 x.lv):=by simp [World.cell?,show W.heap[Bx]?=_ from bX]
   have hlk:=run_lookupJ bM1 x.id
   cases hf:M1.fj (M1.mpL pre) x.id with
   | none =>
    rw [hf] at hlk;have hfH:Hid (M1.fj (M1.mpL pre) x.id=none):=hf;clear hf;simp only [Option.getD_none,Option.isSome_none,uv,M1.zeroU] at hlk;have hA:Below W.heap.size W (W.alloc (.cells #[.int .i64 0,.int .i64 0,.int .i64 0,.int .i64 0,.int .i64 0,.int .i64 0,.int .i64 0,.int .i64 0,.int .i64 0,.string ByteArray.empty,.int .i64 0,.int .i64 0,.int .i64 0] 72)):=(Below.refl _ _).alloc (Nat.le_refl _) _;obtain ⟨w5,hrun,hM5,hg5⟩:=run_updateJ_new (bM1.below hA bM1.lt) x hfH.out;simp only [uv] at hrun;obtain ⟨hcA,hfA⟩:=bcell hA;have lt1:w1.heap.size+1<W.heap.size:=by omega
    gi_wp2_with fail
    refine ⟨trivial,?_⟩
    gi_wp2_with fail
    have hML:Hid (M1.mpL (pre ++ [x])=M1.mpL pre ++ [x]):=(by rw [M1.mpL_snoc,M1.mpS_none hfH.out]:_=_)
    refine ⟨((KeepsOthers.alloc _ _).from _).trans (KeepsFrom.of_grownBy hg5 (fun j e=>by injection e with e;omega)),kpI_t (kpI_alloc hB1.size (by omega) _) (kpI_upd hg5 (by simp;omega) (by simp;omega) (by omega) (by omega)),⟨⟨by rw [hML.out];exact hM5,(bL1.alloc _).kept hg5 (fun e=>by injection e with e;omega)⟩,(hB1.alloc hB1.size _).grown hg5 (by simp;omega) (fun k e=>by injection e with e;omega)⟩,by have:=hg5.size;simp at this;omega⟩
   | some y =>
    rw [hf] at hlk;have hfH:Hid (M1.fj (M1.mpL pre) x.id=some y):=hf;clear hf;simp only [Option.getD_some,Option.isSome_some,uv] at hlk;have hA:Below W.heap.size W (W.alloc (.cells #[.int .i64 y.dr,.int .i64 y.dn,.int .i64 y.sw,.int .i64 y.sc,.int .i64 y.sr,.int .i64 y.k,.int .i64 y.tr,.int .i64 y.id,.int .i64 y.pa,.string y.s,.int .i64 y.st,.int .i64 y.en,.int .i64 y.lv] 72)):=(Below.refl _ _).alloc (Nat.le_refl _) _;obtain ⟨hcA,hfA⟩:=bcell hA;have lt1:w1.heap.size+1<W.heap.size:=by omega
    gi_wp2_with fail
    refine ⟨trivial,?_⟩;refine (CallsIn.inRound l (callsIn_wide.2 (ahead_impl _ _ _ _ _ _ _))).mono ?_;obtain ⟨q,hq⟩:∃ q,Hid (M1.sah y x=q):=⟨_,rfl⟩
    rw [show M1.aheadB y.sw y.sc y.sr x.sw x.sc x.sr=q from hq.out];rintro e w4 ⟨rfl,hb4⟩;have hA4:Below W.heap.size W w4:=hA.trans (hb4.mono (by simp));obtain ⟨hc4,hf4⟩:=bcell hA4;have hz4:=hA4.size;have hz4':=hb4.size;simp at hz4'
    have hMq:MapJ w4 w1.heap.size (M1.mpL pre):=bM1.below hA4 bM1.lt;have bL4:Boxed w4 (w1.heap.size+1) 121 (.map (some w1.heap.size)):=(hA4.block _ (by omega)).trans bL1;have bX4:UBox w4 Bx x:=(hA4.block Bx hbx).trans bX;have hKF:KeepsFrom W0.heap.size W w4:=⟨by omega,fun k o _ hk _=>(hA4.block k (Array.getElem?_eq_some_iff.1 hk).1).trans hk⟩
    have hKp:KpI w.heap.size (w1.heap.size+1+1) W w4:=⟨hA4.mono hB1.size,fun b o _ hb=>hA4.cell (p:=⟨b,o,none⟩) (by show b<W.heap.size;omega)⟩
    have hB4:=hB1.trans (hA4.mono hB1.size)
    cases q with
    | true =>
     obtain ⟨hML0,hpl⟩:=M1.mpS_over hfH.out hq.out;have hML:Hid (M1.mpL (pre ++ [x])=(M1.mpL pre).set (M1.pj (M1.mpL pre) x.id) x):=(by rw [M1.mpL_snoc,hML0]:_=_)
     clear hML0;obtain ⟨w5,hrun,hM5,hg5⟩:=run_updateJ_over hMq x y hfH.out;simp only [uv] at hrun;clear cL cx0 cx1 cx2 cx3 cx4 cx5 cx6 cx7 cx8 cx9 cx10 cx11 cx12 hlk hc4 hf4 hcA hfA;have cL:=bL4.cell;have cx0:w4.cell? ⟨Bx,0,none⟩=some (.int .i64 x.dr):=by simp [World.cell?,show w4.heap[Bx]?=_ from bX4]
     have cx1:w4.cell? ⟨Bx,1,none⟩=some (.int .i64 x.dn):=by simp [World.cell?,show w4.heap[Bx]?=_ from bX4]
     have cx2:w4.cell? ⟨Bx,2,none⟩=some (.int .i64 x.sw):=by simp [World.cell?,show w4.heap[Bx]?=_ from bX4]
     have cx3:w4.cell? ⟨Bx,3,none⟩=some (.int .i64 x.sc):=by simp [World.cell?,show w4.heap[Bx]?=_ from bX4]
     have cx4:w4.cell? ⟨Bx,4,none⟩=some (.int .i64 x.sr):=by simp [World.cell?,show w4.heap[Bx]?=_ from bX4]
     have cx5:w4.cell? ⟨Bx,5,none⟩=some (.int .i64 x.k):=by simp [World.cell?,show w4.heap[Bx]?=_ from bX4]
     have cx6:w4.cell? ⟨Bx,6,none⟩=some (.int .i64 x.tr):=by simp [World.cell?,show w4.heap[Bx]?=_ from bX4]
     have cx7:w4.cell? ⟨Bx,7,none⟩=some (.int .i64 x.id):=by simp [World.cell?,show w4.heap[Bx]?=_ from bX4]
     have cx8:w4.cell? ⟨Bx,8,none⟩=some (.int .i64 x.pa):=by simp [World.cell?,show w4.heap[Bx]?=_ from bX4]
     have cx9:w4.cell? ⟨Bx,9,none⟩=some (.string x.s):=by simp [World.cell?,show w4.heap[Bx]?=_ from bX4]
     have cx10:w4.cell? ⟨Bx,10,none⟩=some (.int .i64 x.st):=by simp [World.cell?,show w4.heap[Bx]?=_ from bX4]
     have cx11:w4.cell? ⟨Bx,11,none⟩=some (.int .i64 x.en):=by simp [World.cell?,show w4.heap[Bx]?=_ from bX4]
     have cx12:w4.cell? ⟨Bx,12,none⟩=some (.int .i64 x.lv):=by simp [World.cell?,show w4.heap[Bx]?=_ from bX4]
     gi_wp2_with fail
     refine ⟨hKF.trans (KeepsFrom.of_grownBy hg5 (fun j e=>by injection e with e;omega)),kpI_t hKp (kpI_upd hg5 (by omega) (by omega) (by omega) (by omega)),⟨⟨by rw [hML.out];exact hM5,bL4.kept hg5 (fun e=>by injection e with e;omega)⟩,hB4.grown hg5 (by omega) (fun k e=>by injection e with e;omega)⟩,by have:=hg5.size;omega⟩
    | false =>
     have hML:Hid (M1.mpL (pre ++ [x])=M1.mpL pre):=(by rw [M1.mpL_snoc,M1.mpS_stay hfH.out hq.out]:_=_)
     gi_wp2_with fail
     exact ⟨hKF,hKp,⟨⟨by rw [hML.out];exact hMq,bL4⟩,hB4⟩,by omega⟩
  case done =>
   rintro D zs W hD rfl ⟨⟨⟨bM1,bL1⟩,hB1⟩,hz1⟩ hK;have cL:=bL1.cell;simp only [Exit.inBlock,Exit.then]
   gi_step
   refine wpIn_wide.2 ?_;have HMS:Hid ((M1.mpL (M1.ofT 1 tr us n)).Perm (M1.spTo us tr n)):=(by rw [←M1.mpTo_eq];exact M1.mp_all us tr n:(M1.mpL (M1.ofT 1 tr us n)).Perm (M1.spTo us tr n))
   generalize M1.mpL (M1.ofT 1 tr us n)=ms at bM1 HMS;have hsh:Hid (∀ i,i<ms.length→(M1.up ms i).s.size≤1000):=fun i hi=>by
    have hm:M1.up ms i∈ms:=by rw [up_getS hi];exact List.getElem_mem hi
    obtain ⟨j,hj,e⟩:=M1.spTo_mem (HMS.out.mem_iff.1 hm);rw [e];have:=M1.ok_txt (M1.okAt_ok (M1.setOk_all HOK.out j (by rw [hl1.out];exact hj)));omega
   have hms:ms.length≤60:=by
    have q1:=HMS.out.length_eq;have q2:=M1.spTo_len us tr n;have q3:=M1.setOk_len HOK.out;rw [hl1.out] at q3;omega
   obtain ⟨ti,hi1,hi2,hi3,hi4⟩:=infoS;have hi4':Hid (ti.bytes=48):=hi4;have hi2':Hid (ti.zero=some (.agg #[.int .i64 0,.int .i64 0,.string ByteArray.empty,.int .i64 0,.int .i64 0])):=hi2;have hi3':Hid (ti.size=5):=hi3;have hi1':Hid (Tryz.prog.info? 70=some ti):=hi1;clear hi1 hi2 hi3 hi4 bM bL b0 b1 b2;have hbl:=bM1.lt;have hDl:D<W.heap.size:=(Array.getElem?_eq_some_iff.1 hK).1;go_wp2_with (at_range;refine wpList_rangeJ rfl _ rfl w1.heap.size ms rfl bM1 ?_;intro w3 hI1 hb3 hz3)
   go_frame
   have own1:w3.ownsRow (W.heap.size+1) 70 5 (.slice none 0 0) ([]:List M1.Upd).length (sL []):=⟨rfl,Or.inl ⟨rfl,rfl⟩⟩
   go_loopw [9] (fun v wr=>∃ sn:List Nat,ItJ wr W.heap.size w1.heap.size ms sn∧wr.ownsRow (W.heap.size+1) 70 5 v sn.length (sL (sn.map (M1.up ms)))∧Below W.heap.size W wr) (fun v _=>ms.length-lenS v)
   case atStart=>exact ⟨[],hI1,own1,hb3⟩
   case round =>
    clear hI1 own1 hb3;obtain ⟨sn,hI,own,hB⟩:=hrel;have hlen:=hI.len;obtain ⟨hlo,va,vc,hve⟩:=owns_lenS own;subst hve;clear hlo;have hsz:=hB.size;have hrl:=hI.rlt;go_wp2_with (at_next;refine wpList_nextJ rfl _ rfl W.heap.size w1.heap.size ms sn rfl hI ?_ ?_)
    ·intro hfull
     have hperm:Hid ((sn.map (M1.up ms)).Perm ms):=(by
      have h1:sn.Perm (List.range ms.length):=M1.nodup_perm hI.nd (fun x hx=>by simp;exact hI.lt x hx) (by simp;omega);have h2:=h1.map (M1.up ms);have h3:(List.range ms.length).map (M1.up ms)=ms:=by
       apply List.ext_getElem
       ·simp
       ·intro i h1 h2
        simp [M1.up,List.getD,h2]
      rw [h3] at h2;exact h2:(sn.map (M1.up ms)).Perm ms)
     have hl:Hid ((sn.map (M1.up ms)).length=sn.length):=List.length_map _;generalize sn.map (M1.up ms)=xs at own hperm hl;have hxl:Hid (xs.length=ms.length):=(by rw [hl.out];exact hfull:xs.length=ms.length)
     have hxn:Hid (xs.length≤1000):=(by have:=hxl.out;omega:xs.length≤1000)
     rw [←hl.out] at own ⊢;clear hfull hlen hl hI hrl hsz hms;have hBw:=hB1.trans (hB.mono hB1.size);rcases own.2 with ⟨hv0,hn0⟩ | ⟨g,cap,cur,hv,hg,_,hcn,hcm,_,_⟩
     ·
      have hxs:xs=[]:=List.eq_nil_of_length_eq_zero hn0;subst hxs;injection hv0 with e1 e2 e3;subst e1;subst e3;have hsp:Hid (M1.sps us tr=[]):=(by
       have q:=HMS.out.length_eq;have q2:([]:List M1.Upd).length=ms.length:=hxl.out;simp at q2
       rw [HT.out];exact List.eq_nil_of_length_eq_zero (by omega):M1.sps us tr=[])
      clear own;go_wp2_with fail
      refine (sortS_none _ _ _ _).mono ?_;rintro e w4 ⟨rfl,hw4⟩;subst hw4;have hKD:=(hB.block D hDl).trans hK;go_wp2_with fail
      refine ⟨by simp,.inl ⟨_,_,rfl,run_takeDeferred hKD,?_⟩⟩;exact ⟨_,results_tmp rfl _ _ _,⟨none,0,by rw [hsp.out];rfl,by rw [hsp.out];exact ⟨Nat.le_refl _,by unfold maxLen;omega,Or.inl ⟨rfl,rfl⟩⟩⟩,hBw.trans (belowK_b (w:=w) (Nat.le_refl _) _ D _ _ (by omega) hKD rfl rfl)⟩
     ·injection hv with e1 e2 e3
      subst e1;subst e3;have row:=(RowAt.of_owns own).same fun o ho=>sL_get xs o ho;have hrl:=row.lt;clear own;go_wp2_with fail
      refine (sortS_any g _ xs _ row (by have:=hxn.out;omega)).mono ?_;rintro e w4 ⟨rfl,ns,hp,hso,row4,hG4⟩;have HSP:Hid (ns=M1.sps us tr):=(by
       rw [HT.out];refine M1.id_unique ?_ (M1.spTo_sorted us tr n) (hp.trans (hperm.out.trans HMS.out));have hids:M1.ids ns:=M1.ids_perm (hp.trans (hperm.out.trans HMS.out)) (M1.ids_of (M1.spTo_sorted us tr n));rw [List.pairwise_iff_getElem] ;intro i j hi hj hij;have q:=hso i j hij hj;unfold M1.ids at hids;rw [List.pairwise_iff_getElem] at hids;have q2:=hids i j hi hj hij;rw [up_getS hj,up_getS hi] at q;unfold M1.idlt;omega:ns=M1.sps us tr)
      have hnl:ns.length=xs.length:=hp.length_eq;rw [←hnl] at row4 hcn ⊢;have hB4:Below W.heap.size W w4:=hB.trans (gr_to hG4 hB.size (by omega));have hKD:=(hB4.block D hDl).trans hK;have hBw4:=hB1.trans (hB4.mono hB1.size);have hl4:=row4.lt;clear hso hp row hG4 hrl hnl hB hBw;go_wp2_with fail
      refine ⟨by simp,.inl ⟨_,_,rfl,run_takeDeferred hKD,?_⟩⟩;refine ⟨_,results_tmp rfl _ _ _,⟨some ⟨g,0,none⟩,vc,by rw [←HSP.out];rfl,?_⟩,hBw4.trans (belowK_b (w:=w) (Nat.le_refl _) _ D _ _ (by omega) hKD rfl rfl)⟩;rw [←HSP.out];refine ⟨hcn,hcm,Or.inr ⟨g,rfl,by omega,?_,?_⟩⟩
      ·simp;omega
      ·exact row4.put (by omega)
    ·intro i w4 hi hI4 hg4 hs4 hen
     have hfd:=field4;have hen':(Instr.entry (.pointer (some ⟨W.heap.size,0,none⟩))).run Tryz.prog w4=.ok (.tuple #[.int .i64 (M1.up ms i).id,.agg #[.int .i64 (M1.up ms i).dr,.int .i64 (M1.up ms i).dn,.int .i64 (M1.up ms i).sw,.int .i64 (M1.up ms i).sc,.int .i64 (M1.up ms i).sr,.int .i64 (M1.up ms i).k,.int .i64 (M1.up ms i).tr,.int .i64 (M1.up ms i).id,.int .i64 (M1.up ms i).pa,.string (M1.up ms i).s,.int .i64 (M1.up ms i).st,.int .i64 (M1.up ms i).en,.int .i64 (M1.up ms i).lv]]) w4:=hen;clear hen;have own4:w4.ownsRow (W.heap.size+1) 70 5 (.slice va sn.length vc) sn.length (sL (sn.map (M1.up ms))):=owns_grS own hg4 (by omega);have hB4:Below W.heap.size W w4:=hB.grown hg4 hB.size (fun k e=>by injection e with e;omega);have hi':=hsh.out i hi;clear own hI hg4;go_wp2_with fail
     refine (copyOf_any (M1.up ms i) _ hi').mono ?_;rintro e w5 ⟨rfl,hb5⟩;have hb5':Below w4.heap.size w4 w5:=((Below.refl _ _).alloc (Nat.le_refl _) _).trans (hb5.mono (by simp));have own5:=owns_below own4 hb5';have hI5:=hI4.below hb5';have hB5:=hB4.trans (hb5'.mono hB4.size);have hs5:=hb5'.size;clear own4 hI4 hb5;go_wp2_with (at_builtin;refine wpList_append_lies _ rfl _ _ _ rfl (W.heap.size+1) 70 ti _ 5 48 Tryz.underlying83 hi1'.out hi2'.out hi3'.out hi4'.out rfl (by omega) (.slice va sn.length vc) sn.length (sL (sn.map (M1.up ms))) rfl (owns_below own5 ((Below.refl _ _).alloc (Nat.le_refl _) _)) ⟨w5.heap.size,0,none⟩ 1 1 (scs (M1.up ms i)) rfl rfl (newsS _ _ _ _ _ _ _) (oneSc _) (by omega) (by unfold maxLen;omega) (by omega) (by simp;omega) _ rfl ?_;intro g6 cap6 w6 hown6 hgrow6 hat6 hlt6)
     have hbase:=owns_base own5;have hB6:Below W.heap.size W w6:=(hB5.alloc hB5.size _).grown hgrow6 (by simp;omega) (fun k e=>by have:=hbase k e;omega);have hI6:=hI5.below ((Below.refl _ _).alloc (Nat.le_refl _) (.cells #[.int .i64 (M1.up ms i).id,.int .i64 (M1.up ms i).pa,.string (M1.up ms i).s,.int .i64 (M1.up ms i).st,.int .i64 (M1.up ms i).en] 70));have hI6':ItJ w6 W.heap.size w1.heap.size ms (sn ++ [i]):=hI6.kept (hgrow6.block _ (by have:=hI6.rlt;exact this) (fun e=>by have:=hbase _ e.symm;omega)) (hgrow6.block _ (by have:=hI6.map.lt;exact this) (fun e=>by have:=hbase _ e.symm;omega));have el:(sn ++ [i]).length=sn.length+1:=by simp
     have hl6:=hI6'.len;rw [el] at hl6;have em:sL ((sn ++ [i]).map (M1.up ms))=sL (sn.map (M1.up ms)) ++ scs (M1.up ms i):=by rw [List.map_append];exact sL_snoc _ _
     exact ⟨⟨sn ++ [i],hI6',by rw [el,em];exact hown6,hB6⟩,by simp [lenS];omega⟩
  case stop =>
   rintro D c pre W _ _ h _;exact h.elim
 ·replace hs:M1.setOk us=false:=by simpa using hs
  have HT:Hid (M1.sps us tr=[]):=(by unfold M1.sps;rw [hs];rfl:M1.sps us tr=[])
  refine callsIn_of_wp_marks Tryz.func36 rfl trivial ?_ rfl;simp only [Tryz.ntmps36,List.size_toArray,List.length_cons,List.length_nil,Nat.reduceAdd,Nat.reduceSub,Array.replicate_succ,Array.replicate_zero,List.push_toArray,List.append_toArray,List.nil_append,List.cons_append]
  gi_wp2_with fail
  refine ⟨trivial,?_⟩;refine (callsIn_wide.2 (setOk_impl _ _ _ _ _ h1)).mono ?_;rw [hs];rintro e w1 ⟨rfl,hb1⟩
  gi_wp2_with fail
  exact ⟨_,results_tmp rfl _ _ _,⟨none,0,by rw [HT.out];rfl,by rw [HT.out];exact ⟨Nat.le_refl _,by unfold maxLen;omega,Or.inl ⟨rfl,rfl⟩⟩⟩,hb1⟩
end Go.Proofs.YtgcinolbkllkkaaGreat
