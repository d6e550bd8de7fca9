/-
  Texts of one proof, joined: Told1, SortL, Told2, Told3, JdI, TkI, Rv3, AppU.
-/
import Derived.Sort.Grow
import Derived.Deep.Draws
import Derived.Shelf.SlSortCmp.WholeK
import Derived.Ground.SlsfProg
import Derived.Shelf.SlSortCmp.NoneTotal
import Derived.Test.YtgcinolbkllkkaaGreatZFConverged15
set_option linter.unusedSimpArgs false
set_option linter.unusedVariables false
namespace Go.Proofs.YtgcinolbkllkkaaGreat
open Go.ChangeShapes Go.WideShapes Go.ChangeAt Go.RowKit Go.Sort
def Grew (w w':World):Prop:=∃ q os',w'=grow (w.drewN q) os'
theorem Grew.refl (w:World):Grew w w:=⟨0,#[],by simp [grow,World.drewN]⟩
theorem Grew.alloc {w w':World}(h:Grew w w')(o:Obj):Grew w (w'.alloc o):=by
 obtain ⟨q,os',rfl⟩:=h;exact ⟨q,os' ++ #[o],by rw [alloc_eq_grow,grow_grow]⟩
theorem Grew.drew {w w':World}(h:Grew w w'):Grew w w'.drew:=by
 obtain ⟨q,os',rfl⟩:=h;exact ⟨q+1,os',by simp [grow,World.drewN,World.drew,Nat.add_assoc]⟩
theorem Grew.trans {w w' w'':World}(h:Grew w w')(h2:Grew w' w''):Grew w w'':=by
 obtain ⟨q,os',rfl⟩:=h;obtain ⟨q2,os2,rfl⟩:=h2;exact ⟨q+q2,os' ++ os2,by simp [grow,World.drewN,Array.append_assoc,Nat.add_assoc]⟩
set_option maxHeartbeats 8000000 in
theorem dotOrder_grew (a b x y:Int)(w:World) :
  Calls Tryz.prog 117 #[.agg #[.int .i64 a,.int .i64 b],.agg #[.int .i64 x,.int .i64 y]] w fun e w'=>e=.returned (.int .i64 (M1.orI (M1.cmpI a x) (M1.cmpI b y)))∧Grew w w':=by
 go_enter Tryz.func117,Tryz.ntmps117
 go_wp2_with fail
 refine wp_region_held_drew (S:=fun w'=>Kp ((w.alloc (Obj.cells #[Value.int IntKind.i64 a,Value.int IntKind.i64 b] 68)).alloc (Obj.cells #[Value.int IntKind.i64 x,Value.int IntKind.i64 y] 68)) w') (by kernel_rfl) ?_ (fun zH=>?_)
 ·exact kp_zero _
 refine uZ 0 ?_;simp only[pZ,zZ];refine uZ 1 ?_;simp only[pZ,zZ];refine uZ 2 ?_;simp only[pZ,zZ];refine uZ 3 ?_;simp only[pZ,zZ];refine uZ 5 ?_;simp only[pZ,zZ];refine uZ 6 ?_;simp only[pZ,zZ];refine uZ 7 ?_;simp only[pZ,zZ];refine uZ 8 ?_;simp only[pZ,zZ];refine sZ 4 fun K hK=>?_;go_simp
 (refine (compare_any _ _ _).mono ?_;rintro e w' ⟨rfl,hbw⟩;subst hbw;go_wp2_with fail)
 refine hK.out _ _ ?_ (fun zH2=>?_)
 ·exact zH
 clear hK K zH;have zH:=zH2;clear zH2;(try simp only[pZ,zZ]);refine sZ 9 fun K hK=>?_;go_simp
 (refine (compare_any _ _ _).mono ?_;rintro e w' ⟨rfl,hbw⟩;subst hbw;go_wp2_with fail)
 refine hK.out _ _ ?_ (fun zH2=>?_)
 ·exact zH
 clear hK K zH;have zH:=zH2;clear zH2;(try simp only[pZ,zZ]);refine sZ 10 fun K hK=>?_;go_simp
 skip
 refine hK.out _ _ ?_ (fun zH2=>?_)
 ·exact kp_alloc zH _
 clear hK K zH;have zH:=zH2;clear zH2;(try simp only[pZ,zZ]);refine sZ 11 fun K hK=>?_;go_simp
 (refine (cmpOr_two (w.heap.size+1+1) (M1.cmpI a x) (M1.cmpI b y) _ (by go_simp) (by go_simp)).mono ?_;rintro e w' ⟨rfl,hbw⟩;subst hbw;go_wp2_with fail)
 refine hK.out _ _ ?_ (fun zH2=>?_)
 ·exact zH
 clear hK K zH;have zH:=zH2;clear zH2;(try simp only[pZ,zZ]);refine uZ 12 ?_;simp only[pZ,zZ];refine dZ ?_;clear zH;go_wp2_with fail
 go_ret
 refine ⟨rfl,?_⟩;repeat (first | exact Grew.refl _ | refine Grew.drew ?_ | refine Grew.alloc ?_ _)
set_option maxHeartbeats 8000000 in
theorem told1_grew (u v:M1.Upd)(w:World) :
  Calls Tryz.prog 116 #[.agg #[.int .i64 u.dr,.int .i64 u.dn,.int .i64 u.sw,.int .i64 u.sc,.int .i64 u.sr,.int .i64 u.k,.int .i64 u.tr,.int .i64 u.id,.int .i64 u.pa,.string u.s,.int .i64 u.st,.int .i64 u.en,.int .i64 u.lv],.agg #[.int .i64 v.dr,.int .i64 v.dn,.int .i64 v.sw,.int .i64 v.sc,.int .i64 v.sr,.int .i64 v.k,.int .i64 v.tr,.int .i64 v.id,.int .i64 v.pa,.string v.s,.int .i64 v.st,.int .i64 v.en,.int .i64 v.lv]] w fun e w'=>e=.returned (.int .i64 (M1.orI (M1.cmpI u.dr v.dr) (M1.cmpI u.dn v.dn)))∧Grew w w':=by
 go_enter Tryz.func116,Tryz.ntmps116
 go_wp2_with fail
 refine (dotOrder_grew _ _ _ _ _).mono ?_;rintro e w1 ⟨rfl,hb1⟩;go_wp2_with fail
 go_ret
 exact ⟨rfl,(((Grew.refl w).alloc _).alloc _).trans hb1⟩
end Go.Proofs.YtgcinolbkllkkaaGreat
namespace Go.Proofs
open Go.Shelf
def Tryz.sortU_ren:Go.Shelf.Ren:=⟨fun | 6=>115 | 15=>101 | 14=>140 | 28=>129 | 29=>130 | 20=>156 | 21=>157 | 22=>158 | 23=>159 | 24=>160 | 25=>161 | 26=>162 | 27=>163 | 46=>168 | 47=>143 | 48=>144 | 49=>169 | 50=>170 | 57=>172 | n=>n,fun | 22=>32 | 24=>72 | 25=>177 | 3=>3 | 39=>164 | 0=>0 | 53=>193 | 55=>173 | 4=>4 | 46=>186 | 45=>185 | 50=>190 | 5=>5 | 9=>9 | 66=>210 | 70=>213 | 76=>230 | 77=>231 | n=>n,fun | n=>n⟩
theorem Tryz.sortU:Go.Proofs.SlLaysF0.n6 Tryz.prog Tryz.sortU_ren:={
 mixed:=by kernel_rfl
 f6:=⟨Tryz.f115.name,by decide,Tryz.func115.trans (congrArg some (by kernel_rfl))⟩
 f14:=⟨Tryz.f140.name,by decide,Tryz.func140.trans (congrArg some (by kernel_rfl))⟩
 f15:=Tryz.func101.trans (congrArg some (by kernel_rfl))
 f20:=⟨Tryz.f156.name,by decide,Tryz.func156.trans (congrArg some (by kernel_rfl))⟩
 f21:=⟨Tryz.f157.name,by decide,Tryz.func157.trans (congrArg some (by kernel_rfl))⟩
 f22:=⟨Tryz.f158.name,by decide,Tryz.func158.trans (congrArg some (by kernel_rfl))⟩
 f23:=⟨Tryz.f159.name,by decide,Tryz.func159.trans (congrArg some (by kernel_rfl))⟩
 f24:=⟨Tryz.f160.name,by decide,Tryz.func160.trans (congrArg some (by kernel_rfl))⟩
 f25:=⟨Tryz.f161.name,by decide,Tryz.func161.trans (congrArg some (by kernel_rfl))⟩
 f26:=⟨Tryz.f162.name,by decide,Tryz.func162.trans (congrArg some (by kernel_rfl))⟩
 f27:=⟨Tryz.f163.name,by decide,Tryz.func163.trans (congrArg some (by kernel_rfl))⟩
 f28:=Tryz.func129.trans (congrArg some (by kernel_rfl))
 f29:=Tryz.func130.trans (congrArg some (by kernel_rfl))
 f46:=⟨Tryz.f168.name,by decide,Tryz.func168.trans (congrArg some (by kernel_rfl))⟩
 f47:=Tryz.func143.trans (congrArg some (by kernel_rfl))
 f48:=Tryz.func144.trans (congrArg some (by kernel_rfl))
 f49:=⟨Tryz.f169.name,by decide,Tryz.func169.trans (congrArg some (by kernel_rfl))⟩
 f50:=⟨Tryz.f170.name,by decide,Tryz.func170.trans (congrArg some (by kernel_rfl))⟩
 f57:=⟨Tryz.f172.name,by decide,Tryz.func172.trans (congrArg some (by kernel_rfl))⟩
 t0:=Tryz.underlying0
 a0:=Tryz.isAgg0
 z0:=Tryz.sizeOf0
 v0:=Tryz.zeroValue0
 t3:=Tryz.underlying3
 a3:=Tryz.isAgg3
 z3:=Tryz.sizeOf3
 v3:=Tryz.zeroValue3
 t4:=Tryz.underlying4
 a4:=Tryz.isAgg4
 z4:=Tryz.sizeOf4
 v4:=Tryz.zeroValue4
 t5:=Tryz.underlying5
 a5:=Tryz.isAgg5
 z5:=Tryz.sizeOf5
 v5:=Tryz.zeroValue5
 t9:=Tryz.underlying9
 a9:=Tryz.isAgg9
 z9:=Tryz.sizeOf9
 v9:=Tryz.zeroValue9
 t22:=Tryz.underlying32
 a22:=Tryz.isAgg32
 z22:=Tryz.sizeOf32
 v22:=Tryz.zeroValue32
 t25:=Tryz.underlying177
 a25:=Tryz.isAgg177
 z25:=Tryz.sizeOf177
 v25:=Tryz.zeroValue177
 t39:=Tryz.underlying164
 a39:=Tryz.isAgg164
 z39:=Tryz.sizeOf164
 v39:=Tryz.zeroValue164
 t45:=Tryz.underlying185
 a45:=Tryz.isAgg185
 z45:=Tryz.sizeOf185
 v45:=Tryz.zeroValue185
 t46:=Tryz.underlying186
 a46:=Tryz.isAgg186
 z46:=Tryz.sizeOf186
 v46:=Tryz.zeroValue186
 t50:=Tryz.underlying190
 a50:=Tryz.isAgg190
 z50:=Tryz.sizeOf190
 v50:=Tryz.zeroValue190
 t53:=Tryz.underlying193
 a53:=Tryz.isAgg193
 z53:=Tryz.sizeOf193
 v53:=Tryz.zeroValue193
 t55:=Tryz.underlying173
 a55:=Tryz.isAgg173
 z55:=Tryz.sizeOf173
 v55:=Tryz.zeroValue173
 t66:=Tryz.underlying210
 a66:=Tryz.isAgg210
 z66:=Tryz.sizeOf210
 v66:=Tryz.zeroValue210
 t70:=Tryz.underlying213
 a70:=Tryz.isAgg213
 z70:=Tryz.sizeOf213
 v70:=Tryz.zeroValue213
 t76:=Tryz.underlying230
 a76:=Tryz.isAgg230
 z76:=Tryz.sizeOf230
 v76:=Tryz.zeroValue230
 t77:=Tryz.underlying231
 a77:=Tryz.isAgg231
 z77:=Tryz.sizeOf231
 v77:=Tryz.zeroValue231 }
end Go.Proofs
namespace Go.Proofs.YtgcinolbkllkkaaGreat
open Go.ChangeShapes Go.WideShapes Go.ChangeAt Go.RowKit Go.Sort Go.Shelf Go.Lib
instance:Inhabited M1.Upd:=⟨M1.zeroU⟩
theorem isAggU (w:World):(isAgg 72).run Tryz.prog w=.ok true w:=by kernel_rfl
theorem sizeOfU (w:World):(Go.sizeOf 72).run Tryz.prog w=.ok 13 w:=by kernel_rfl
def ordU (u v:M1.Upd):Int:=M1.orI (M1.cmpI u.dr v.dr) (M1.cmpI u.dn v.dn)
theorem ltU (u v:M1.Upd):ltOf ordU u v=M1.dahead u.dr u.dn v.dr v.dn:=M1.dahead_cmp _ _ _ _
theorem swoU:SWO (ltOf ordU) where
 irrefl x:=by rw [ltU];simp [M1.dahead]
 trans x y z h1 h2:=by rw [ltU] at *;simp [M1.dahead] at *;omega
 ntrans x y z h1 h2:=by rw [ltU] at *;simp [M1.dahead] at *;omega
theorem cmpU (blk off size:Nat)(w:World):CmpLays Tryz.prog 116 #[] ucs 13 ordU blk off size w :=
 fun _ _ _ _ x y=>told1_grew x y _
theorem up_toArray (us:List M1.Upd)(i:Nat):us.toArray[i]! = M1.up us i:=by
 unfold M1.up;by_cases h:i<us.length
 ·simp [h,List.getD]
 ·simp [h,List.getD];rfl
theorem holdsU {w:World}{blk:Nat}{us:List M1.Upd}(h:RowAt w blk (us.length*13) (ucell us)):HoldsK ucs 13 w blk 0 us.toArray:=by
 intro j hj;have hj':j<us.length*13:=by simpa using hj
 have e:(flatK ucs 13 us.toArray)[j]! = ucell us j:=by
  rw [get_flatK ucs 13 us.toArray j (by simpa using hj'),up_toArray];unfold ucell;have:j % 13<(ucs (M1.up us (j / 13))).length:=by show j % 13<13;omega
  simp [List.getD,this]
 rw [Nat.zero_add,e];exact ⟨h.cell hj',h.free hj'⟩
theorem ofHoldsU {w:World}{blk:Nat}{us:List M1.Upd}(h:HoldsK ucs 13 w blk 0 us.toArray)(hb:blk<w.heap.size):RowAt w blk (us.length*13) (ucell us):=by
 refine ⟨hb,fun j hj=>?_⟩;have hq:=h j (by simpa using hj);have e:(flatK ucs 13 us.toArray)[j]! = ucell us j:=by
  rw [get_flatK ucs 13 us.toArray j (by simpa using hj),up_toArray];unfold ucell;have:j % 13<(ucs (M1.up us (j / 13))).length:=by show j % 13<13;omega
  simp [List.getD,this]
 rw [Nat.zero_add,e] at hq;exact hq
theorem grSort (w:World)(blk n:Nat)(d:Array M1.Upd)(os:Array Obj):Gr blk w (sortWorldK ucs 13 w blk 0 n d os):=by
 refine ⟨rfl,rfl,rfl,by simp [sortWorldK,grow,putRowK,putRow,mapBlock,ahead],fun k hk hn=>?_⟩;have hne:¬blk=k:=fun e=>hn (by rw [e]);show ((w.heap.modify blk (onCells (putCells id 0 (flatK ucs 13 d)))) ++ os)[k]?=w.heap[k]?
 rw [Array.getElem?_append_left (by simpa using hk),Array.getElem?_modify];simp [hne]
theorem sortU_any (blk cap:Nat)(us:List M1.Upd)(w:World)(hrow:RowAt w blk (us.length*13) (ucell us))(hn:us.length≤1048576) :
  Calls Tryz.prog 115 #[.slice (some ⟨blk,0,none⟩) us.length cap,.func (.func 116) #[] #[]] w fun e w'=>e=.returned (.tuple #[])∧∃ ns:List M1.Upd,ns.Perm us∧(∀ i j,i<j→j<ns.length→M1.dahead (M1.up ns j).dr (M1.up ns j).dn (M1.up ns i).dr (M1.up ns i).dn=false)∧RowAt w' blk (us.length*13) (ucell ns)∧Gr blk w w':=by
 have eg:∀ args w,(callFunc 116 args).run Tryz.prog w=.ok (.enter 116 args) w:=enters_of Tryz.func116 (by kernel_rfl) rfl;have hcon:=AnyQ.slices_SortFunc Tryz.sortU 13 isAggU sizeOfU ucs (fun _=>rfl) one13 ordU swoU 116 #[] blk 0 cap us.toArray w eg (cmpU blk 0 _ w) (holdsU hrow) hrow.lt (by simp;omega);simp only [List.size_toArray] at hcon;refine Calls.mono hcon ?_;rintro e w' ⟨rfl,d',n,os,hp,hs,rfl⟩;obtain ⟨h1,_,h3⟩:=hp;have hsz:d'.size=us.length:=by simpa using h1
 have e1:d'.extract 0 us.length=d':=by rw [←hsz];simp
 have e2:us.toArray.extract 0 us.length=us.toArray:=by simp
 rw [e1,e2] at h3;have hl:d'.toList.length=us.length:=by simpa using hsz
 refine ⟨rfl,d'.toList,by simpa using h3,fun i j hij hj=>?_,?_,grSort _ _ _ _ _⟩
 ·have:=hs i j (Nat.zero_le _) hij (by omega)
  rw [ltU] at this;have ea:∀ i,d'[i]! = M1.up d'.toList i:=fun i=>by
   have:=up_toArray d'.toList i
   simpa using this
  rwa [ea,ea] at this
 ·rw [←hl]
  refine ofHoldsU ?_ ?_
  ·have:=holdsK_sortWorldK_c (enc:=ucs) (k:=13) (w:=w) (blk:=blk) (off:=0) us.toArray d' n os (holdsU hrow) hrow.lt (by simpa using hsz)
   simpa using this
  ·have:=size_sortWorldK_c (enc:=ucs) (k:=13) (w:=w) (blk:=blk) (off:=0) n d' os
   have h2:=hrow.lt;omega
theorem sortU_none (p:Option Addr)(cap:Nat)(fv:Value)(w:World) :
  Calls Tryz.prog 115 #[.slice p 0 cap,fv] w fun e w'=>e=.returned (.tuple #[])∧w'=w:=AnyF.slices_SortFunc_none Tryz.sortU p cap fv w
end Go.Proofs.YtgcinolbkllkkaaGreat
namespace Go.Proofs.YtgcinolbkllkkaaGreat
open Go.ChangeShapes Go.WideShapes Go.ChangeAt Go.RowKit
def lenOf:Value→Nat
 | .slice _ n _=>n
 | _=>0
theorem owns_len {w:World}{base:Nat}{e:TypeId}{size n:Nat}{v:Value}{xs:List Value}(h:w.ownsRow base e size v n xs):lenOf v=n∧∃ a c,v=.slice a n c:=by
 rcases h.2 with ⟨rfl,rfl⟩ | ⟨g,cap,cur,rfl,_⟩
 ·exact ⟨rfl,_,_,rfl⟩
 ·exact ⟨rfl,_,_,rfl⟩
theorem up_get {l:List M1.Upd}{i:Nat}(h:i<l.length):M1.up l i=l[i]:=by simp [M1.up,List.getD,h]
theorem owns_gr2 {w w':World}{base g:Nat}{e:TypeId}{size n:Nat}{v:Value}{xs:List Value}(h:w.ownsRow base e size v n xs)(hg:Gr g w w')(hb:g<base):w'.ownsRow base e size v n xs:=by
 obtain ⟨h1,h2⟩:=h;refine ⟨h1,h2.imp id fun ⟨k,cap,cur,hv,hk,hh,r⟩=>⟨k,cap,cur,hv,hk,?_,r⟩⟩;have hlt:k<w.heap.size:=by
  rcases Nat.lt_or_ge k w.heap.size with h | h
  ·exact h
  ·rw [Array.getElem?_eq_none h] at hh;cases hh
 rw [hg.block k hlt (fun e=>by injection e with e;omega)];exact hh
set_option maxHeartbeats 160000000 in
set_option maxRecDepth 100000 in
theorem told_any (b:Nat)(us:List M1.Upd)(w:World)(hM:MapN w b us)(hsh:∀ i,i<us.length→(M1.up us i).s.size≤1000)(hn:us.length≤1000) :
  Calls Tryz.prog 88 #[.map (some b)] w fun e w'=>∃ (ns:List M1.Upd),ns.Perm us∧(∀ i j,i<j→j<ns.length→M1.dahead (M1.up ns j).dr (M1.up ns j).dn (M1.up ns i).dr (M1.up ns i).dn=false) ∧
   ((M1.setOk ns=true∧∃ av cap,e=.returned (.tuple #[.slice av ns.length cap,.bool true])∧MU w' av ns.length cap w.heap.size w'.heap.size (ucell ns))∨(M1.setOk ns=false∧e=.returned (.tuple #[.slice none 0 0,.bool false])))∧Below w.heap.size w w':=by
 obtain ⟨ti,hi1,hi2,hi3,hi4⟩:=infoUpd;have hi4':Hid (ti.bytes=112):=hi4;have hi2':Hid (ti.zero=some (.agg #[.int .i64 0,.int .i64 0,.int .i64 0,.int .i64 0,.int .i64 0,.int .i64 0,.int .i64 0,.int .i64 0,.int .i64 0,.string ByteArray.empty,.int .i64 0,.int .i64 0,.int .i64 0])):=hi2;have hi3':Hid (ti.size=13):=hi3;have hi1':Hid (Tryz.prog.info? 72=some ti):=hi1;clear hi1 hi2 hi3 hi4;have hbl:=hM.lt;go_enter Tryz.func88,Tryz.ntmps88
 go_wp2_with (at_range;refine wpList_rangeN rfl _ rfl b us rfl hM ?_;intro w1 hI1 hb1 hz1)
 go_frame
 have own1:w1.ownsRow (w.heap.size+1) 72 13 (.slice none 0 0) ([]:List M1.Upd).length (ucL []):=ownsU_nil _ _ _;go_loopw [4] (fun v wr=>∃ sn:List Nat,ItN wr w.heap.size b us sn∧wr.ownsRow (w.heap.size+1) 72 13 v sn.length (ucL (sn.map (M1.up us)))∧Below w.heap.size w wr) (fun v _=>us.length-lenOf v)
 case atStart=>exact ⟨[],hI1,own1,hb1⟩
 case round =>
  clear hI1 own1 hb1;obtain ⟨sn,hI,own,hB⟩:=hrel;have hlen:=hI.len;obtain ⟨hlo,va,vc,hve⟩:=owns_len own;subst hve;clear hlo;have hsz:=hB.size;have hrl:=hI.rlt;go_wp2_with (at_next;refine wpList_nextN rfl _ rfl w.heap.size b us sn rfl hI ?_ ?_)
  ·intro hfull
   have hperm:Hid ((sn.map (M1.up us)).Perm us):=(by
    have h1:sn.Perm (List.range us.length):=M1.nodup_perm hI.nd (fun x hx=>by simp;exact hI.lt x hx) (by simp;omega);have h2:=h1.map (M1.up us);have h3:(List.range us.length).map (M1.up us)=us:=by
     apply List.ext_getElem
     ·simp
     ·intro i h1 h2
      simp [M1.up,List.getD,h2]
    rw [h3] at h2;exact h2:(sn.map (M1.up us)).Perm us)
   have hl:Hid ((sn.map (M1.up us)).length=sn.length):=List.length_map _;have hsh':Hid (∀ i,i<(sn.map (M1.up us)).length→(M1.up (sn.map (M1.up us)) i).s.size≤1000):=fun i hi=>by
    have:M1.up (sn.map (M1.up us)) i∈us:=hperm.out.mem_iff.1 (by
     rw [up_get hi];exact List.getElem_mem hi)
    obtain ⟨j,hj,e⟩:=List.getElem_of_mem this;rw [←e,←up_get hj];exact hsh j hj
   generalize sn.map (M1.up us)=xs at own hperm hl hsh';have hxl:xs.length=us.length:=by rw [hl.out];exact hfull
   rw [←hl.out] at own ⊢;have hxn:Hid (xs.length≤1000):=(by omega:xs.length≤1000)
   clear hfull hlen hl hI hsz hrl hxl;rcases own.2 with ⟨hv0,hn0⟩ | ⟨g,cap,cur,hv,hg,_,hcn,hcm,_,_⟩
   ·
    have hxs:xs=[]:=List.eq_nil_of_length_eq_zero hn0;subst hxs;injection hv0 with e1 e2 e3;subst e1;subst e3;have hpn:=hperm.out;clear own;go_wp2_with fail
    refine (sortU_none _ _ _ _).mono ?_;rintro e w2 ⟨rfl,hw2⟩;subst hw2;go_wp2_with fail
    refine (setOk_impl none 0 0 [] _ ⟨rfl,Nat.le_refl _,Nat.zero_le _,fun i hi=>absurd hi (Nat.not_lt_zero _),Or.inl rfl⟩).mono ?_;rw [show M1.setOk []=true from by decide];rintro e w3 ⟨rfl,hb3⟩;go_wp2_with fail
    refine bodyPost_ret (v:=.tuple #[.slice none 0 0,.bool true]) (by simp [results,Tryz.results88,go_sem]) rfl ⟨[],hpn,fun i j _ hj=>absurd hj (Nat.not_lt_zero _),Or.inl ⟨by decide,none,0,rfl,⟨Nat.le_refl _,Nat.zero_le _,Or.inl ⟨rfl,rfl⟩⟩⟩,hB.trans (hb3.mono hB.size)⟩
   ·injection hv with e1 e2 e3
    subst e1;subst e3;have row:=(RowAt.of_owns own).same fun o ho=>ucL_get xs o ho;have hrl:=row.lt;clear own;go_wp2_with fail
    refine (sortU_any g _ xs _ row (by have:=hxn.out;omega)).mono ?_;rintro e w2 ⟨rfl,ns,hp,hso,row2,hG2⟩;have HSO:Hid (∀ i j,i<j→j<ns.length→M1.dahead (M1.up ns j).dr (M1.up ns j).dn (M1.up ns i).dr (M1.up ns i).dn=false):=hso;clear hso;have HP:Hid (ns.Perm us):=hp.trans hperm.out;have hnl:ns.length=xs.length:=hp.length_eq;have hnsh:∀ i,i<ns.length→(M1.up ns i).s.size≤maxLen:=fun i hi=>by
     have hm:M1.up ns i∈us:=HP.out.mem_iff.1 (by rw [up_get hi];exact List.getElem_mem hi);obtain ⟨j,hj,e⟩:=List.getElem_of_mem hm;have:=hsh j hj;rw [up_get hj,e] at this;unfold maxLen;omega
    rw [←hnl] at row2 hcn ⊢;have hB2:Below w.heap.size w w2:=hB.trans (gr_to hG2 hB.size (by omega));have u2:=isUpds_of_row rfl hcn hcm hnsh row2;clear hnsh hp hG2 row hrl hnl;go_wp2_with fail
    refine (setOk_impl _ _ _ _ _ u2).mono ?_;obtain ⟨okb,hok⟩:∃ q,Hid (M1.setOk ns=q):=⟨_,rfl⟩
    rw [hok.out];rintro e w3 ⟨rfl,hb3⟩;have hB3:=hB2.trans (hb3.mono hB2.size);have row3:=row2.below hb3;have hl3:=row3.lt
    cases okb with
    | true =>
     go_wp2_with fail
     refine bodyPost_ret (v:=.tuple #[.slice (some ⟨g,0,none⟩) ns.length vc,.bool true]) (by simp [results,Tryz.results88,go_sem]) rfl ⟨ns,HP.out,HSO.out,Or.inl ⟨hok.out,_,_,rfl,⟨hcn,hcm,Or.inr ⟨g,rfl,by omega,hl3,row3⟩⟩⟩,hB3⟩
    | false =>
     go_wp2_with fail
     refine bodyPost_ret (v:=.tuple #[.slice none 0 0,.bool false]) (by simp [results,Tryz.results88,go_sem]) rfl ⟨ns,HP.out,HSO.out,Or.inr ⟨hok.out,rfl⟩,hB3⟩
  ·intro i w2 hi hI2 hg2 hs2 hen
   have hen':(Instr.entry (.pointer (some ⟨w.heap.size,0,none⟩))).run Tryz.prog w2=.ok (.tuple #[.agg #[.int .i64 (M1.up us i).dr,.int .i64 (M1.up us i).dn],.agg #[.int .i64 (M1.up us i).dr,.int .i64 (M1.up us i).dn,.int .i64 (M1.up us i).sw,.int .i64 (M1.up us i).sc,.int .i64 (M1.up us i).sr,.int .i64 (M1.up us i).k,.int .i64 (M1.up us i).tr,.int .i64 (M1.up us i).id,.int .i64 (M1.up us i).pa,.string (M1.up us i).s,.int .i64 (M1.up us i).st,.int .i64 (M1.up us i).en,.int .i64 (M1.up us i).lv]]) w2:=hen;clear hen;have own2:w2.ownsRow (w.heap.size+1) 72 13 (.slice va sn.length vc) sn.length (ucL (sn.map (M1.up us))):=owns_gr2 own hg2 (by omega);have hB2:Below w.heap.size w w2:=hB.grown hg2 hB.size (fun k e=>by injection e with e;omega);have hi':=hsh i hi;clear own hI hg2;go_wp2_with fail
   refine (copyOf_any (M1.up us i) _ hi').mono ?_;rintro e w3 ⟨rfl,hb3⟩;have hb3':Below w2.heap.size w2 w3:=((Below.refl _ _).alloc (Nat.le_refl _) _).trans (hb3.mono (by simp));have own3:=owns_below own2 hb3';have hI3:=hI2.below hb3';have hB3:=hB2.trans (hb3'.mono hB2.size);have hs3:=hb3'.size;clear own2 hI2 hb3;go_wp2_with (at_builtin;refine wpList_append_lies _ rfl _ _ _ rfl (w.heap.size+1) 72 ti _ 13 112 Tryz.underlying32 hi1'.out hi2'.out hi3'.out hi4'.out rfl (by omega) (.slice va sn.length vc) sn.length (ucL (sn.map (M1.up us))) rfl (owns_below own3 ((Below.refl _ _).alloc (Nat.le_refl _) _)) ⟨w3.heap.size,0,none⟩ 1 1 [.int .i64 (M1.up us i).dr,.int .i64 (M1.up us i).dn,.int .i64 (M1.up us i).sw,.int .i64 (M1.up us i).sc,.int .i64 (M1.up us i).sr,.int .i64 (M1.up us i).k,.int .i64 (M1.up us i).tr,.int .i64 (M1.up us i).id,.int .i64 (M1.up us i).pa,.string (M1.up us i).s,.int .i64 (M1.up us i).st,.int .i64 (M1.up us i).en,.int .i64 (M1.up us i).lv] rfl rfl (news13 _ _ _ _ _ _ _ _ _ _ _ _ _ _ _) (one13 _) (by omega) (by unfold maxLen;omega) (by omega) (by simp;omega) _ rfl ?_;intro g4 cap4 w4 hown4 hgrow4 hat4 hlt4)
   have hbase:=owns_base own3;have hB4:Below w.heap.size w w4:=(hB3.alloc hB3.size _).grown hgrow4 (by simp;omega) (fun k e=>by have:=hbase k e;omega);have hI4:=hI3.below ((Below.refl _ _).alloc (Nat.le_refl _) (.cells #[.int .i64 (M1.up us i).dr,.int .i64 (M1.up us i).dn,.int .i64 (M1.up us i).sw,.int .i64 (M1.up us i).sc,.int .i64 (M1.up us i).sr,.int .i64 (M1.up us i).k,.int .i64 (M1.up us i).tr,.int .i64 (M1.up us i).id,.int .i64 (M1.up us i).pa,.string (M1.up us i).s,.int .i64 (M1.up us i).st,.int .i64 (M1.up us i).en,.int .i64 (M1.up us i).lv] 72));have hI4':ItN w4 w.heap.size b us (sn ++ [i]):=hI4.kept (hgrow4.block _ (by have:=hI4.rlt;exact this) (fun e=>by have:=hbase _ e.symm;omega)) (hgrow4.block _ (by have:=hI4.map.lt;exact this) (fun e=>by have:=hbase _ e.symm;omega));have el:(sn ++ [i]).length=sn.length+1:=by simp
   have hl4:=hI4'.len;rw [el] at hl4;have em:ucL ((sn ++ [i]).map (M1.up us))=ucL (sn.map (M1.up us)) ++ ucs (M1.up us i):=by rw [List.map_append];exact ucL_snoc _ _
   exact ⟨⟨sn ++ [i],hI4',by rw [el,em];exact hown4,hB4⟩,by simp [lenOf];omega⟩
def Jd (w w':World)(e:Ending)(ns:List M1.Upd)(ok:Bool):Prop:=∃ av cap,e=.returned (.tuple #[.slice av ns.length cap,.bool ok])∧MU w' av ns.length cap w.heap.size w'.heap.size (ucell ns)
theorem jd_nil (w w':World):Jd w w' (.returned (.tuple #[.slice none 0 0,.bool false])) [] false:=⟨none,0,rfl,Nat.le_refl _,Nat.zero_le _,Or.inl ⟨rfl,rfl⟩⟩
set_option maxHeartbeats 160000000 in
set_option maxRecDepth 100000 in
theorem joined_impl (av bv:Option Addr)(n cn m cm:Nat)(xs ys:List M1.Upd)(w:World)(h1:IsUpds w av n cn xs)(h2:IsUpds w bv m cm ys) :
  Calls Tryz.prog 55 #[.slice av n cn,.slice bv m cm] w fun e w'=>Jd w w' e (M1.jL xs ys) (M1.jOk xs ys)∧Below w.heap.size w w':=by
 have hl2:Hid (ys.length=m):=h2.hlen;have hl1:Hid (xs.length=n):=h1.hlen;have hm3:=h2.hcap;have hm4:=h2.hmost;unfold maxLen at hm4;by_cases hag:M1.agreeB xs ys=true
 ·have HAG:Hid (M1.agreeB xs ys=true):=hag
  obtain ⟨hs1,hs2,hs3⟩:=M1.agreeB_true hag;have ha:Hid (M1.apart xs):=M1.ok_apart (M1.setOk_all hs1);have hx60:=M1.setOk_len hs1;have hy60:=M1.setOk_len hs2;have hsrt:=M1.jl_all (ys:=ys) (M1.ok_sorted (M1.setOk_all hs1)) ys.length;have HSRT:Hid ((M1.jl xs ys).Pairwise M1.dd∧(M1.putsTo xs ys ys.length).Perm (M1.jl xs ys)):=hsrt;have HLEN:Hid ((M1.putsTo xs ys ys.length).length≤1000):=(by have:=M1.puts_len (xs:=xs) (ys:=ys) ys.length;omega:(M1.putsTo xs ys ys.length).length≤1000)
  clear hs1 hs2 hs3 hsrt hx60 hy60;go_enter Tryz.func55,Tryz.ntmps55
  go_wp2_with fail
  refine (agree_impl _ _ _ _ _ _ _ _ _ h1 h2).mono ?_;rw [hag];clear hag;rintro e w1 ⟨rfl,hb1⟩;go_wp2_with fail
  refine (setFromN_any _ _ _ _ _ (h1.below hb1) ha).mono ?_;rintro e w2 ⟨⟨b,rfl,hbb,hM2⟩,hb2⟩;have hB2:=hb1.trans (hb2.mono hb1.size);have hs1:=hb1.size;go_wp2_with fail
  go_loopw [17] (fun i wr=>∃ k:Nat,k≤m∧i=.int .i64 k∧Below w.heap.size w wr∧MapN wr b (M1.putsTo xs ys k)) (fun i _=>m-(intOf i).toNat)
  case atStart=>exact ⟨0,Nat.zero_le _,rfl,hB2,hM2⟩
  case round =>
   clear hM2 hB2;obtain ⟨k,hk,rfl,hB,hmap⟩:=hrel;have hs0:=hmap.lt;have hsz:=hB.size;by_cases hlt:k<m
   ·have g1:=h2.below hB
    rcases g1.hlies with h0 | ⟨c,off,rfl,hb,hc⟩
    ·omega
    obtain ⟨c0,c1,c2,c3,c4,c5,c6,c7,c8,c9,c10,c11,c12⟩:=hc k hlt;have i0:(0:Int)≤(k:Int):=by omega
    have i1:(k:Int)<(m:Int):=by omega
    clear hc g1;have hsame:Hid (∀ x,M1.fd (M1.putsTo xs ys k) (M1.up ys k).dr (M1.up ys k).dn=some x→x=M1.up ys k):=M1.puts_same HAG.out (by rw [hl2.out];exact hlt);go_wp2_with (at_mapUpdate;refine wpList_putN rfl _ _ _ rfl b (M1.putsTo xs ys k) (M1.up ys k) rfl (hmap.alloc _) hsame.out rfl rfl ?_;intro w3 hm3 hg3)
    exact ⟨⟨k+1,by omega,by go_num,(hB.alloc hB.size _).grown hg3 (by simp;omega) (fun j e=>by cases e;omega),hm3⟩,by simp [intOf];omega⟩
   ·have hkm:Hid (k=ys.length):=(by have:=hl2.out;omega:k=ys.length)
    rw [hkm.out] at hmap;go_wp2_with fail
    refine (told_any b _ _ hmap (M1.puts_txt HAG.out) HLEN.out).mono ?_;rintro e w4 ⟨ns,hp,hso,hres,hb4⟩;have hns:ns=M1.jl xs ys:=M1.told_is HSRT.out.1 HSRT.out.2 hp hso;subst hns;have hB4:=hB.trans (hb4.mono hB.size);clear hp hso hmap;rcases hres with ⟨hok,av4,cap4,rfl,mu4⟩ | ⟨hok,rfl⟩
    ·have q:=M1.j_yes HAG.out hok
     have Q1:Hid (M1.jOk xs ys=true):=q.1;have Q2:Hid (M1.jL xs ys=M1.jl xs ys):=q.2;clear q hok;go_wp2_with fail
     refine bodyPost_ret (v:=.tuple #[.slice av4 (M1.jl xs ys).length cap4,.bool true]) (by simp [results,Tryz.results55,go_sem]) rfl ⟨?_,hB4⟩;rw [Q1.out,Q2.out];exact ⟨av4,cap4,rfl,mu4.1,mu4.2.1,mu4.2.2.imp id fun ⟨g,e,h3,h4,r⟩=>⟨g,e,by omega,h4,r⟩⟩
    ·have q:=M1.j_not hok
     have Q1:Hid (M1.jOk xs ys=false):=q.1;have Q2:Hid (M1.jL xs ys=[]):=q.2;clear q hok;go_wp2_with fail
     refine bodyPost_ret (v:=.tuple #[.slice none 0 0,.bool false]) (by simp [results,Tryz.results55,go_sem]) rfl ⟨?_,hB4⟩;rw [Q1.out,Q2.out];exact jd_nil _ _
 ·replace hag:M1.agreeB xs ys=false:=by simpa using hag
  have q:=M1.j_no hag;rw [q.1,q.2];clear q;go_enter Tryz.func55,Tryz.ntmps55
  go_wp2_with fail
  refine (agree_impl _ _ _ _ _ _ _ _ _ h1 h2).mono ?_;rw [hag];rintro e w1 ⟨rfl,hb1⟩;go_wp2_with fail
  refine bodyPost_ret (v:=.tuple #[.slice none 0 0,.bool false]) (by simp [results,Tryz.results55,go_sem]) rfl ⟨jd_nil _ _,hb1⟩
theorem MapN.set {w:World}{b:Nat}{us:List M1.Upd}(h:MapN w b us){a:Addr}(ha:¬b=a.block)(u:Value):MapN (w.setCell a u) b us :=
 h.block (Below.heap_setCell _ _ _ _ ha)
end Go.Proofs.YtgcinolbkllkkaaGreat
namespace M1
end M1
namespace Go.Proofs.YtgcinolbkllkkaaGreat
open Go.ChangeShapes Go.WideShapes Go.ChangeAt Go.RowKit
def RgD (w w':World)(v:Value)(r:M1.Rg):Prop:=∃ av cap,v=.agg #[.int .i64 r.id,.int .i64 r.a,.int .i64 r.b,.int .i64 r.c,.slice av r.us.length cap]∧MU w' av r.us.length cap w.heap.size w'.heap.size (ucell r.us)
theorem rOk_short {r:M1.Rg}(h:M1.rOk r=true):(∀ i,i<r.us.length→(M1.up r.us i).s.size≤1000)∧r.us.length≤60 :=
 ⟨fun i hi=>by have:=M1.ok_txt (M1.okAt_ok (M1.setOk_all (M1.rOk_set h) i hi));omega,M1.setOk_len (M1.rOk_set h)⟩
theorem wpList_appU {w:World}{ops:Array Oper}{rest:List Oper}{o:Oper}{a:Act}{Q:Exit→Act→World→Prop}(hw:Region.wanted o (yielded ops a.tmps)=true)(s x:Operand)
  (ho:o.op=.call { callee:=.builtin .append,args:=#[s,x],argTypes:=#[32,32] })
  (base:Nat) (xv:Option Addr) (xc n:Nat) (ns:List M1.Upd) (hn:ns.length=n) (hs:a.eval s=.slice xv n xc) (hown:w.ownsRow base 72 13 (.slice xv n xc) n (ucL ns))
  (yv:Option Addr) (m yc:Nat) (ys:List M1.Upd) (hx:a.eval x=.slice yv m yc) (hy:IsUpds w yv m yc ys) (hlen:n+m≤1000000) (hbase:base≤w.heap.size)
  (h:∀ av cap w',w'.ownsRow base 72 13 (.slice av (n+m) cap) (n+m) (ucL (ns ++ ys))→Below base w w'→wpList Tryz.prog ops Q rest (a.put o.dst (.slice av (n+m) cap)) w'):wpList Tryz.prog ops Q (o :: rest) a w:=by
 obtain ⟨ti,hi1,hi2,hi3,hi4⟩:=infoUpd;refine wpList_step fun K hK=>?_;rw [if_pos hw];by_cases hm0:m=0
 ·subst hm0
  have hys:ys=[]:=List.eq_nil_of_length_eq_zero hy.hlen;subst hys;have hrun:=run_append_zero (P:=Tryz.prog) (w:=w) base 32 o.type 72 ti 13 Tryz.underlying32 hi1 (.slice xv n xc) n (ucL ns) hown yv yc;unfold Oper.wp;simp [execOp,ho,resolve,invoke,builtin,hs,hx,hrun,Result.andThen]
  refine hK _ _ (h xv xc w ?_ (Below.refl _ _))
  simpa using hown
 ·rcases hy.hlies with h0 | ⟨b,off,rfl,hb,hc⟩
  ·exact absurd h0 hm0
  have hnews:∀ j u,(ucL ys)[j]?=some u→w.cell? ((⟨b,off,none⟩:Addr).add j)=some u:=by
   have:=ucL_take_cells (w:=w) (b:=b) (off:=off) (n:=m) (us:=ys) hc hy.hlen 0 m (by omega);have e:(ys.drop 0).take m=ys:=by rw [List.drop_zero,←hy.hlen,List.take_length]
   rw [e] at this
   simpa using this
  refine wp_append_lies w s x 32 ho base 72 ti _ 13 112 Tryz.underlying32 hi1 hi2 hi3 hi4 rfl (by omega) (.slice xv n xc) n (ucL ns) hs hown ⟨b,off,none⟩ m yc (ucL ys) hx (by rw [ucL_len,hy.hlen]) hnews (ucL_one ys) (by omega) (by unfold maxLen;omega) (by omega) hbase _ rfl ?_;intro g cap w' hown' hgrow hat hlt;refine hK _ _ (h _ _ _ ?_ ?_)
  ·rw [ucL_app];exact hown'
  ·exact (Below.refl base w).grown hgrow hbase (owns_base hown)
end Go.Proofs.YtgcinolbkllkkaaGreat
