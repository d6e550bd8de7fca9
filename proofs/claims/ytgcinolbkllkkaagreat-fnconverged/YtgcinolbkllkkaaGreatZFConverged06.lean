/-
  Texts of one proof, joined: Put.
-/
import Derived.Test.YtgcinolbkllkkaaGreatZFConverged05
import Derived.Laws.AppendOwnNone
set_option linter.unusedSimpArgs false
set_option linter.unusedVariables false
namespace M1
def PutR (us:List Upd)(u:Upd)(ns:List Upd):Prop :=
 ∃ k,k≤us.length∧(∀ j,j<k→dahead (up us j).dr (up us j).dn u.dr u.dn=true)∧(k=us.length∨dahead (up us k).dr (up us k).dn u.dr u.dn=false) ∧
  ((k<us.length∧(up us k).dr=u.dr∧(up us k).dn=u.dn∧ns=us.take k ++ us.drop k)∨((¬(k<us.length∧(up us k).dr=u.dr∧(up us k).dn=u.dn))∧ns=(us.take k ++ [u]) ++ us.drop k))
theorem PutR.len {us:List Upd}{u:Upd}{ns:List Upd}(h:PutR us u ns):ns.length≤us.length+1:=by
 obtain ⟨k,hk,_,_,⟨_,_,_,e⟩ | ⟨_,e⟩⟩:=h
 ·rw [e,List.take_append_drop];omega
 ·rw [e];simp;omega
end M1
namespace Go
theorem run_append_zero {P:Program}{w:World}(base:Nat)(t ty e:TypeId)(i:TypeInfo)(size:Nat)(ht:P.underlying t=some (.slice e))(hi:P.info? e=some i)
  (v:Value) (n:Nat) (xs:List Value) (hown:w.ownsRow base e size v n xs) (x:Option Addr) (c:Nat) :
  (Builtin.append_ #[t,t] ty #[v,.slice x 0 c]).run P w=.ok v w:=by
 rcases hown.2 with ⟨rfl,rfl⟩ | ⟨g,cap,cur,rfl,_,_,hnc,_⟩
 ·cases x <;> simp [Builtin.append_,run_underlying ht,sizeOf,typeInfo,hi,Builtin.lenOf,Builtin.firstCells,loadCells,loadCellsFrom]
 ·cases x <;> simp [Builtin.append_,run_underlying ht,sizeOf,typeInfo,hi,Builtin.lenOf,Builtin.firstCells,hnc,storeCells,loadCells,loadCellsFrom]
theorem wpList_append_zero {P:Program}{w:World}{ops:Array Oper}{rest:List Oper}{o:Oper}{a:Act}{Q:Exit→Act→World→Prop}(hgd:o.guard=none)(s x:Operand)(t:TypeId)
  (ho:o.op=.call { callee:=.builtin .append,args:=#[s,x],argTypes:=#[t,t] })
  (base:Nat) (e:TypeId) (i:TypeInfo) (size:Nat) (ht:P.underlying t=some (.slice e)) (hi:P.info? e=some i)
  (v:Value) (n:Nat) (xs:List Value) (hs:a.eval s=v) (hown:w.ownsRow base e size v n xs) (y:Option Addr) (c:Nat) (hx:a.eval x=.slice y 0 c)
  (h:wpList P ops Q rest (a.put o.dst v) w):wpList P ops Q (o :: rest) a w:=by
 refine wpList_plain hgd fun K hK=>?_;have hrun:=run_append_zero (P:=P) (w:=w) base t o.type e i size ht hi v n xs hown y c;unfold Oper.wp;simp [execOp,ho,resolve,invoke,builtin,hs,hx,hrun,Result.andThen]
 exact hK _ _ h
end Go
namespace Go.Proofs.YtgcinolbkllkkaaGreat
open Go.ChangeShapes Go.WideShapes Go.ChangeAt Go.RowKit
theorem ucL_take_cells {w:World}{b off n:Nat}{us:List M1.Upd}(h:∀ i,i<n→UCells w b (off+i*13) (M1.up us i))(hl:us.length=n)(s m:Nat)(hm:s+m≤n) :
  ∀ j v,(ucL ((us.drop s).take m))[j]?=some v→w.cell? ((⟨b,off+s*13,none⟩:Addr).add j)=some v:=by
 intro j v hv;have hlen:((us.drop s).take m).length=m:=by simp;omega
 have hj:j<m*13:=by
  have:=(List.getElem?_eq_some_iff.1 hv).1;rw [ucL_len,hlen] at this;exact this
 have hg:=ucL_get ((us.drop s).take m) j (by rw [hlen];exact hj);have hv2:(ucL ((us.drop s).take m)).getD j undef=v:=by simp [List.getD,hv]
 rw [hg] at hv2;unfold ucell at hv2;have hup:M1.up ((us.drop s).take m) (j / 13)=M1.up us (s+j / 13):=by
  unfold M1.up;simp [List.getD,List.getElem?_take,List.getElem?_drop,show j / 13<m by omega]
 rw [hup] at hv2;have hc:=h (s+j / 13) (by omega);rw [Go.WideShapes.add_plain];have ho:off+s*13+j=off+(s+j / 13)*13+j % 13:=by omega
 rw [ho];obtain ⟨c0,c1,c2,c3,c4,c5,c6,c7,c8,c9,c10,c11,c12⟩:=hc;have hr:j % 13<13:=by omega
 generalize j % 13=q at hv2 hr ⊢
 match q,hr with
 | 0,_=>rw [←hv2];exact c0
 | 1,_=>rw [←hv2];exact c1
 | 2,_=>rw [←hv2];exact c2
 | 3,_=>rw [←hv2];exact c3
 | 4,_=>rw [←hv2];exact c4
 | 5,_=>rw [←hv2];exact c5
 | 6,_=>rw [←hv2];exact c6
 | 7,_=>rw [←hv2];exact c7
 | 8,_=>rw [←hv2];exact c8
 | 9,_=>rw [←hv2];exact c9
 | 10,_=>rw [←hv2];exact c10
 | 11,_=>rw [←hv2];exact c11
 | 12,_=>rw [←hv2];exact c12
theorem ucL_app (a b:List M1.Upd):ucL (a ++ b)=ucL a ++ ucL b:=List.flatMap_append
theorem ucL_one (us:List M1.Upd):∀ v∈ucL us,v.oneCell'=true:=by
 intro v hv;unfold ucL at hv;rw [List.mem_flatMap] at hv;obtain ⟨u,_,hu⟩:=hv;exact one13 u v hu
theorem nest_dot (a b x y:Int)(w:World):(if a=x then (if b=y then Result.ok (Next.value (Value.bool true)) w else Result.ok (Next.value (Value.bool false)) w) else Result.ok (Next.value (Value.bool false)) w)=Result.ok (Next.value (Value.bool (decide (a=x∧b=y)))) w:=by
 by_cases h1:a=x
 ·by_cases h2:b=y
  ·simp [h1,h2]
  ·simp [h1,h2]
 ·simp [h1]
set_option maxHeartbeats 64000000 in
set_option maxRecDepth 100000 in
theorem l3Put_any (av:Option Addr)(n cn:Nat)(us:List M1.Upd)(u:M1.Upd)(w:World)(h1:IsUpds w av n cn us)(hn:n≤1048576) :
  Calls Tryz.prog 95 #[.slice av n cn,.agg #[.int .i64 u.dr,.int .i64 u.dn,.int .i64 u.sw,.int .i64 u.sc,.int .i64 u.sr,.int .i64 u.k,.int .i64 u.tr,.int .i64 u.id,.int .i64 u.pa,.string u.s,.int .i64 u.st,.int .i64 u.en,.int .i64 u.lv]] w fun e w'=>(∃ v ns,e=.returned v∧M1.PutR us u ns∧w'.ownsRow w.heap.size 72 13 v ns.length (ucL ns))∧Below w.heap.size w w':=by
 have hm1:=h1.hcap;have hm2:=h1.hmost;have hl1:Hid (us.length=n):=h1.hlen;unfold maxLen at hm2;obtain ⟨ti,hi1,hi2,hi3,hi4⟩:=infoUpd;have hi4':Hid (ti.bytes=112):=hi4;have hi2':Hid (ti.zero=some (.agg #[.int .i64 0,.int .i64 0,.int .i64 0,.int .i64 0,.int .i64 0,.int .i64 0,.int .i64 0,.int .i64 0,.int .i64 0,.string ByteArray.empty,.int .i64 0,.int .i64 0,.int .i64 0])):=hi2;have hi3':Hid (ti.size=13):=hi3;have hi1':Hid (Tryz.prog.info? 72=some ti):=hi1;clear hi1 hi2 hi3 hi4;go_enter Tryz.func95,Tryz.ntmps95
 go_wp2_with fail
 go_loopw [5] (fun i wr=>∃ k:Nat,k≤n∧i=.int .i64 k∧Below (w.heap.size+1) (w.alloc (.cells #[.int .i64 u.dr,.int .i64 u.dn,.int .i64 u.sw,.int .i64 u.sc,.int .i64 u.sr,.int .i64 u.k,.int .i64 u.tr,.int .i64 u.id,.int .i64 u.pa,.string u.s,.int .i64 u.st,.int .i64 u.en,.int .i64 u.lv] 72)) wr∧Hid (∀ j,j<k→M1.dahead (M1.up us j).dr (M1.up us j).dn u.dr u.dn=true)) (fun i _=>n-(intOf i).toNat)
 case atStart=>exact ⟨0,Nat.zero_le _,rfl,Below.refl _ _,fun j hj=>absurd hj (Nat.not_lt_zero _)⟩
 case round =>
  obtain ⟨k,hk,rfl,hB0,hall⟩:=hrel;have hBx:Below w.heap.size w wr:=((Below.refl _ _).alloc (Nat.le_refl _) _).trans (hB0.mono (by omega));have hsz:=hB0.size;simp at hsz
  have bx:∀ o,wr.cell? ⟨w.heap.size,o,none⟩=(w.alloc (.cells #[.int .i64 u.dr,.int .i64 u.dn,.int .i64 u.sw,.int .i64 u.sc,.int .i64 u.sr,.int .i64 u.k,.int .i64 u.tr,.int .i64 u.id,.int .i64 u.pa,.string u.s,.int .i64 u.st,.int .i64 u.en,.int .i64 u.lv] 72)).cell? ⟨w.heap.size,o,none⟩:=fun o=>hB0.cell (p:=⟨w.heap.size,o,none⟩) (by show w.heap.size<w.heap.size+1;omega);have b0:wr.cell? ⟨w.heap.size,0,none⟩=some (.int .i64 u.dr):=by rw [bx];simp
  have b1:wr.cell? ⟨w.heap.size,1,none⟩=some (.int .i64 u.dn):=by rw [bx];simp
  have b2:wr.cell? ⟨w.heap.size,2,none⟩=some (.int .i64 u.sw):=by rw [bx];simp
  have b3:wr.cell? ⟨w.heap.size,3,none⟩=some (.int .i64 u.sc):=by rw [bx];simp
  have b4:wr.cell? ⟨w.heap.size,4,none⟩=some (.int .i64 u.sr):=by rw [bx];simp
  have b5:wr.cell? ⟨w.heap.size,5,none⟩=some (.int .i64 u.k):=by rw [bx];simp
  have b6:wr.cell? ⟨w.heap.size,6,none⟩=some (.int .i64 u.tr):=by rw [bx];simp
  have b7:wr.cell? ⟨w.heap.size,7,none⟩=some (.int .i64 u.id):=by rw [bx];simp
  have b8:wr.cell? ⟨w.heap.size,8,none⟩=some (.int .i64 u.pa):=by rw [bx];simp
  have b9:wr.cell? ⟨w.heap.size,9,none⟩=some (.string u.s):=by rw [bx];simp
  have b10:wr.cell? ⟨w.heap.size,10,none⟩=some (.int .i64 u.st):=by rw [bx];simp
  have b11:wr.cell? ⟨w.heap.size,11,none⟩=some (.int .i64 u.en):=by rw [bx];simp
  have b12:wr.cell? ⟨w.heap.size,12,none⟩=some (.int .i64 u.lv):=by rw [bx];simp
  have hlw:w.heap.size<wr.heap.size:=by omega
  have g1:=h1.below hBx;by_cases hlt:k<n
  ·rcases g1.hlies with h0 | ⟨b,off,rfl,hbl,hc⟩
   ·omega
   obtain ⟨c0,c1,c2,c3,c4,c5,c6,c7,c8,c9,c10,c11,c12⟩:=hc k hlt;have i0:(0:Int)≤(k:Int):=by omega
   have i1:(k:Int)<(n:Int):=by omega
   have hkb:decide ((k:Int)<(n:Int))=true:=decide_eq_true (by omega);have hkb2:decide (k<n)=true:=decide_eq_true (by omega);by_cases hd:M1.dahead (M1.up us k).dr (M1.up us k).dn u.dr u.dn=true
   ·have HQ:Hid (∀ j,j<k+1→M1.dahead (M1.up us j).dr (M1.up us j).dn u.dr u.dn=true):=fun j hj=>by
     by_cases e:j=k
     ·rw [e];exact hd
     ·exact hall.out j (by omega)
    clear hall hc g1 bx;go_wp2_with fail
    refine wp_region_held_drew (S:=fun w'=>Kp wr w') (by kernel_rfl) ?_ (fun zH=>?_)
    ·exact kp_zero _
    refine uZ 0 ?_;simp only[pZ,zZ];refine uZ 1 ?_;simp only[pZ,zZ];refine uZ 2 ?_;simp only[pZ,zZ];refine uZ 3 ?_;simp only[pZ,zZ];refine uZ 4 ?_;simp only[pZ,zZ];refine uZ 5 ?_;simp only[pZ,zZ];refine uZ 6 ?_;simp only[pZ,zZ];refine uZ 7 ?_;simp only[pZ,zZ];refine uZ 8 ?_;simp only[pZ,zZ];refine uZ 9 ?_;simp only[pZ,zZ];refine uZ 10 ?_;simp only[pZ,zZ];refine uZ 11 ?_;simp only[pZ,zZ];refine sZ 12 fun K hK=>?_;go_simp
    (refine (dahead_spec _ _ _ _ _).mono ?_;rw [hd];rintro e w' ⟨rfl,hb⟩;go_wp2_with fail)
    refine hK.out _ _ ?_ (fun zH2=>?_)
    ·exact kp_step zH hb
    clear hK K zH;have zH:=zH2;clear zH2;(try simp only[pZ,zZ]);refine uZ 13 ?_;simp only[pZ,zZ];refine dZ ?_;have hK1:=zH;clear zH;have hB1:=hB0.trans (hK1.1.mono (by omega));clear hK1;go_wp2_with fail
    exact ⟨⟨k+1,by omega,by go_num,hB1,HQ⟩,by simp [intOf];omega⟩
   ·replace hd:M1.dahead (M1.up us k).dr (M1.up us k).dn u.dr u.dn=false:=by simpa using hd
    clear bx;go_wp2_with fail
    refine wp_region_held_drew (S:=fun w'=>Kp wr w') (by kernel_rfl) ?_ (fun zH=>?_)
    ·exact kp_zero _
    refine uZ 0 ?_;simp only[pZ,zZ];refine uZ 1 ?_;simp only[pZ,zZ];refine uZ 2 ?_;simp only[pZ,zZ];refine uZ 3 ?_;simp only[pZ,zZ];refine uZ 4 ?_;simp only[pZ,zZ];refine uZ 5 ?_;simp only[pZ,zZ];refine uZ 6 ?_;simp only[pZ,zZ];refine uZ 7 ?_;simp only[pZ,zZ];refine uZ 8 ?_;simp only[pZ,zZ];refine uZ 9 ?_;simp only[pZ,zZ];refine uZ 10 ?_;simp only[pZ,zZ];refine uZ 11 ?_;simp only[pZ,zZ];refine sZ 12 fun K hK=>?_;go_simp
    (refine (dahead_spec _ _ _ _ _).mono ?_;rw [hd];rintro e W1 ⟨rfl,hb⟩;go_wp2_with fail)
    refine hK.out _ _ ?_ (fun zH2=>?_)
    ·exact kp_step zH hb
    clear hK K zH;have zH:=zH2;clear zH2;(try simp only[pZ,zZ]);refine uZ 13 ?_;simp only[pZ,zZ];refine dZ ?_;by_cases hq:(M1.up us k).dr=u.dr∧(M1.up us k).dn=u.dn
    ·skip
     by_cases hk0:k=0
     ·subst hk0
      have hK1:=zH;clear zH;have hKB:Below wr.heap.size wr W1:=hK1.1;have hB1:Below w.heap.size w W1:=hBx.trans (hKB.mono hBx.size);have hsz1:=hB1.size;have hszw:=hKB.size;clear hK1;have own0:=ownsU_empty W1 72;have hE:Below W1.heap.size W1 (W1.alloc (.cells #[] 72)):=(Below.refl _ _).alloc (Nat.le_refl _) _;go_wp2_with (at_builtin;(refine wpList_append_zero rfl _ _ _ rfl W1.heap.size 72 ti 13 Tryz.underlying32 hi1'.out _ 0 (ucL []) rfl own0 _ _ rfl ?_))
      have hX:=hE;have own1:=own0;obtain ⟨X,hXe⟩:∃ X,W1.alloc (.cells #[] 72)=X:=⟨_,rfl⟩
      rw [hXe] at hX own1 ⊢;clear hXe own0 hE;have c0':wr.cell? ⟨b,off,none⟩=some (.int .i64 (M1.up us 0).dr):=by simpa using c0
      have c1':wr.cell? ⟨b,off+1,none⟩=some (.int .i64 (M1.up us 0).dn):=by simpa using c1
      have hXs:=hX.size;have hwX:Below wr.heap.size wr X:=hKB.trans (hX.mono hszw);obtain ⟨rX,fX⟩:=bcell hwX;have hlX:w.heap.size<X.heap.size:=by omega
      have hbX:b<X.heap.size:=by omega
      have HQ:Hid (((M1.up us 0).dr=u.dr∧(M1.up us 0).dn=u.dn)):=hq;clear hq;go_wp2_with fail
      refine wp_region_held_drew (S:=fun w'=>Kp X w') (by kernel_rfl) ?_ (fun zH=>?_)
      ·exact kp_zero _
      refine uZ 0 ?_;simp only[pZ,zZ];refine uZ 1 ?_;simp only[pZ,zZ];refine uZ 2 ?_;simp only[pZ,zZ];refine uZ 3 ?_;simp only[pZ,zZ];refine uZ 4 ?_;simp only[pZ,zZ];refine uZ 5 ?_;simp only[pZ,zZ];refine uZ 6 ?_;simp only[pZ,zZ];refine uZ 7 ?_;simp only[pZ,zZ];refine uZ 8 ?_;simp only[pZ,zZ];refine uZ 9 ?_;simp only[pZ,zZ];refine uZ 10 ?_;simp only[pZ,zZ];refine uZ 11 ?_;simp only[pZ,zZ];refine tZ (i:=12) (v:=.bool true) rfl (.inl ⟨by rfl,?_⟩) zH ?_
      ·(intro w hSw;(try dsimp only at hSw);go_simp;exact (nest_dot _ _ _ _ _).trans (by rw [decide_eq_true HQ.out]))
      (try simp only[pZ,zZ]);refine uZ 13 ?_;simp only[pZ,zZ];refine dZ ?_;generalize X.drew=Y at zH ⊢;have hXY:=zH.1;have rY:=zH.2;clear zH;have hY:Below W1.heap.size W1 Y:=hX.trans (hXY.mono hX.size);have own2:=owns_below own1 hXY;have hYs:=hXY.size;have hYb:=hY.size;have hlY:w.heap.size<Y.heap.size:=by omega
      clear own1 hX;have lr:us.length=n:=by have:=hl1.out;omega
      have hcY:∀ i,i<n→UCells Y b (off+i*13) (M1.up us i):=fun i hi=>(hc i hi).below (hKB.trans (hY.mono hszw)) hbl;go_wp2_with (at_builtin;(refine wpList_append_lies _ rfl _ _ _ rfl W1.heap.size 72 ti _ 13 112 Tryz.underlying32 hi1'.out hi2'.out hi3'.out hi4'.out rfl (by omega) _ 0 (ucL ([]:List M1.Upd)) rfl own2 ⟨b,off,none⟩ n cn (ucL us) rfl (by first | rfl | (rw [ucL_len,lk];done) | (rw [ucL_len,lr];done) | (rw [ucL_len];simp;omega)) ((by have q:=ucL_take_cells hcY hl1.out 0 n (by omega);rw [Nat.zero_mul,Nat.add_zero,List.drop_zero,List.take_of_length_le (by have:=hl1.out;omega)] at q;exact q)) (ucL_one _) (by omega) (by unfold maxLen;omega) (by omega) (by first | omega | (simp;done) | (simp;omega)) _ rfl ?_;intro g5 cap5 Z hown5 hgrow5 hat hltg))
      have hZ:Below W1.heap.size W1 Z:=hY.grown hgrow5 (by omega) (owns_base own2);have q:=owns_less hown5 hsz1;go_ret
      refine ⟨⟨_,us.take 0 ++ us.drop 0,rfl,⟨0,by have:=hl1.out;omega,hall.out,Or.inr hd,Or.inl ⟨by have:=hl1.out;omega,HQ.out.1,HQ.out.2,rfl⟩⟩,?_⟩,hB1.trans (hZ.mono hB1.size)⟩;have el:(us.take 0 ++ us.drop 0).length=n:=by rw [List.take_append_drop];exact hl1.out
      have eu:ucL (us.take 0 ++ us.drop 0)=ucL ([]:List M1.Upd) ++ ucL us:=by rw [List.take_zero,List.drop_zero,ucL_app]
      have e2:0+n=n:=by omega
      rw [el,eu]
      first | exact q | (rw [e2] at q;exact q)
     ·skip
      have hK1:=zH;clear zH;have hKB:Below wr.heap.size wr W1:=hK1.1;have hB1:Below w.heap.size w W1:=hBx.trans (hKB.mono hBx.size);have hsz1:=hB1.size;have hszw:=hKB.size;clear hK1;have own0:=ownsU_empty W1 72;have hE:Below W1.heap.size W1 (W1.alloc (.cells #[] 72)):=(Below.refl _ _).alloc (Nat.le_refl _) _;have hcE:∀ i,i<n→UCells (W1.alloc (.cells #[] 72)) b (off+i*13) (M1.up us i):=fun i hi=>((hc i hi).below hKB hbl).below hE (by omega);have cc:=ucL_take_cells hcE hl1.out 0 k (by omega);rw [Nat.zero_mul,Nat.add_zero,List.drop_zero] at cc;have lk:(us.take k).length=k:=by have:=hl1.out;simp;omega
      go_wp2_with (at_builtin;(refine wpList_append_lies _ rfl _ _ _ rfl W1.heap.size 72 ti _ 13 112 Tryz.underlying32 hi1'.out hi2'.out hi3'.out hi4'.out rfl (by omega) _ 0 (ucL []) rfl own0 ⟨b,off,none⟩ k cn (ucL (us.take k)) rfl (by first | rfl | (rw [ucL_len,lk];done) | (rw [ucL_len,lr];done) | (rw [ucL_len];simp;omega)) (cc) (ucL_one _) (by omega) (by unfold maxLen;omega) (by omega) (by first | omega | (simp;done) | (simp;omega)) _ rfl ?_;intro g3 cap3 X hown3 hgrow3 hat hltg))
      have hX:Below W1.heap.size W1 X:=hE.grown hgrow3 (by simp) (owns_base own0);have own1:X.ownsRow W1.heap.size 72 13 (.slice (some ⟨g3,0,none⟩) k cap3) k (ucL (us.take k)):=by simpa [ucL] using hown3
      clear own0 hE hown3 hgrow3 cc hat;have hXs:=hX.size;have hwX:Below wr.heap.size wr X:=hKB.trans (hX.mono hszw);obtain ⟨rX,fX⟩:=bcell hwX;have hlX:w.heap.size<X.heap.size:=by omega
      have hbX:b<X.heap.size:=by omega
      have HQ:Hid (((M1.up us k).dr=u.dr∧(M1.up us k).dn=u.dn)):=hq;clear hq;go_wp2_with fail
      refine wp_region_held_drew (S:=fun w'=>Kp X w') (by kernel_rfl) ?_ (fun zH=>?_)
      ·exact kp_zero _
      refine uZ 0 ?_;simp only[pZ,zZ];refine uZ 1 ?_;simp only[pZ,zZ];refine uZ 2 ?_;simp only[pZ,zZ];refine uZ 3 ?_;simp only[pZ,zZ];refine uZ 4 ?_;simp only[pZ,zZ];refine uZ 5 ?_;simp only[pZ,zZ];refine uZ 6 ?_;simp only[pZ,zZ];refine uZ 7 ?_;simp only[pZ,zZ];refine uZ 8 ?_;simp only[pZ,zZ];refine uZ 9 ?_;simp only[pZ,zZ];refine uZ 10 ?_;simp only[pZ,zZ];refine uZ 11 ?_;simp only[pZ,zZ];refine tZ (i:=12) (v:=.bool true) rfl (.inl ⟨by rfl,?_⟩) zH ?_
      ·(intro w hSw;(try dsimp only at hSw);go_simp;exact (nest_dot _ _ _ _ _).trans (by rw [decide_eq_true HQ.out]))
      (try simp only[pZ,zZ]);refine uZ 13 ?_;simp only[pZ,zZ];refine dZ ?_;generalize X.drew=Y at zH ⊢;have hXY:=zH.1;have rY:=zH.2;clear zH;have hY:Below W1.heap.size W1 Y:=hX.trans (hXY.mono hX.size);have own2:=owns_below own1 hXY;have hYs:=hXY.size;have hYb:=hY.size;have hlY:w.heap.size<Y.heap.size:=by omega
      clear own1 hX;have lr:(us.drop k).length=(n-k):=by have:=hl1.out;simp;omega
      have hcY:∀ i,i<n→UCells Y b (off+i*13) (M1.up us i):=fun i hi=>(hc i hi).below (hKB.trans (hY.mono hszw)) hbl;go_wp2_with (at_builtin;(refine wpList_append_lies _ rfl _ _ _ rfl W1.heap.size 72 ti _ 13 112 Tryz.underlying32 hi1'.out hi2'.out hi3'.out hi4'.out rfl (by omega) _ k (ucL (us.take k)) rfl own2 ⟨b,off+k*13,none⟩ (n-k) (cn-k) (ucL (us.drop k)) rfl (by first | rfl | (rw [ucL_len,lk];done) | (rw [ucL_len,lr];done) | (rw [ucL_len];simp;omega)) ((by have q:=ucL_take_cells hcY hl1.out k (n-k) (by omega);rw [List.take_of_length_le (show (us.drop k).length≤n-k by have:=hl1.out;simp;omega)] at q;exact q)) (ucL_one _) (by omega) (by unfold maxLen;omega) (by omega) (by first | omega | (simp;done) | (simp;omega)) _ rfl ?_;intro g5 cap5 Z hown5 hgrow5 hat hltg))
      have hZ:Below W1.heap.size W1 Z:=hY.grown hgrow5 (by omega) (owns_base own2);have q:=owns_less hown5 hsz1;go_ret
      refine ⟨⟨_,us.take k ++ us.drop k,rfl,⟨k,by have:=hl1.out;omega,hall.out,Or.inr hd,Or.inl ⟨by have:=hl1.out;omega,HQ.out.1,HQ.out.2,rfl⟩⟩,?_⟩,hB1.trans (hZ.mono hB1.size)⟩;have el:(us.take k ++ us.drop k).length=n:=by rw [List.take_append_drop];exact hl1.out
      have eu:ucL (us.take k ++ us.drop k)=ucL (us.take k) ++ ucL (us.drop k):=ucL_app _ _;have e2:k+(n-k)=n:=by omega
      rw [el,eu]
      first | exact q | (rw [e2] at q;exact q)
    ·skip
     by_cases hk0:k=0
     ·subst hk0
      have hK1:=zH;clear zH;have hKB:Below wr.heap.size wr W1:=hK1.1;have hB1:Below w.heap.size w W1:=hBx.trans (hKB.mono hBx.size);have hsz1:=hB1.size;have hszw:=hKB.size;clear hK1;have own0:=ownsU_empty W1 72;have hE:Below W1.heap.size W1 (W1.alloc (.cells #[] 72)):=(Below.refl _ _).alloc (Nat.le_refl _) _;go_wp2_with (at_builtin;(refine wpList_append_zero rfl _ _ _ rfl W1.heap.size 72 ti 13 Tryz.underlying32 hi1'.out _ 0 (ucL []) rfl own0 _ _ rfl ?_))
      have hX:=hE;have own1:=own0;obtain ⟨X,hXe⟩:∃ X,W1.alloc (.cells #[] 72)=X:=⟨_,rfl⟩
      rw [hXe] at hX own1 ⊢;clear hXe own0 hE;have c0':wr.cell? ⟨b,off,none⟩=some (.int .i64 (M1.up us 0).dr):=by simpa using c0
      have c1':wr.cell? ⟨b,off+1,none⟩=some (.int .i64 (M1.up us 0).dn):=by simpa using c1
      have hXs:=hX.size;have hwX:Below wr.heap.size wr X:=hKB.trans (hX.mono hszw);obtain ⟨rX,fX⟩:=bcell hwX;have hlX:w.heap.size<X.heap.size:=by omega
      have hbX:b<X.heap.size:=by omega
      have HQ:Hid (¬((M1.up us 0).dr=u.dr∧(M1.up us 0).dn=u.dn)):=hq;clear hq;go_wp2_with fail
      refine wp_region_held_drew (S:=fun w'=>Kp X w') (by kernel_rfl) ?_ (fun zH=>?_)
      ·exact kp_zero _
      refine uZ 0 ?_;simp only[pZ,zZ];refine uZ 1 ?_;simp only[pZ,zZ];refine uZ 2 ?_;simp only[pZ,zZ];refine uZ 3 ?_;simp only[pZ,zZ];refine uZ 4 ?_;simp only[pZ,zZ];refine uZ 5 ?_;simp only[pZ,zZ];refine uZ 6 ?_;simp only[pZ,zZ];refine uZ 7 ?_;simp only[pZ,zZ];refine uZ 8 ?_;simp only[pZ,zZ];refine uZ 9 ?_;simp only[pZ,zZ];refine uZ 10 ?_;simp only[pZ,zZ];refine uZ 11 ?_;simp only[pZ,zZ];refine tZ (i:=12) (v:=.bool false) rfl (.inl ⟨by rfl,?_⟩) zH ?_
      ·(intro w hSw;(try dsimp only at hSw);go_simp;first | exact (nest_dot _ _ _ _ _).trans (by rw [decide_eq_false HQ.out]) | exact fun a1 a2=>HQ.out ⟨a1,a2⟩)
      (try simp only[pZ,zZ]);refine uZ 13 ?_;simp only[pZ,zZ];refine dZ ?_;generalize X.drew=Y at zH ⊢;have hXY:=zH.1;have rY:=zH.2;clear zH;have hY:Below W1.heap.size W1 Y:=hX.trans (hXY.mono hX.size);have own2:=owns_below own1 hXY;have hYs:=hXY.size;have hYb:=hY.size;have hlY:w.heap.size<Y.heap.size:=by omega
      clear own1 hX;have lr:us.length=n:=by have:=hl1.out;omega
      go_wp2_with (at_builtin;first | (refine wpList_append_lies _ rfl _ _ _ rfl W1.heap.size 72 ti _ 13 112 Tryz.underlying32 hi1'.out hi2'.out hi3'.out hi4'.out rfl (by omega) _ 0 (ucL ([]:List M1.Upd)) rfl (owns_below own2 ((Below.refl _ _).alloc (Nat.le_refl _) _)) ⟨Y.heap.size,0,none⟩ 1 1 [.int .i64 u.dr,.int .i64 u.dn,.int .i64 u.sw,.int .i64 u.sc,.int .i64 u.sr,.int .i64 u.k,.int .i64 u.tr,.int .i64 u.id,.int .i64 u.pa,.string u.s,.int .i64 u.st,.int .i64 u.en,.int .i64 u.lv] rfl (by first | rfl | (rw [ucL_len,lk];done) | (rw [ucL_len,lr];done) | (rw [ucL_len];simp;omega)) (news13 _ _ _ _ _ _ _ _ _ _ _ _ _ _ _) (one13 u) (by omega) (by unfold maxLen;omega) (by omega) (by first | omega | (simp;done) | (simp;omega)) _ rfl ?_;intro g5 cap5 Z hown5 hgrow5 hat hltg;have hZ:Below W1.heap.size W1 Z:=(hY.alloc hYb _).grown hgrow5 (by simp;omega) (owns_base own2);have own3:Z.ownsRow W1.heap.size 72 13 (.slice (some ⟨g5,0,none⟩) 1 cap5) 1 (ucL (([]:List M1.Upd) ++ [u])):=(by rw [ucL_snoc];exact hown5);have hZs:=hZ.size;have hcZ:∀ i,i<n→UCells Z b (off+i*13) (M1.up us i):=fun i hi=>(hc i hi).below (hKB.trans (hZ.mono hszw)) hbl) | (refine wpList_append_lies _ rfl _ _ _ rfl W1.heap.size 72 ti _ 13 112 Tryz.underlying32 hi1'.out hi2'.out hi3'.out hi4'.out rfl (by omega) _ 1 (ucL (([]:List M1.Upd) ++ [u])) rfl own3 ⟨b,off,none⟩ n cn (ucL us) rfl (by first | rfl | (rw [ucL_len,lk];done) | (rw [ucL_len,lr];done) | (rw [ucL_len];simp;omega)) ((by have q:=ucL_take_cells hcZ hl1.out 0 n (by omega);rw [Nat.zero_mul,Nat.add_zero,List.drop_zero,List.take_of_length_le (by have:=hl1.out;omega)] at q;exact q)) (ucL_one _) (by omega) (by unfold maxLen;omega) (by omega) (by first | omega | (simp;done) | (simp;omega)) _ rfl ?_;intro g6 cap6 V hown6 hgrow6 hat hltg))
      have hV:Below W1.heap.size W1 V:=hZ.grown hgrow6 (by omega) (owns_base own3);have q:=owns_less hown6 hsz1
      all_goals
       go_ret
       first | refine ⟨⟨_,(us.take 0 ++ [u]) ++ us.drop 0,rfl,⟨0,by have:=hl1.out;omega,hall.out,Or.inr hd,Or.inr ⟨fun x=>HQ.out x.2,rfl⟩⟩,?_⟩,hB1.trans (hV.mono hB1.size)⟩ | refine ⟨⟨_,rfl,(us.take 0 ++ [u]) ++ us.drop 0,⟨0,by have:=hl1.out;omega,hall.out,Or.inr hd,Or.inr ⟨fun x=>HQ.out x.2,rfl⟩⟩,?_⟩,hB1.trans (hV.mono hB1.size)⟩
       have el:((us.take 0 ++ [u]) ++ us.drop 0).length=n+1:=by have:=hl1.out;simp;omega
       have eu:ucL ((us.take 0 ++ [u]) ++ us.drop 0)=ucL (([]:List M1.Upd) ++ [u]) ++ ucL us:=by rw [List.take_zero,List.drop_zero,ucL_app]
       have e2:1+n=n+1:=by omega
       rw [eu]
       first | (rw [el];rw [e2] at q;exact q) | (rw [el,←e2];exact q)
     ·skip
      have hK1:=zH;clear zH;have hKB:Below wr.heap.size wr W1:=hK1.1;have hB1:Below w.heap.size w W1:=hBx.trans (hKB.mono hBx.size);have hsz1:=hB1.size;have hszw:=hKB.size;clear hK1;have own0:=ownsU_empty W1 72;have hE:Below W1.heap.size W1 (W1.alloc (.cells #[] 72)):=(Below.refl _ _).alloc (Nat.le_refl _) _;have hcE:∀ i,i<n→UCells (W1.alloc (.cells #[] 72)) b (off+i*13) (M1.up us i):=fun i hi=>((hc i hi).below hKB hbl).below hE (by omega);have cc:=ucL_take_cells hcE hl1.out 0 k (by omega);rw [Nat.zero_mul,Nat.add_zero,List.drop_zero] at cc;have lk:(us.take k).length=k:=by have:=hl1.out;simp;omega
      go_wp2_with (at_builtin;(refine wpList_append_lies _ rfl _ _ _ rfl W1.heap.size 72 ti _ 13 112 Tryz.underlying32 hi1'.out hi2'.out hi3'.out hi4'.out rfl (by omega) _ 0 (ucL []) rfl own0 ⟨b,off,none⟩ k cn (ucL (us.take k)) rfl (by first | rfl | (rw [ucL_len,lk];done) | (rw [ucL_len,lr];done) | (rw [ucL_len];simp;omega)) (cc) (ucL_one _) (by omega) (by unfold maxLen;omega) (by omega) (by first | omega | (simp;done) | (simp;omega)) _ rfl ?_;intro g3 cap3 X hown3 hgrow3 hat hltg))
      have hX:Below W1.heap.size W1 X:=hE.grown hgrow3 (by simp) (owns_base own0);have own1:X.ownsRow W1.heap.size 72 13 (.slice (some ⟨g3,0,none⟩) k cap3) k (ucL (us.take k)):=by simpa [ucL] using hown3
      clear own0 hE hown3 hgrow3 cc hat;have hXs:=hX.size;have hwX:Below wr.heap.size wr X:=hKB.trans (hX.mono hszw);obtain ⟨rX,fX⟩:=bcell hwX;have hlX:w.heap.size<X.heap.size:=by omega
      have hbX:b<X.heap.size:=by omega
      have HQ:Hid (¬((M1.up us k).dr=u.dr∧(M1.up us k).dn=u.dn)):=hq;clear hq;go_wp2_with fail
      refine wp_region_held_drew (S:=fun w'=>Kp X w') (by kernel_rfl) ?_ (fun zH=>?_)
      ·exact kp_zero _
      refine uZ 0 ?_;simp only[pZ,zZ];refine uZ 1 ?_;simp only[pZ,zZ];refine uZ 2 ?_;simp only[pZ,zZ];refine uZ 3 ?_;simp only[pZ,zZ];refine uZ 4 ?_;simp only[pZ,zZ];refine uZ 5 ?_;simp only[pZ,zZ];refine uZ 6 ?_;simp only[pZ,zZ];refine uZ 7 ?_;simp only[pZ,zZ];refine uZ 8 ?_;simp only[pZ,zZ];refine uZ 9 ?_;simp only[pZ,zZ];refine uZ 10 ?_;simp only[pZ,zZ];refine uZ 11 ?_;simp only[pZ,zZ];refine tZ (i:=12) (v:=.bool false) rfl (.inl ⟨by rfl,?_⟩) zH ?_
      ·(intro w hSw;(try dsimp only at hSw);go_simp;first | exact (nest_dot _ _ _ _ _).trans (by rw [decide_eq_false HQ.out]) | exact fun a1 a2=>HQ.out ⟨a1,a2⟩)
      (try simp only[pZ,zZ]);refine uZ 13 ?_;simp only[pZ,zZ];refine dZ ?_;generalize X.drew=Y at zH ⊢;have hXY:=zH.1;have rY:=zH.2;clear zH;have hY:Below W1.heap.size W1 Y:=hX.trans (hXY.mono hX.size);have own2:=owns_below own1 hXY;have hYs:=hXY.size;have hYb:=hY.size;have hlY:w.heap.size<Y.heap.size:=by omega
      clear own1 hX;have lr:(us.drop k).length=(n-k):=by have:=hl1.out;simp;omega
      go_wp2_with (at_builtin;first | (refine wpList_append_lies _ rfl _ _ _ rfl W1.heap.size 72 ti _ 13 112 Tryz.underlying32 hi1'.out hi2'.out hi3'.out hi4'.out rfl (by omega) _ k (ucL (us.take k)) rfl (owns_below own2 ((Below.refl _ _).alloc (Nat.le_refl _) _)) ⟨Y.heap.size,0,none⟩ 1 1 [.int .i64 u.dr,.int .i64 u.dn,.int .i64 u.sw,.int .i64 u.sc,.int .i64 u.sr,.int .i64 u.k,.int .i64 u.tr,.int .i64 u.id,.int .i64 u.pa,.string u.s,.int .i64 u.st,.int .i64 u.en,.int .i64 u.lv] rfl (by first | rfl | (rw [ucL_len,lk];done) | (rw [ucL_len,lr];done) | (rw [ucL_len];simp;omega)) (news13 _ _ _ _ _ _ _ _ _ _ _ _ _ _ _) (one13 u) (by omega) (by unfold maxLen;omega) (by omega) (by first | omega | (simp;done) | (simp;omega)) _ rfl ?_;intro g5 cap5 Z hown5 hgrow5 hat hltg;have hZ:Below W1.heap.size W1 Z:=(hY.alloc hYb _).grown hgrow5 (by simp;omega) (owns_base own2);have own3:Z.ownsRow W1.heap.size 72 13 (.slice (some ⟨g5,0,none⟩) (k+1) cap5) (k+1) (ucL ((us.take k) ++ [u])):=(by rw [ucL_snoc];exact hown5);have hZs:=hZ.size;have hcZ:∀ i,i<n→UCells Z b (off+i*13) (M1.up us i):=fun i hi=>(hc i hi).below (hKB.trans (hZ.mono hszw)) hbl) | (refine wpList_append_lies _ rfl _ _ _ rfl W1.heap.size 72 ti _ 13 112 Tryz.underlying32 hi1'.out hi2'.out hi3'.out hi4'.out rfl (by omega) _ (k+1) (ucL ((us.take k) ++ [u])) rfl own3 ⟨b,off+k*13,none⟩ (n-k) (cn-k) (ucL (us.drop k)) rfl (by first | rfl | (rw [ucL_len,lk];done) | (rw [ucL_len,lr];done) | (rw [ucL_len];simp;omega)) ((by have q:=ucL_take_cells hcZ hl1.out k (n-k) (by omega);rw [List.take_of_length_le (show (us.drop k).length≤n-k by have:=hl1.out;simp;omega)] at q;exact q)) (ucL_one _) (by omega) (by unfold maxLen;omega) (by omega) (by first | omega | (simp;done) | (simp;omega)) _ rfl ?_;intro g6 cap6 V hown6 hgrow6 hat hltg))
      have hV:Below W1.heap.size W1 V:=hZ.grown hgrow6 (by omega) (owns_base own3);have q:=owns_less hown6 hsz1
      all_goals
       go_ret
       first | refine ⟨⟨_,(us.take k ++ [u]) ++ us.drop k,rfl,⟨k,by have:=hl1.out;omega,hall.out,Or.inr hd,Or.inr ⟨fun x=>HQ.out x.2,rfl⟩⟩,?_⟩,hB1.trans (hV.mono hB1.size)⟩ | refine ⟨⟨_,rfl,(us.take k ++ [u]) ++ us.drop k,⟨k,by have:=hl1.out;omega,hall.out,Or.inr hd,Or.inr ⟨fun x=>HQ.out x.2,rfl⟩⟩,?_⟩,hB1.trans (hV.mono hB1.size)⟩
       have el:((us.take k ++ [u]) ++ us.drop k).length=n+1:=by have:=hl1.out;simp;omega
       have eu:ucL ((us.take k ++ [u]) ++ us.drop k)=ucL ((us.take k) ++ [u]) ++ ucL (us.drop k):=ucL_app _ _;have e2:(k+1)+(n-k)=n+1:=by omega
       rw [eu]
       first | (rw [el];rw [e2] at q;exact q) | (rw [el,←e2];exact q)
  ·have hkn:k=n:=by omega
   have hkb:decide ((k:Int)<(n:Int))=false:=decide_eq_false (by omega);have hkb2:decide (k<n)=false:=decide_eq_false (by omega);clear bx;go_wp2_with fail
   refine wp_region_held_drew (S:=fun w'=>Kp wr w') (by kernel_rfl) ?_ (fun zH=>?_)
   ·exact kp_zero _
   refine uZ 0 ?_;simp only[pZ,zZ];refine uZ 1 ?_;simp only[pZ,zZ];refine uZ 2 ?_;simp only[pZ,zZ];refine uZ 3 ?_;simp only[pZ,zZ];refine uZ 4 ?_;simp only[pZ,zZ];refine vZ 5 ?_;simp only[pZ,zZ];refine vZ 6 ?_;simp only[pZ,zZ];refine vZ 7 ?_;simp only[pZ,zZ];refine vZ 8 ?_;simp only[pZ,zZ];refine vZ 9 ?_;simp only[pZ,zZ];refine vZ 10 ?_;simp only[pZ,zZ];refine vZ 11 ?_;simp only[pZ,zZ];refine vZ 12 ?_;simp only[pZ,zZ];refine uZ 13 ?_;simp only[pZ,zZ];refine dZ ?_;generalize wr.drew=W1 at zH ⊢;subst hkn;by_cases hk0:k=0
   ·subst hk0
    cases av with
    | none =>
     have hK1:=zH;clear zH;have hKB:Below wr.heap.size wr W1:=hK1.1;have hB1:Below w.heap.size w W1:=hBx.trans (hKB.mono hBx.size);have hsz1:=hB1.size;have hszw:=hKB.size;clear hK1;have own0:=ownsU_empty W1 72;have hE:Below W1.heap.size W1 (W1.alloc (.cells #[] 72)):=(Below.refl _ _).alloc (Nat.le_refl _) _;go_wp2_with (at_builtin;(refine wpList_append_zero rfl _ _ _ rfl W1.heap.size 72 ti 13 Tryz.underlying32 hi1'.out _ 0 (ucL []) rfl own0 _ _ rfl ?_))
     have hX:=hE;have own1:=own0;obtain ⟨X,hXe⟩:∃ X,W1.alloc (.cells #[] 72)=X:=⟨_,rfl⟩
     rw [hXe] at hX own1 ⊢;clear hXe own0 hE;have hXs:=hX.size;have hwX:Below wr.heap.size wr X:=hKB.trans (hX.mono hszw);obtain ⟨rX,fX⟩:=bcell hwX;have hlX:w.heap.size<X.heap.size:=by omega
     go_wp2_with fail
     refine wp_region_held_drew (S:=fun w'=>Kp X w') (by kernel_rfl) ?_ (fun zH=>?_)
     ·exact kp_zero _
     refine uZ 0 ?_;simp only[pZ,zZ];refine uZ 1 ?_;simp only[pZ,zZ];refine uZ 2 ?_;simp only[pZ,zZ];refine uZ 3 ?_;simp only[pZ,zZ];refine uZ 4 ?_;simp only[pZ,zZ];refine vZ 5 ?_;simp only[pZ,zZ];refine vZ 6 ?_;simp only[pZ,zZ];refine vZ 7 ?_;simp only[pZ,zZ];refine vZ 8 ?_;simp only[pZ,zZ];refine vZ 9 ?_;simp only[pZ,zZ];refine vZ 10 ?_;simp only[pZ,zZ];refine vZ 11 ?_;simp only[pZ,zZ];refine vZ 12 ?_;simp only[pZ,zZ];refine uZ 13 ?_;simp only[pZ,zZ];refine dZ ?_;generalize X.drew=Y at zH ⊢;have hXY:=zH.1;have rY:=zH.2;clear zH;have hY:Below W1.heap.size W1 Y:=hX.trans (hXY.mono hX.size);have own2:=owns_below own1 hXY;have hYs:=hXY.size;have hYb:=hY.size;have hlY:w.heap.size<Y.heap.size:=by omega
     clear own1 hX;go_wp2_with (at_builtin;first | (refine wpList_append_lies _ rfl _ _ _ rfl W1.heap.size 72 ti _ 13 112 Tryz.underlying32 hi1'.out hi2'.out hi3'.out hi4'.out rfl (by omega) _ 0 (ucL ([]:List M1.Upd)) rfl (owns_below own2 ((Below.refl _ _).alloc (Nat.le_refl _) _)) ⟨Y.heap.size,0,none⟩ 1 1 [.int .i64 u.dr,.int .i64 u.dn,.int .i64 u.sw,.int .i64 u.sc,.int .i64 u.sr,.int .i64 u.k,.int .i64 u.tr,.int .i64 u.id,.int .i64 u.pa,.string u.s,.int .i64 u.st,.int .i64 u.en,.int .i64 u.lv] rfl (by first | rfl | (rw [ucL_len,lk];done) | (rw [ucL_len,lr];done) | (rw [ucL_len];simp;omega)) (news13 _ _ _ _ _ _ _ _ _ _ _ _ _ _ _) (one13 u) (by omega) (by unfold maxLen;omega) (by omega) (by first | omega | (simp;done) | (simp;omega)) _ rfl ?_;intro g5 cap5 Z hown5 hgrow5 hat hltg;have hZ:Below W1.heap.size W1 Z:=(hY.alloc hYb _).grown hgrow5 (by simp;omega) (owns_base own2);have own3:Z.ownsRow W1.heap.size 72 13 (.slice (some ⟨g5,0,none⟩) 1 cap5) 1 (ucL (([]:List M1.Upd) ++ [u])):=(by rw [ucL_snoc];exact hown5);have hZs:=hZ.size) | (refine wpList_append_zero rfl _ _ _ rfl W1.heap.size 72 ti 13 Tryz.underlying32 hi1'.out _ 1 (ucL (([]:List M1.Upd) ++ [u])) rfl own3 _ _ rfl ?_))
     all_goals
      have q:=owns_less own3 hsz1;go_ret
      first | refine ⟨⟨_,(us.take 0 ++ [u]) ++ us.drop 0,rfl,⟨0,by have:=hl1.out;omega,hall.out,Or.inl (by have:=hl1.out;omega),Or.inr ⟨fun x=>by have:=hl1.out;omega,rfl⟩⟩,?_⟩,hB1.trans (hZ.mono hB1.size)⟩ | refine ⟨⟨_,rfl,(us.take 0 ++ [u]) ++ us.drop 0,⟨0,by have:=hl1.out;omega,hall.out,Or.inl (by have:=hl1.out;omega),Or.inr ⟨fun x=>by have:=hl1.out;omega,rfl⟩⟩,?_⟩,hB1.trans (hZ.mono hB1.size)⟩
      have ed:us.drop 0=[]:=List.drop_of_length_le (by have:=hl1.out;omega);rw [ed,List.append_nil];have el:(us.take 0 ++ [u]).length=0+1:=by have:=hl1.out;simp;try omega
      have et:us.take 0=[]:=rfl;rw [et] at el ⊢;rw [el];exact q
    | some ad =>
     have hK1:=zH;clear zH;have hKB:Below wr.heap.size wr W1:=hK1.1;have hB1:Below w.heap.size w W1:=hBx.trans (hKB.mono hBx.size);have hsz1:=hB1.size;have hszw:=hKB.size;clear hK1;have own0:=ownsU_empty W1 72;have hE:Below W1.heap.size W1 (W1.alloc (.cells #[] 72)):=(Below.refl _ _).alloc (Nat.le_refl _) _;go_wp2_with (at_builtin;(refine wpList_append_zero rfl _ _ _ rfl W1.heap.size 72 ti 13 Tryz.underlying32 hi1'.out _ 0 (ucL []) rfl own0 _ _ rfl ?_))
     have hX:=hE;have own1:=own0;obtain ⟨X,hXe⟩:∃ X,W1.alloc (.cells #[] 72)=X:=⟨_,rfl⟩
     rw [hXe] at hX own1 ⊢;clear hXe own0 hE;have hXs:=hX.size;have hwX:Below wr.heap.size wr X:=hKB.trans (hX.mono hszw);obtain ⟨rX,fX⟩:=bcell hwX;have hlX:w.heap.size<X.heap.size:=by omega
     go_wp2_with fail
     refine wp_region_held_drew (S:=fun w'=>Kp X w') (by kernel_rfl) ?_ (fun zH=>?_)
     ·exact kp_zero _
     refine uZ 0 ?_;simp only[pZ,zZ];refine uZ 1 ?_;simp only[pZ,zZ];refine uZ 2 ?_;simp only[pZ,zZ];refine uZ 3 ?_;simp only[pZ,zZ];refine uZ 4 ?_;simp only[pZ,zZ];refine vZ 5 ?_;simp only[pZ,zZ];refine vZ 6 ?_;simp only[pZ,zZ];refine vZ 7 ?_;simp only[pZ,zZ];refine vZ 8 ?_;simp only[pZ,zZ];refine vZ 9 ?_;simp only[pZ,zZ];refine vZ 10 ?_;simp only[pZ,zZ];refine vZ 11 ?_;simp only[pZ,zZ];refine vZ 12 ?_;simp only[pZ,zZ];refine uZ 13 ?_;simp only[pZ,zZ];refine dZ ?_;generalize X.drew=Y at zH ⊢;have hXY:=zH.1;have rY:=zH.2;clear zH;have hY:Below W1.heap.size W1 Y:=hX.trans (hXY.mono hX.size);have own2:=owns_below own1 hXY;have hYs:=hXY.size;have hYb:=hY.size;have hlY:w.heap.size<Y.heap.size:=by omega
     clear own1 hX;go_wp2_with (at_builtin;first | (refine wpList_append_lies _ rfl _ _ _ rfl W1.heap.size 72 ti _ 13 112 Tryz.underlying32 hi1'.out hi2'.out hi3'.out hi4'.out rfl (by omega) _ 0 (ucL ([]:List M1.Upd)) rfl (owns_below own2 ((Below.refl _ _).alloc (Nat.le_refl _) _)) ⟨Y.heap.size,0,none⟩ 1 1 [.int .i64 u.dr,.int .i64 u.dn,.int .i64 u.sw,.int .i64 u.sc,.int .i64 u.sr,.int .i64 u.k,.int .i64 u.tr,.int .i64 u.id,.int .i64 u.pa,.string u.s,.int .i64 u.st,.int .i64 u.en,.int .i64 u.lv] rfl (by first | rfl | (rw [ucL_len,lk];done) | (rw [ucL_len,lr];done) | (rw [ucL_len];simp;omega)) (news13 _ _ _ _ _ _ _ _ _ _ _ _ _ _ _) (one13 u) (by omega) (by unfold maxLen;omega) (by omega) (by first | omega | (simp;done) | (simp;omega)) _ rfl ?_;intro g5 cap5 Z hown5 hgrow5 hat hltg;have hZ:Below W1.heap.size W1 Z:=(hY.alloc hYb _).grown hgrow5 (by simp;omega) (owns_base own2);have own3:Z.ownsRow W1.heap.size 72 13 (.slice (some ⟨g5,0,none⟩) 1 cap5) 1 (ucL (([]:List M1.Upd) ++ [u])):=(by rw [ucL_snoc];exact hown5);have hZs:=hZ.size) | (refine wpList_append_zero rfl _ _ _ rfl W1.heap.size 72 ti 13 Tryz.underlying32 hi1'.out _ 1 (ucL (([]:List M1.Upd) ++ [u])) rfl own3 _ _ rfl ?_))
     all_goals
      have q:=owns_less own3 hsz1;go_ret
      first | refine ⟨⟨_,(us.take 0 ++ [u]) ++ us.drop 0,rfl,⟨0,by have:=hl1.out;omega,hall.out,Or.inl (by have:=hl1.out;omega),Or.inr ⟨fun x=>by have:=hl1.out;omega,rfl⟩⟩,?_⟩,hB1.trans (hZ.mono hB1.size)⟩ | refine ⟨⟨_,rfl,(us.take 0 ++ [u]) ++ us.drop 0,⟨0,by have:=hl1.out;omega,hall.out,Or.inl (by have:=hl1.out;omega),Or.inr ⟨fun x=>by have:=hl1.out;omega,rfl⟩⟩,?_⟩,hB1.trans (hZ.mono hB1.size)⟩
      have ed:us.drop 0=[]:=List.drop_of_length_le (by have:=hl1.out;omega);rw [ed,List.append_nil];have el:(us.take 0 ++ [u]).length=0+1:=by have:=hl1.out;simp;try omega
      have et:us.take 0=[]:=rfl;rw [et] at el ⊢;rw [el];exact q
   ·rcases g1.hlies with h0 | ⟨b,off,rfl,hbl,hc⟩
    ·exact absurd h0 hk0
    have hK1:=zH;clear zH;have hKB:Below wr.heap.size wr W1:=hK1.1;have hB1:Below w.heap.size w W1:=hBx.trans (hKB.mono hBx.size);have hsz1:=hB1.size;have hszw:=hKB.size;clear hK1;have own0:=ownsU_empty W1 72;have hE:Below W1.heap.size W1 (W1.alloc (.cells #[] 72)):=(Below.refl _ _).alloc (Nat.le_refl _) _;have hcE:∀ i,i<k→UCells (W1.alloc (.cells #[] 72)) b (off+i*13) (M1.up us i):=fun i hi=>((hc i hi).below hKB hbl).below hE (by omega);have cc:=ucL_take_cells hcE hl1.out 0 k (by omega);rw [Nat.zero_mul,Nat.add_zero,List.drop_zero] at cc;have lk:(us.take k).length=k:=by have:=hl1.out;simp;omega
    go_wp2_with (at_builtin;(refine wpList_append_lies _ rfl _ _ _ rfl W1.heap.size 72 ti _ 13 112 Tryz.underlying32 hi1'.out hi2'.out hi3'.out hi4'.out rfl (by omega) _ 0 (ucL []) rfl own0 ⟨b,off,none⟩ k cn (ucL (us.take k)) rfl (by first | rfl | (rw [ucL_len,lk];done) | (rw [ucL_len,lr];done) | (rw [ucL_len];simp;omega)) (cc) (ucL_one _) (by omega) (by unfold maxLen;omega) (by omega) (by first | omega | (simp;done) | (simp;omega)) _ rfl ?_;intro g3 cap3 X hown3 hgrow3 hat hltg))
    have hX:Below W1.heap.size W1 X:=hE.grown hgrow3 (by simp) (owns_base own0);have own1:X.ownsRow W1.heap.size 72 13 (.slice (some ⟨g3,0,none⟩) k cap3) k (ucL (us.take k)):=by simpa [ucL] using hown3
    clear own0 hE hown3 hgrow3 cc hat;have hXs:=hX.size;have hwX:Below wr.heap.size wr X:=hKB.trans (hX.mono hszw);obtain ⟨rX,fX⟩:=bcell hwX;have hlX:w.heap.size<X.heap.size:=by omega
    go_wp2_with fail
    refine wp_region_held_drew (S:=fun w'=>Kp X w') (by kernel_rfl) ?_ (fun zH=>?_)
    ·exact kp_zero _
    refine uZ 0 ?_;simp only[pZ,zZ];refine uZ 1 ?_;simp only[pZ,zZ];refine uZ 2 ?_;simp only[pZ,zZ];refine uZ 3 ?_;simp only[pZ,zZ];refine uZ 4 ?_;simp only[pZ,zZ];refine vZ 5 ?_;simp only[pZ,zZ];refine vZ 6 ?_;simp only[pZ,zZ];refine vZ 7 ?_;simp only[pZ,zZ];refine vZ 8 ?_;simp only[pZ,zZ];refine vZ 9 ?_;simp only[pZ,zZ];refine vZ 10 ?_;simp only[pZ,zZ];refine vZ 11 ?_;simp only[pZ,zZ];refine vZ 12 ?_;simp only[pZ,zZ];refine uZ 13 ?_;simp only[pZ,zZ];refine dZ ?_;generalize X.drew=Y at zH ⊢;have hXY:=zH.1;have rY:=zH.2;clear zH;have hY:Below W1.heap.size W1 Y:=hX.trans (hXY.mono hX.size);have own2:=owns_below own1 hXY;have hYs:=hXY.size;have hYb:=hY.size;have hlY:w.heap.size<Y.heap.size:=by omega
    clear own1 hX;go_wp2_with (at_builtin;first | (refine wpList_append_lies _ rfl _ _ _ rfl W1.heap.size 72 ti _ 13 112 Tryz.underlying32 hi1'.out hi2'.out hi3'.out hi4'.out rfl (by omega) _ k (ucL (us.take k)) rfl (owns_below own2 ((Below.refl _ _).alloc (Nat.le_refl _) _)) ⟨Y.heap.size,0,none⟩ 1 1 [.int .i64 u.dr,.int .i64 u.dn,.int .i64 u.sw,.int .i64 u.sc,.int .i64 u.sr,.int .i64 u.k,.int .i64 u.tr,.int .i64 u.id,.int .i64 u.pa,.string u.s,.int .i64 u.st,.int .i64 u.en,.int .i64 u.lv] rfl (by first | rfl | (rw [ucL_len,lk];done) | (rw [ucL_len,lr];done) | (rw [ucL_len];simp;omega)) (news13 _ _ _ _ _ _ _ _ _ _ _ _ _ _ _) (one13 u) (by omega) (by unfold maxLen;omega) (by omega) (by first | omega | (simp;done) | (simp;omega)) _ rfl ?_;intro g5 cap5 Z hown5 hgrow5 hat hltg;have hZ:Below W1.heap.size W1 Z:=(hY.alloc hYb _).grown hgrow5 (by simp;omega) (owns_base own2);have own3:Z.ownsRow W1.heap.size 72 13 (.slice (some ⟨g5,0,none⟩) (k+1) cap5) (k+1) (ucL ((us.take k) ++ [u])):=(by rw [ucL_snoc];exact hown5);have hZs:=hZ.size) | (refine wpList_append_zero rfl _ _ _ rfl W1.heap.size 72 ti 13 Tryz.underlying32 hi1'.out _ (k+1) (ucL ((us.take k) ++ [u])) rfl own3 _ _ rfl ?_))
    all_goals
     have q:=owns_less own3 hsz1;go_ret
     first | refine ⟨⟨_,(us.take k ++ [u]) ++ us.drop k,rfl,⟨k,by have:=hl1.out;omega,hall.out,Or.inl (by have:=hl1.out;omega),Or.inr ⟨fun x=>by have:=hl1.out;omega,rfl⟩⟩,?_⟩,hB1.trans (hZ.mono hB1.size)⟩ | refine ⟨⟨_,rfl,(us.take k ++ [u]) ++ us.drop k,⟨k,by have:=hl1.out;omega,hall.out,Or.inl (by have:=hl1.out;omega),Or.inr ⟨fun x=>by have:=hl1.out;omega,rfl⟩⟩,?_⟩,hB1.trans (hZ.mono hB1.size)⟩
     have ed:us.drop k=[]:=List.drop_of_length_le (by have:=hl1.out;omega);rw [ed,List.append_nil];have el:(us.take k ++ [u]).length=k+1:=by have:=hl1.out;simp;try omega
     rw [el];exact q
end Go.Proofs.YtgcinolbkllkkaaGreat
