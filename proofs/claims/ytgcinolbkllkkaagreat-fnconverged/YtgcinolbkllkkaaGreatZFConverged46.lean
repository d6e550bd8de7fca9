/-
  Texts of one proof, joined: Fi1, Fi2, Fi3.
-/
import Derived.Test.YtgcinolbkllkkaaGreatZFConverged45
import Derived.Laws.Cover3
set_option linter.unusedSimpArgs false
set_option linter.unusedVariables false
namespace Go.Proofs.YtgcinolbkllkkaaGreat
open Go.ChangeShapes Go.WideShapes Go.ChangeAt Go.RowKit
attribute [local go_sem] run_makeMap
theorem take_fj {S:List M1.Upd}(hS:S.Pairwise M1.idlt){i:Nat}(hi:i<S.length):M1.fj (S.take i) (M1.up S i).id=none:=by
 refine M1.fj_none fun x hx e=>?_;obtain ⟨j,hj,e2⟩:=List.getElem_of_mem hx;rw [List.length_take] at hj;rw [List.getElem_take] at e2;rw [List.pairwise_iff_getElem] at hS;have:=hS j i (by omega) hi (by omega);have e3:M1.up S i=S[i]:=by simp [M1.up,List.getD,hi]
 rw [e2] at this;rw [e3] at e;unfold M1.idlt at this;omega
theorem take_up {S:List M1.Upd}{i:Nat}(hi:i<S.length):S.take (i+1)=S.take i ++ [M1.up S i]:=by
 rw [List.take_succ_eq_append_getElem hi];simp [M1.up,List.getD,hi]
theorem len_mapS {w:World}{b:Nat}{us:List M1.Upd}(h:MapS w b us):∃ es:Array MapEntry,w.heap[b]?=some (.map es us.length)∧es.size=us.length:=by
 obtain ⟨es,hb,h2,_⟩:=h;refine ⟨es,hb,?_⟩;have:=congrArg List.length h2
 simpa using this
set_option maxHeartbeats 32000000 in
set_option maxRecDepth 100000 in
theorem spansById_any (av:Option Addr)(m c B:Nat)(S:List M1.Upd)(w:World)(h:SpIn w av m c B S)(hB:B≤w.heap.size)(hS:S.Pairwise M1.idlt)(hm60:m≤1000) :
  Calls Tryz.prog 37 #[.slice av m c] w fun e w'=>e=.returned (.map (some w.heap.size))∧MapS w' w.heap.size S∧Below w.heap.size w w':=by
 have hl:Hid (S.length=m):=h.len;have hm1:=h.cap;have hm2:=h.most;unfold maxLen at hm2;have hM0:=MapS.made w;have hB0:Below w.heap.size w (w.alloc (.map #[] 0)):=(Below.refl _ _).alloc (Nat.le_refl _) _;go_enter Tryz.func37,Tryz.ntmps37
 go_wp2_with fail
 go_loopw [9] (fun iv wr=>∃ i:Nat,i≤m∧iv=.int .i64 i∧MapS wr w.heap.size (S.take i)∧Below w.heap.size w wr) (fun iv _=>m-(intOf iv).toNat)
 case atStart=>exact ⟨0,Nat.zero_le _,rfl,hM0,hB0⟩
 case round =>
  clear hM0 hB0;obtain ⟨i,hi,rfl,hM,hBw⟩:=hrel;have hs:=hBw.size;by_cases hlt:i<m
  ·have h2:=h.below (hBw.mono hB)
   rcases h2.lies with h0 | ⟨g,rfl,hgB,r1⟩
   ·omega
   have hgl:=r1.lt;have i0:(0:Int)≤(i:Int):=by omega
   have i1:(i:Int)<(m:Int):=by omega
   have hiS:i<S.length:=by rw [hl.out];exact hlt
   have z0:scell S (i*5)=.int .i64 (M1.up S i).id:=scell_at S i 0 (by omega);have z1:scell S (i*5+1)=.int .i64 (M1.up S i).pa:=scell_at S i 1 (by omega);have z2:scell S (i*5+2)=.string (M1.up S i).s:=scell_at S i 2 (by omega);have z3:scell S (i*5+3)=.int .i64 (M1.up S i).st:=scell_at S i 3 (by omega);have z4:scell S (i*5+4)=.int .i64 (M1.up S i).en:=scell_at S i 4 (by omega);have d0:=r1.cell (o:=i*5) (by omega);have d1:=r1.cell (o:=i*5+1) (by omega);have d2:=r1.cell (o:=i*5+2) (by omega);have d3:=r1.cell (o:=i*5+3) (by omega);have d4:=r1.cell (o:=i*5+4) (by omega);rw [z0] at d0;rw [z1] at d1;rw [z2] at d2;rw [z3] at d3;rw [z4] at d4;clear z0 z1 z2 z3 z4;have HT:Hid (S.take (i+1)=S.take i ++ [M1.up S i]):=take_up hiS;have HF:Hid (M1.fj (S.take i) (M1.up S i).id=none):=take_fj hS hiS;obtain ⟨u,hu⟩:∃ u,Hid (M1.up S i=u):=⟨_,rfl⟩
   rw [hu.out] at d0 d1 d2 d3 d4 HT HF;have hA:Below wr.heap.size wr (wr.alloc (.cells #[.int .i64 u.id,.int .i64 u.pa,.string u.s,.int .i64 u.st,.int .i64 u.en] 70)):=(Below.refl _ _).alloc (Nat.le_refl _) _;obtain ⟨w5,hrun,hM5,hg5⟩:=run_updateS_new (hM.below hA hM.lt) u HF.out;simp only [spv] at hrun;go_wp2_with fail
   exact ⟨⟨i+1,by omega,by go_num,by rw [HT.out];exact hM5,(hBw.alloc hBw.size _).grown hg5 (by simp;omega) (fun k e=>by injection e with e;omega)⟩,by simp [intOf];omega⟩
  ·have him:Hid (S.take i=S):=(by rw [show i=S.length by rw [hl.out];omega];exact List.take_length:S.take i=S)
   rw [him.out] at hM;go_wp2_with fail
   go_ret
   exact ⟨rfl,hM,hBw⟩
end Go.Proofs.YtgcinolbkllkkaaGreat
namespace Go.Proofs.YtgcinolbkllkkaaGreat
open Go.ChangeShapes Go.WideShapes Go.ChangeAt Go.RowKit
def scf (u:M1.Upd)(o:Nat):Value:=(scs u).getD o undef
theorem rowSp (w:World)(u:M1.Upd)(t:TypeId):RowAt (w.alloc (.cells #[.int .i64 u.id,.int .i64 u.pa,.string u.s,.int .i64 u.st,.int .i64 u.en] t)) w.heap.size 5 (scf u) :=
 (RowAt.new w #[.int .i64 u.id,.int .i64 u.pa,.string u.s,.int .i64 u.st,.int .i64 u.en] t).same fun o ho=>by
  match o,ho with
  | 0,_=>rfl
  | 1,_=>rfl
  | 2,_=>rfl
  | 3,_=>rfl
  | 4,_=>rfl
theorem scf_same {f f':Nat→Value}(h0:f 0=f' 0)(h1:f 1=f' 1)(h2:f 2=f' 2)(h3:f 3=f' 3)(h4:f 4=f' 4):∀ o,o<5→f o=f' o:=fun o ho=>by
 match o,ho with
 | 0,_=>exact h0
 | 1,_=>exact h1
 | 2,_=>exact h2
 | 3,_=>exact h3
 | 4,_=>exact h4
set_option maxHeartbeats 32000000 in
set_option maxRecDepth 100000 in
theorem isRoot_any (u:M1.Upd)(b m:Nat)(S:List M1.Upd)(w:World)(hM:MapS w b S)(hm:Hid (S.length=m))(hm60:m≤1000) :
  Calls Tryz.prog 41 #[.agg #[.int .i64 u.id,.int .i64 u.pa,.string u.s,.int .i64 u.st,.int .i64 u.en],.map (some b)] w fun e w'=>e=.returned (.bool (M1.rootB S u))∧Below w.heap.size w w':=by
 have hbl:=hM.lt;have hA:Below w.heap.size w (w.alloc (.cells #[.int .i64 u.id,.int .i64 u.pa,.string u.s,.int .i64 u.st,.int .i64 u.en] 70)):=(Below.refl _ _).alloc (Nat.le_refl _) _;have hlk:=run_lookupS (hM.below hA hbl) u.pa
 cases hf:M1.fj S u.pa with
 | none =>
  have HR:Hid (M1.rootB S u=true):=(by unfold M1.rootB M1.par;rw [hf]:_=_)
  rw [hf] at hlk;clear hf;simp only [Option.getD_none,Option.isSome_none,spv,M1.zeroU] at hlk;go_enter Tryz.func41,Tryz.ntmps41
  go_wp2_with fail
  go_ret
  exact ⟨by rw [HR.out];rfl,hA.alloc (by simp) _⟩
 | some y =>
  have HR:Hid (M1.goR S u m (some y)=M1.rootB S u):=(by unfold M1.rootB M1.par;rw [hf,hm.out]:_=_)
  rw [hf] at hlk;clear hf;simp only [Option.getD_some,Option.isSome_some,spv] at hlk;obtain ⟨rb,hrb⟩:∃ r,Hid (M1.rootB S u=r):=⟨_,rfl⟩
  rw [hrb.out] at HR ⊢;have rU:=(rowSp w u 70).alloc (.cells #[.int .i64 y.id,.int .i64 y.pa,.string y.s,.int .i64 y.st,.int .i64 y.en] 70);have rY:=rowSp (w.alloc (.cells #[.int .i64 u.id,.int .i64 u.pa,.string u.s,.int .i64 u.st,.int .i64 u.en] 70)) y 70;have hB0:Below w.heap.size w ((w.alloc (.cells #[.int .i64 u.id,.int .i64 u.pa,.string u.s,.int .i64 u.st,.int .i64 u.en] 70)).alloc (.cells #[.int .i64 y.id,.int .i64 y.pa,.string y.s,.int .i64 y.st,.int .i64 y.en] 70)):=hA.alloc (by simp) _;simp only [World.size_alloc] at rY;have hM2:=hM.below hB0 hbl;obtain ⟨es,hes,hsz⟩:=len_mapS hM2;rw [hm.out] at hsz hes;have hlen:=run_len_map (P:=Tryz.prog) _ 85 3 b es m (by kernel_rfl) hes;rw [hsz] at hlen;clear hes hsz;go_enter Tryz.func41,Tryz.ntmps41
  go_wp2_with fail
  go_loopw [6,18] (fun tv iv wr=>∃ (i:Nat) (o:Option M1.Upd),i≤m∧iv=.int .i64 i∧tv=.bool o.isSome∧RowAt wr w.heap.size 5 (scf u)∧RowAt wr (w.heap.size+1) 5 (scf (o.getD M1.zeroU))∧Hid (M1.goR S u (m-i) o=rb)∧Below w.heap.size w wr) (fun _ iv _=>m-(intOf iv).toNat)
  case atStart=>exact ⟨0,some y,Nat.zero_le _,rfl,rfl,rU,rY,HR,hB0⟩
  case round =>
   clear rU rY HR hB0 hlk hlen hM2 hA;obtain ⟨i,o,hi,rfl,rfl,rU,rY,hg,hB⟩:=hrel;have hs:=hB.size;have lU:=rU.lt;have lY:=rY.lt;by_cases hlt:i<m
   ·have HFU:Hid (m-i=(m-(i+1))+1):=(by omega:m-i=(m-(i+1))+1)
    have cu:=rU.cell (o:=0) (by omega);simp [scf,scs] at cu
    cases o with
    | none =>
     have HF:Hid (rb=false):=(by rw [←hg.out,HFU.out];rfl:_=_)
     go_wp2_with fail
     go_ret
     exact ⟨by rw [HF.out];rfl,hB⟩
    | some z =>
     have HE2:Hid (rb=if z.id<u.id then false else if z.id=u.id then true else M1.goR S u (m-(i+1)) (M1.par S z)):=(by rw [←hg.out,HFU.out];rfl:_=_)
     have rZ:RowAt wr (w.heap.size+1) 5 (scf z):=rY;have cz0:=rZ.cell (o:=0) (by omega);have cz1:=rZ.cell (o:=1) (by omega);have cz2:=rZ.cell (o:=2) (by omega);have cz3:=rZ.cell (o:=3) (by omega);have cz4:=rZ.cell (o:=4) (by omega);have cf0:=rZ.free (o:=0) (by omega);have cf1:=rZ.free (o:=1) (by omega);have cf2:=rZ.free (o:=2) (by omega);have cf3:=rZ.free (o:=3) (by omega);have cf4:=rZ.free (o:=4) (by omega);simp [scf,scs] at cz0 cz1 cz2 cz3 cz4
     clear rY;by_cases h1:z.id<u.id
     ·have HF:Hid (rb=false):=(by rw [HE2.out,if_pos h1]:_=_)
      go_wp2_with fail
      go_ret
      exact ⟨by rw [HF.out];rfl,hB⟩
     ·by_cases h2:z.id=u.id
      ·have HF:Hid (rb=true):=(by rw [HE2.out,if_neg h1,if_pos h2]:_=_)
       have q2:(z.id==u.id)=true:=by simp [h2]
       clear h2;go_wp2_with fail
       go_ret
       exact ⟨by rw [HF.out];rfl,hB⟩
      ·have q2:(z.id==u.id)=false:=by simp [h2]
       have HF:Hid (M1.goR S u (m-(i+1)) (M1.fj S z.pa)=rb):=(by rw [HE2.out,if_neg h1,if_neg h2];rfl:_=_)
       clear h2;have hlk:=run_lookupS (hM.below hB hbl) z.pa;obtain ⟨o2,ho2⟩:∃ o2,Hid (M1.fj S z.pa=o2):=⟨_,rfl⟩
       rw [ho2.out] at hlk HF;obtain ⟨v,hv⟩:∃ v,Hid (o2.getD M1.zeroU=v):=⟨_,rfl⟩
       rw [hv.out] at hlk;simp only [spv] at hlk;have rU2:RowAt (((((wr.setCell ⟨w.heap.size+1,0,none⟩ (.int .i64 v.id)).setCell ⟨w.heap.size+1,1,none⟩ (.int .i64 v.pa)).setCell ⟨w.heap.size+1,2,none⟩ (.string v.s)).setCell ⟨w.heap.size+1,3,none⟩ (.int .i64 v.st)).setCell ⟨w.heap.size+1,4,none⟩ (.int .i64 v.en)) w.heap.size 5 (scf u):=((((rU.far (by simp) _).far (by simp) _).far (by simp) _).far (by simp) _).far (by simp) _;have rV2:RowAt (((((wr.setCell ⟨w.heap.size+1,0,none⟩ (.int .i64 v.id)).setCell ⟨w.heap.size+1,1,none⟩ (.int .i64 v.pa)).setCell ⟨w.heap.size+1,2,none⟩ (.string v.s)).setCell ⟨w.heap.size+1,3,none⟩ (.int .i64 v.st)).setCell ⟨w.heap.size+1,4,none⟩ (.int .i64 v.en)) (w.heap.size+1) 5 (scf v):=(((((rZ.set (o:=0) (by omega) _).set (o:=1) (by omega) _).set (o:=2) (by omega) _).set (o:=3) (by omega) _).set (o:=4) (by omega) _).same (scf_same rfl rfl rfl rfl rfl);have hB2:Below w.heap.size w (((((wr.setCell ⟨w.heap.size+1,0,none⟩ (.int .i64 v.id)).setCell ⟨w.heap.size+1,1,none⟩ (.int .i64 v.pa)).setCell ⟨w.heap.size+1,2,none⟩ (.string v.s)).setCell ⟨w.heap.size+1,3,none⟩ (.int .i64 v.st)).setCell ⟨w.heap.size+1,4,none⟩ (.int .i64 v.en)):=((((hB.setCell (p:=⟨w.heap.size+1,0,none⟩) (by show _≤w.heap.size+1;omega) _).setCell (p:=⟨w.heap.size+1,1,none⟩) (by show _≤w.heap.size+1;omega) _).setCell (p:=⟨w.heap.size+1,2,none⟩) (by show _≤w.heap.size+1;omega) _).setCell (p:=⟨w.heap.size+1,3,none⟩) (by show _≤w.heap.size+1;omega) _).setCell (p:=⟨w.heap.size+1,4,none⟩) (by show _≤w.heap.size+1;omega) _;go_wp2_with fail
       exact ⟨⟨i+1,o2,by omega,by go_num,rfl,rU2,by rw [hv.out];exact rV2,HF,hB2⟩,by simp [intOf];omega⟩
   ·have HF:Hid (rb=false):=(by rw [←hg.out,show m-i=0 by omega];cases o <;> rfl:_=_)
    go_wp2_with fail
    go_ret
    exact ⟨by rw [HF.out];rfl,hB⟩
end Go.Proofs.YtgcinolbkllkkaaGreat
namespace M1
theorem ord_st (u v:Upd):orI (cmpI u.st v.st) (cmpI u.id v.id)<0↔stlt u v:=by
 unfold orI cmpI stlt;by_cases a1:u.st<v.st
 ·simp [a1]
 ·by_cases a2:v.st<u.st
  ·simp [a1,a2];omega
  ·have a3:u.st=v.st:=by omega
   by_cases b1:u.id<v.id
   ·simp [a3,b1]
   ·by_cases b2:v.id<u.id
    ·simp [a3,b1,b2]
    ·simp [a3,b1,b2]
theorem bySt_is {S ns:List Upd}(hS:S.Pairwise idlt)(hp:ns.Perm S)(hs:∀ i j,i<j→j<ns.length→¬stlt (up ns j) (up ns i)):ns=bySt S:=by
 refine st_unique ?_ (bySt_sorted (ids_of hS)) (hp.trans (bySt_perm S).symm);have hi:ids ns:=ids_perm hp (ids_of hS);unfold ids at hi;rw [List.pairwise_iff_getElem] at hi ⊢;intro i j h1 h2 hij;have q:=hs i j hij h2;have e1:up ns i=ns[i]:=by simp [up,List.getD,h1]
 have e2:up ns j=ns[j]:=by simp [up,List.getD,h2]
 rw [e1,e2] at q;rcases st_tri (hi i j h1 h2 hij) with r | r
 ·exact r
 ·exact absurd r q
end M1
namespace Go.Proofs.YtgcinolbkllkkaaGreat
open Go.ChangeShapes Go.WideShapes Go.ChangeAt Go.RowKit Go.Sort Go.Shelf Go.Lib
set_option maxHeartbeats 8000000 in
theorem byStart1_grew (u v:M1.Upd)(w:World) :
  Calls Tryz.prog 70 #[.agg #[.int .i64 u.id,.int .i64 u.pa,.string u.s,.int .i64 u.st,.int .i64 u.en],.agg #[.int .i64 v.id,.int .i64 v.pa,.string v.s,.int .i64 v.st,.int .i64 v.en]] w fun e w'=>e=.returned (.int .i64 (M1.orI (M1.cmpI u.st v.st) (M1.cmpI u.id v.id)))∧Grew w w':=by
 go_enter Tryz.func70,Tryz.ntmps70
 go_wp2_with fail
 refine wp_region_held_drew (S:=fun w'=>Kp ((w.alloc (Obj.cells #[.int .i64 u.id,.int .i64 u.pa,.string u.s,.int .i64 u.st,.int .i64 u.en] 70)).alloc (Obj.cells #[.int .i64 v.id,.int .i64 v.pa,.string v.s,.int .i64 v.st,.int .i64 v.en] 70)) w') (by kernel_rfl) ?_ (fun zH=>?_)
 ·exact kp_zero _
 refine uZ 0 ?_;simp only[pZ,zZ];refine uZ 1 ?_;simp only[pZ,zZ];refine uZ 2 ?_;simp only[pZ,zZ];refine uZ 3 ?_;simp only[pZ,zZ];refine uZ 5 ?_;simp only[pZ,zZ];refine uZ 6 ?_;simp only[pZ,zZ];refine uZ 7 ?_;simp only[pZ,zZ];refine uZ 8 ?_;simp only[pZ,zZ];refine sZ 4 fun K hK=>?_;go_simp
 (refine (compare_any _ _ _).mono ?_;rintro e w' ⟨rfl,hbw⟩;subst hbw;go_wp2_with fail)
 refine hK.out _ _ ?_ (fun zH2=>?_)
 ·exact zH
 clear hK K zH;have zH:=zH2;clear zH2;(try simp only[pZ,zZ]);refine sZ 9 fun K hK=>?_;go_simp
 (refine (compare_any _ _ _).mono ?_;rintro e w' ⟨rfl,hbw⟩;subst hbw;go_wp2_with fail)
 refine hK.out _ _ ?_ (fun zH2=>?_)
 ·exact zH
 clear hK K zH;have zH:=zH2;clear zH2;(try simp only[pZ,zZ]);refine sZ 10 fun K hK=>?_;go_simp
 skip
 refine hK.out _ _ ?_ (fun zH2=>?_)
 ·exact kp_alloc zH _
 clear hK K zH;have zH:=zH2;clear zH2;(try simp only[pZ,zZ]);refine sZ 11 fun K hK=>?_;go_simp
 (refine (cmpOr_two (w.heap.size+1+1) (M1.cmpI u.st v.st) (M1.cmpI u.id v.id) _ (by go_simp) (by go_simp)).mono ?_;rintro e w' ⟨rfl,hbw⟩;subst hbw;go_wp2_with fail)
 refine hK.out _ _ ?_ (fun zH2=>?_)
 ·exact zH
 clear hK K zH;have zH:=zH2;clear zH2;(try simp only[pZ,zZ]);refine uZ 12 ?_;simp only[pZ,zZ];refine dZ ?_;clear zH;go_wp2_with fail
 go_ret
 refine ⟨rfl,?_⟩;repeat (first | exact Grew.refl _ | refine Grew.drew ?_ | refine Grew.alloc ?_ _)
def ordT (u v:M1.Upd):Int:=M1.orI (M1.cmpI u.st v.st) (M1.cmpI u.id v.id)
theorem ltT (u v:M1.Upd):ltOf ordT u v=M1.stB u v:=by
 unfold ltOf ordT;rw [Bool.eq_iff_iff,M1.stB_iff];simp [M1.ord_st]
theorem swoT:SWO (ltOf ordT) where
 irrefl x:=by rw [ltT];have:=M1.st_irr x;rw [←M1.stB_iff] at this;simpa using this
 trans x y z h1 h2:=by rw [ltT,M1.stB_iff] at *;exact M1.st_trans h1 h2
 ntrans x y z h1 h2:=by
  rw [ltT] at *;have e:∀ a b,M1.stB a b=false↔¬M1.stlt a b:=fun a b=>by rw [←M1.stB_iff];simp
  rw [e] at *;unfold M1.stlt at *;omega
theorem cmpT (blk off size:Nat)(w:World):CmpLays Tryz.prog 70 #[] scs 5 ordT blk off size w :=
 fun _ _ _ _ x y=>byStart1_grew x y _
theorem sortT_any (blk cap:Nat)(us:List M1.Upd)(w:World)(hrow:RowAt w blk (us.length*5) (scell us))(hn:us.length≤1048576) :
  Calls Tryz.prog 66 #[.slice (some ⟨blk,0,none⟩) us.length cap,.func (.func 70) #[] #[]] w fun e w'=>e=.returned (.tuple #[])∧∃ ns:List M1.Upd,ns.Perm us∧(∀ i j,i<j→j<ns.length→¬M1.stlt (M1.up ns j) (M1.up ns i))∧RowAt w' blk (us.length*5) (scell ns)∧Gr blk w w':=by
 have eg:∀ args w,(callFunc 70 args).run Tryz.prog w=.ok (.enter 70 args) w:=enters_of Tryz.func70 (by kernel_rfl) rfl;have hcon:=AnyQ.slices_SortFunc Tryz.sortS 5 isAggS sizeOfS scs (fun _=>rfl) oneS ordT swoT 70 #[] blk 0 cap us.toArray w eg (cmpT blk 0 _ w) (holdsS hrow) hrow.lt (by simp;omega);simp only [List.size_toArray] at hcon;refine Calls.mono hcon ?_;rintro e w' ⟨rfl,d',n,os,hp,hs,rfl⟩;obtain ⟨h1,_,h3⟩:=hp;have hsz:d'.size=us.length:=by simpa using h1
 have e1:d'.extract 0 us.length=d':=by rw [←hsz];simp
 have e2:us.toArray.extract 0 us.length=us.toArray:=by simp
 rw [e1,e2] at h3;have hl:d'.toList.length=us.length:=by simpa using hsz
 refine ⟨rfl,d'.toList,by simpa using h3,fun i j hij hj=>?_,?_,grSortS _ _ _ _ _⟩
 ·have:=hs i j (Nat.zero_le _) hij (by omega)
  rw [ltT] at this;have ea:∀ i,d'[i]! = M1.up d'.toList i:=fun i=>by
   have:=up_toArrayS d'.toList i
   simpa using this
  rw [ea,ea] at this;intro q;rw [(M1.stB_iff _ _).2 q] at this;cases this
 ·rw [←hl]
  refine ofHoldsS ?_ ?_
  ·have:=holdsK_sortWorldK_c (enc:=scs) (k:=5) (w:=w) (blk:=blk) (off:=0) us.toArray d' n os (holdsS hrow) hrow.lt (by simpa using hsz)
   simpa using this
  ·have:=size_sortWorldK_c (enc:=scs) (k:=5) (w:=w) (blk:=blk) (off:=0) n d' os
   have h2:=hrow.lt;omega
theorem sL_len (us:List M1.Upd):(sL us).length=us.length*5:=by
 induction us with
 | nil=>rfl
 | cons u t ih =>
  have e:sL (u :: t)=scs u ++ sL t:=rfl;rw [e,List.length_append,ih];simp [scs];omega
theorem sL_one (us:List M1.Upd):∀ v∈sL us,v.oneCell'=true:=by
 intro v hv;obtain ⟨u,_,h⟩:=List.mem_flatMap.1 hv;exact oneSc u v h
theorem sL_cells {w:World}{g n:Nat}{S:List M1.Upd}(hl:S.length=n)(h:RowAt w g (n*5) (scell S)):∀ j u,(sL S)[j]?=some u→w.cell? ((⟨g,0,none⟩:Addr).add j)=some u:=by
 intro j u hu;have hj:j<S.length*5:=by
  have:=(List.getElem?_eq_some_iff.1 hu).1;rw [sL_len] at this;exact this
 have e:=sL_get S j hj;have e2:(sL S).getD j undef=u:=by rw [List.getD_eq_getElem?_getD,hu];rfl
 have q:=h.cell (o:=j) (by rw [←hl];exact hj);rw [←e,e2] at q;by_cases hj0:j=0
 ·subst hj0;exact q
 ·have ea:(⟨g,0,none⟩:Addr).add j=⟨g,j,none⟩:=by simp [Addr.add,hj0]
  rw [ea];exact q
set_option maxHeartbeats 32000000 in
set_option maxRecDepth 100000 in
@[go_sem] theorem eqlSpNil (w:World) (a:Option Addr) (l c:Nat):(binOp .eql 83 (.slice a l c) (.slice none 0 0)).run Tryz.prog w=.ok (.bool a.isNone) w:=by
 simp only [binOp];simp [run_equal_slice_nil w _ _ a l c Tryz.underlying83]
theorem cloneSp_any (av:Option Addr)(m c B:Nat)(S:List M1.Upd)(w:World)(h:SpIn w av m c B S)(hm60:m≤1000) :
  Calls Tryz.prog 69 #[.slice av m c] w fun e w'=>(∃ (a:Option Addr) (c2:Nat),e=.returned (.slice a m c2)∧MG w' a m c2 w.heap.size w'.heap.size (scell S))∧Below w.heap.size w w':=by
 have hl:Hid (S.length=m):=h.len;have hm1:=h.cap;have hm2:=h.most;unfold maxLen at hm2
 cases av with
 | none =>
  have hm0:m=0:=by
   rcases h.lies with h0 | ⟨g,e,_⟩
   ·exact h0
   ·cases e
  subst hm0;go_enter Tryz.func69,Tryz.ntmps69
  go_wp2_with fail
  go_ret
  exact ⟨⟨none,0,rfl,Nat.le_refl _,by unfold maxLen;omega,Or.inl ⟨rfl,rfl⟩⟩,Below.refl _ _⟩
 | some ad =>
  obtain ⟨ti,hi1,hi2,hi3,hi4⟩:=infoS;have hi4':Hid (ti.bytes=48):=hi4;have hi2':Hid (ti.zero=some (.agg #[.int .i64 0,.int .i64 0,.string ByteArray.empty,.int .i64 0,.int .i64 0])):=hi2;have hi3':Hid (ti.size=5):=hi3;have hi1':Hid (Tryz.prog.info? 70=some ti):=hi1;clear hi1 hi2 hi3 hi4;have own0:=ownsS_empty w 70;have hA:Below w.heap.size w (w.alloc (.cells #[] 70)):=(Below.refl _ _).alloc (Nat.le_refl _) _;by_cases hm0:m=0
  ·subst hm0
   have hSn:S=[]:=List.eq_nil_of_length_eq_zero hl.out;subst hSn;have mg:=MG.of_ownsS (us:=[]) rfl own0;go_enter Tryz.func69,Tryz.ntmps69
   go_wp2_with (at_builtin;refine wpList_append_zero rfl _ _ _ rfl w.heap.size 70 ti 5 Tryz.underlying83 hi1'.out _ 0 (sL []) rfl own0 _ _ rfl ?_)
   go_ret
   exact ⟨⟨_,_,rfl,mg⟩,hA⟩
  ·rcases h.lies with h0 | ⟨g,e,hgB,r1⟩
   ·exact absurd h0 hm0
   injection e with e;subst e;have hgl:=r1.lt;have r2:=r1.below hA;have hcl:=sL_cells hl.out r2;have hsl:(sL S).length=m*5:=by rw [sL_len,hl.out]
   go_enter Tryz.func69,Tryz.ntmps69
   go_wp2_with (at_builtin;refine wpList_append_lies _ rfl _ _ _ rfl w.heap.size 70 ti _ 5 48 Tryz.underlying83 hi1'.out hi2'.out hi3'.out hi4'.out rfl (by omega) (.slice (some ⟨w.heap.size,0,none⟩) 0 0) 0 (sL []) rfl own0 ⟨g,0,none⟩ m c (sL S) rfl hsl hcl (sL_one S) (by omega) (by unfold maxLen;omega) (by omega) (by simp) _ rfl ?_;intro g4 cap4 w4 hown4 hgrow4 hat4 hlt4)
   go_ret
   have hB4:Below w.heap.size w w4:=hA.grown hgrow4 (by simp) (owns_base own0);have e0:sL [] ++ sL S=sL S:=rfl;rw [e0,Nat.zero_add] at hown4;have mg:=MG.of_ownsS hl.out hown4;exact ⟨⟨_,_,rfl,mg⟩,hB4⟩
end Go.Proofs.YtgcinolbkllkkaaGreat
