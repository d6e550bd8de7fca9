/-
  Texts of one proof, joined: AgreeI, PutN, DotA.
-/
import Derived.Test.YtgcinolbkllkkaaGreatZFConverged04
set_option linter.unusedSimpArgs false
set_option linter.unusedVariables false
namespace Go.Proofs.YtgcinolbkllkkaaGreat
open Go.ChangeShapes Go.WideShapes Go.ChangeAt Go.RowKit
attribute [local go_sem] run_makeMap
set_option maxHeartbeats 16000000 in
set_option maxRecDepth 100000 in
theorem setFrom_any (av:Option Addr)(n cn:Nat)(us:List M1.Upd)(w:World)(h1:IsUpds w av n cn us)(ha:Hid (M1.apart us)) :
  Calls Tryz.prog 33 #[.slice av n cn] w fun e w'=>(∃ b,e=.returned (.map (some b))∧w.heap.size≤b∧MapIs w' b us)∧Below w.heap.size w w':=by
 have hm1:=h1.hcap;have hm2:=h1.hmost;have hl1:Hid (us.length=n):=h1.hlen;unfold maxLen at hm2;go_enter Tryz.func33,Tryz.ntmps33
 go_wp2_with fail
 have hA:Below w.heap.size w (w.alloc (.map #[] 0)):=(Below.refl _ _).alloc (Nat.le_refl _) _;have hM:MapIs (w.alloc (.map #[] 0)) w.heap.size []:=MapIs.made w;go_loopw [9] (fun i wr=>∃ (k:Nat) (l:List M1.Upd),k≤n∧i=.int .i64 k∧Below w.heap.size w wr∧Hid (l=us.take k)∧MapIs wr w.heap.size l) (fun i _=>n-(intOf i).toNat)
 case atStart=>exact ⟨0,[],Nat.zero_le _,rfl,hA,(rfl:[]=us.take 0),hM⟩
 case round =>
  clear hA hM;obtain ⟨k,l,hk,rfl,hB,hl,hmap⟩:=hrel;have hs0:=hmap.lt;by_cases hlt:k<n
  ·have g1:=h1.below hB
   rcases g1.hlies with h0 | ⟨b,off,rfl,hb,hc⟩
   ·omega
   obtain ⟨c0,c1,c2,c3,c4,c5,c6,c7,c8,c9,c10,c11,c12⟩:=hc k hlt;have i0:(0:Int)≤(k:Int):=by omega
   have i1:(k:Int)<(n:Int):=by omega
   clear hc g1;have hfd:Hid (M1.fd l (M1.up us k).dr (M1.up us k).dn=none):=(by rw [hl.out];exact M1.fd_take ha.out (by have:=hl1.out;omega):M1.fd l (M1.up us k).dr (M1.up us k).dn=none)
   have hl':Hid (l ++ [M1.up us k]=us.take (k+1)):=(by rw [hl.out];exact (M1.take_up (by have:=hl1.out;omega)).symm:l ++ [M1.up us k]=us.take (k+1))
   go_wp2_with (at_mapUpdate;refine wpList_mapU rfl _ _ _ rfl w.heap.size l (M1.up us k) rfl (hmap.alloc _) hfd.out rfl rfl ?_;intro w1 hm1 hg1)
   refine ⟨⟨k+1,_,by omega,by go_num,(hB.alloc hB.size _).grown hg1 (by simp;omega) (fun j e=>by cases e;omega),hl',hm1⟩,by simp [intOf];omega⟩
  ·have hkn:k=us.length:=by have:=hl1.out;omega
   go_wp2_with fail
   go_ret
   refine ⟨⟨_,rfl,Nat.le_refl _,?_⟩,hB⟩;have e:=hl.out;rw [hkn,List.take_length] at e;rw [←e];exact hmap
theorem wpList_lookV {w:World}{ops:Array Oper}{rest:List Oper}{o:Oper}{a:Act}{Q:Exit→Act→World→Prop}
  (hg:o.guard=none) (m x:Operand) (hop:o.op=Op.lookup 58 m x true) (b:Nat) (us:List M1.Upd) (r n:Int)
  (hm:a.eval m=.map (some b)) (hown:MapIs w b us) (hx:a.eval x=dv r n) (p:M1.Upd) (q:Bool) (hp:(M1.fd us r n).getD M1.zeroU=p) (hq:(M1.fd us r n).isSome=q)
  (hK:wpList Tryz.prog ops Q rest (a.put o.dst (.tuple #[.agg #[.int .i64 p.dr,.int .i64 p.dn,.int .i64 p.sw,.int .i64 p.sc,.int .i64 p.sr,.int .i64 p.k,.int .i64 p.tr,.int .i64 p.id,.int .i64 p.pa,.string p.s,.int .i64 p.st,.int .i64 p.en,.int .i64 p.lv],.bool q])) w) :
  wpList Tryz.prog ops Q (o :: rest) a w:=wpList_lookU hg m x hop b us r n hm hown hx p q hp hq hK
attribute [local go_sem high] eqU
set_option maxHeartbeats 32000000 in
set_option maxRecDepth 100000 in
theorem agree_impl (av:Option Addr)(n cn:Nat)(us:List M1.Upd)(bv:Option Addr)(m cm:Nat)(vs:List M1.Upd)(w:World)(h1:IsUpds w av n cn us)(h2:IsUpds w bv m cm vs) :
  Calls Tryz.prog 9 #[.slice av n cn,.slice bv m cm] w fun e w'=>e=.returned (.bool (M1.agreeB us vs))∧Below w.heap.size w w':=by
 have hm3:=h2.hcap;have hm4:=h2.hmost;have hl2:Hid (vs.length=m):=h2.hlen;unfold maxLen at hm4;by_cases hs1:M1.setOk us=true
 ·by_cases hs2:M1.setOk vs=true
  ·have hap:Hid (M1.apart us):=M1.ok_apart (M1.setOk_all hs1)
   have HB:M1.agreeB us vs=decide (M1.agreeTo us vs vs.length):=by unfold M1.agreeB;rw [hs1,hs2];rfl
   obtain ⟨q,hq⟩:∃ q,decide (M1.agreeTo us vs vs.length)=q:=⟨_,rfl⟩
   have HQ:Hid (decide (M1.agreeTo us vs vs.length)=q):=hq;rw [HB,hq];clear HB hq;go_enter Tryz.func9,Tryz.ntmps9
   go_wp2_with fail
   refine (setOk_impl _ _ _ _ _ h1).mono ?_;rw [hs1];rintro e w1 ⟨rfl,hb1⟩;go_wp2_with fail
   refine (setOk_impl _ _ _ _ _ (h2.below hb1)).mono ?_;rw [hs2];rintro e w2 ⟨rfl,hb2⟩;have hB2:=hb1.trans (hb2.mono hb1.size);go_wp2_with fail
   refine (setFrom_any _ _ _ _ _ (h1.below hB2) hap).mono ?_;rintro e w3 ⟨⟨g,rfl,hg,hmap⟩,hb3⟩;have hB3:=hB2.trans (hb3.mono hB2.size);have hgl:=hmap.lt;have hgw:w.heap.size≤g:=Nat.le_trans hB2.size hg;clear hs1 hs2 hb1 hb2 hb3 hg;go_wp2_with fail
   go_loopw [22] (fun i wr=>∃ (k:Nat),k≤m∧i=.int .i64 k∧Below w3.heap.size w3 wr∧Hid (M1.agreeTo us vs k)) (fun i _=>m-(intOf i).toNat)
   case atStart=>exact ⟨0,Nat.zero_le _,rfl,Below.refl _ _,fun i hi=>absurd hi (Nat.not_lt_zero _)⟩
   case round =>
    obtain ⟨k,hk,rfl,hB0,hall⟩:=hrel;have hB:Below w.heap.size w wr:=hB3.trans (hB0.mono hB3.size);have hmr:=hmap.below hB0 hgl;have hsz:=hB0.size;by_cases hlt:k<m
    ·have g2:=h2.below hB
     rcases g2.hlies with h0 | ⟨b,off,rfl,hb,hc⟩
     ·omega
     obtain ⟨c0,c1,c2,c3,c4,c5,c6,c7,c8,c9,c10,c11,c12⟩:=hc k hlt;have i0:(0:Int)≤(k:Int):=by omega
     have i1:(k:Int)<(m:Int):=by omega
     clear hc g2
     cases hf:M1.fd us (M1.up vs k).dr (M1.up vs k).dn with
     | none =>
      have HN:Hid (M1.agreeTo us vs (k+1)):=M1.agreeTo_succ hall.out (M1.agree_none hf);have hf':Hid (M1.fd us (M1.up vs k).dr (M1.up vs k).dn=none):=hf;clear hf;go_wp2_with (at_lookup;refine wpList_lookV rfl _ _ rfl g us (M1.up vs k).dr (M1.up vs k).dn rfl (hmr.alloc _) rfl M1.zeroU false (by rw [hf'.out];rfl) (by rw [hf'.out];rfl) ?_)
      refine ⟨⟨k+1,by omega,by go_num,?_,HN⟩,by simp [intOf];omega⟩;repeat (first | (with_reducible exact Below.refl _ _) | ((with_reducible refine Below.setCell ?_ ?_ _);rotate_left;(focus (first | omega | (simp;done) | (simp;omega)))) | ((with_reducible refine Below.alloc ?_ ?_ _);rotate_left;(focus (first | omega | (simp;done) | (simp;omega)))) | (with_reducible refine Below.drew ?_) | ((with_reducible refine Below.trans ?_ (Below.mono hB0 ?_));rotate_left;(focus (first | omega | (simp;done) | (simp;omega)))))
     | some x =>
      have hf':Hid (M1.fd us (M1.up vs k).dr (M1.up vs k).dn=some x):=hf;clear hf;by_cases he:M1.ueq x (M1.up vs k)=true
      ·have HN:Hid (M1.agreeTo us vs (k+1)):=M1.agreeTo_succ hall.out (M1.agree_some hap.out hf'.out he)
       go_wp2_with (at_lookup;refine wpList_lookV rfl _ _ rfl g us (M1.up vs k).dr (M1.up vs k).dn rfl (hmr.alloc _) rfl x true (by rw [hf'.out];rfl) (by rw [hf'.out];rfl) ?_)
       refine ⟨⟨k+1,by omega,by go_num,?_,HN⟩,by simp [intOf];omega⟩;repeat (first | (with_reducible exact Below.refl _ _) | ((with_reducible refine Below.setCell ?_ ?_ _);rotate_left;(focus (first | omega | (simp;done) | (simp;omega)))) | ((with_reducible refine Below.alloc ?_ ?_ _);rotate_left;(focus (first | omega | (simp;done) | (simp;omega)))) | (with_reducible refine Below.drew ?_) | ((with_reducible refine Below.trans ?_ (Below.mono hB0 ?_));rotate_left;(focus (first | omega | (simp;done) | (simp;omega)))))
      ·replace he:M1.ueq x (M1.up vs k)=false:=by simpa using he
       have HN:Hid (q=false):=(by
        rw [←HQ.out];exact decide_eq_false (fun h=>M1.agree_not hf'.out he (h k (by have:=hl2.out;omega))):q=false)
       go_wp2_with (at_lookup;refine wpList_lookV rfl _ _ rfl g us (M1.up vs k).dr (M1.up vs k).dn rfl (hmr.alloc _) rfl x true (by rw [hf'.out];rfl) (by rw [hf'.out];rfl) ?_)
       refine bodyPost_ret (v:=.bool false) (by simp [results,Tryz.results9,go_sem]) rfl ⟨by rw [HN.out],?_⟩;repeat (first | (with_reducible exact Below.refl _ _) | ((with_reducible refine Below.setCell ?_ ?_ _);rotate_left;(focus (first | omega | (simp;done) | (simp;omega)))) | ((with_reducible refine Below.alloc ?_ ?_ _);rotate_left;(focus (first | omega | (simp;done) | (simp;omega)))) | (with_reducible refine Below.drew ?_) | ((with_reducible refine Below.trans ?_ (Below.mono hB ?_));rotate_left;(focus (first | omega | (simp;done) | (simp;omega)))))
    ·have HN:Hid (q=true):=(by
      rw [←HQ.out];have e:vs.length=k:=by have:=hl2.out;omega
      rw [e];exact decide_eq_true hall.out:q=true)
     go_wp2_with fail
     refine bodyPost_ret (v:=.bool true) (by simp [results,Tryz.results9,go_sem]) rfl ⟨by rw [HN.out],hB⟩
  ·replace hs2:M1.setOk vs=false:=by simpa using hs2
   have HB:M1.agreeB us vs=false:=by unfold M1.agreeB;rw [hs1,hs2];rfl
   rw [HB];go_enter Tryz.func9,Tryz.ntmps9
   go_wp2_with fail
   refine (setOk_impl _ _ _ _ _ h1).mono ?_;rw [hs1];rintro e w1 ⟨rfl,hb1⟩;go_wp2_with fail
   refine (setOk_impl _ _ _ _ _ (h2.below hb1)).mono ?_;rw [hs2];rintro e w2 ⟨rfl,hb2⟩;have hB2:=hb1.trans (hb2.mono hb1.size);go_wp2_with fail
   go_ret
   exact ⟨rfl,hB2⟩
 ·replace hs1:M1.setOk us=false:=by simpa using hs1
  have HB:M1.agreeB us vs=false:=by unfold M1.agreeB;rw [hs1];rfl
  rw [HB];go_enter Tryz.func9,Tryz.ntmps9
  go_wp2_with fail
  refine (setOk_impl _ _ _ _ _ h1).mono ?_;rw [hs1];rintro e w1 ⟨rfl,hb1⟩;go_wp2_with fail
  go_ret
  exact ⟨rfl,hb1⟩
end Go.Proofs.YtgcinolbkllkkaaGreat
namespace M1
def putL (us:List Upd)(u:Upd):List Upd:=if (fd us u.dr u.dn).isSome then us else us ++ [u]
theorem putL_none {us:List Upd}{u:Upd}(h:fd us u.dr u.dn=none):putL us u=us ++ [u]:=by simp [putL,h]
theorem putL_some {us:List Upd}{u x:Upd}(h:fd us u.dr u.dn=some x):putL us u=us:=by simp [putL,h]
def putsTo (xs ys:List Upd):Nat→List Upd
 | 0=>xs
 | k+1=>putL (putsTo xs ys k) (up ys k)
end M1
namespace Go.Proofs.YtgcinolbkllkkaaGreat
open Go.ChangeShapes Go.WideShapes Go.ChangeAt Go.RowKit
open Go.ChangeMaps (setBlock)
theorem find_idx (r n:Int)(w:World):∀ (es:List MapEntry) (us:List M1.Upd) (i:Nat),es.map (fun e=>(e.key,e.val))=us.map (fun u=>(dv u.dr u.dn,uv u)) →
  ∃ o,(Instr.findAsking 68 (dv r n) es i).run Tryz.prog w=.ok o w∧((o=none∧M1.fd us r n=none)∨∃ j x,o=some (i+j,uv x)∧M1.fd us r n=some x∧us[j]?=some x∧x.dr=r∧x.dn=n)
 | [],[],i,_=>⟨none,rfl,Or.inl ⟨rfl,rfl⟩⟩
 | [],_ :: _,_,h=>by cases h
 | _ :: _,[],_,h=>by cases h
 | e :: es,u :: us,i,h=>by
  rw [List.map_cons,List.map_cons,List.cons.injEq,Prod.mk.injEq] at h;obtain ⟨⟨h1,h2⟩,h3⟩:=h;have hq:(Op.equal 68 (dv r n) e.key).run Tryz.prog w=.ok (decide (r=u.dr∧n=u.dn)) w:=by
   rw [h1];exact eqDotV r n u.dr u.dn w
  unfold Instr.findAsking M1.fd;by_cases c:u.dr=r∧u.dn=n
  ·refine ⟨some (i,e.val),?_,Or.inr ⟨0,u,by rw [h2];rfl,by rw [if_pos c],rfl,c.1,c.2⟩⟩
   simp [hq,Result.andThen,c.1,c.2]
  ·obtain ⟨o,ho1,ho2⟩:=find_idx r n w es us (i+1) h3
   refine ⟨o,?_,?_⟩
   ·have c':¬(r=u.dr∧n=u.dn):=fun x=>c ⟨x.1.symm,x.2.symm⟩
    simp only [Sem.run_bind,hq,Result.andThen,decide_eq_false c',Bool.false_eq_true,if_false];exact ho1
   ·rw [if_neg c]
    rcases ho2 with ho2 | ⟨j,x,h4,h5,h6,h7⟩
    ·exact Or.inl ho2
    ·exact Or.inr ⟨j+1,x,by rw [h4,Nat.add_assoc,Nat.add_comm 1 j],h5,by simpa using h6,h7⟩
theorem findKey_idx (r n:Int)(w:World)(es:List MapEntry)(us:List M1.Upd)(h:es.map (fun e=>(e.key,e.val))=us.map (fun u=>(dv u.dr u.dn,uv u))) :
  ∃ o,(Instr.findKey 68 (dv r n) es).run Tryz.prog w=.ok o w∧((o=none∧M1.fd us r n=none)∨∃ j x,o=some (j,uv x)∧M1.fd us r n=some x∧us[j]?=some x∧x.dr=r∧x.dn=n):=by
 cases es with
 | nil =>
  cases us with
  | nil =>
   refine ⟨none,?_,Or.inl ⟨rfl,rfl⟩⟩;unfold Instr.findKey;simp [run_underlying Tryz.underlying68,Result.andThen,Instr.findNow]
  | cons=>cases h
 | cons e es =>
  obtain ⟨o,ho1,ho2⟩:=find_idx r n w (e :: es) us 0 h;refine ⟨o,?_,by simpa using ho2⟩;rw [←ho1];unfold Instr.findKey;simp [run_underlying Tryz.underlying68,Result.andThen,Instr.findNow,Instr.sameNow]
theorem stays (a b:Int)(w:World):(Instr.keyThatStays (dv a b) (dv a b)).run Tryz.prog w=.ok (dv a b) w:=by
 simp [Instr.keyThatStays,Instr.sameBits,dv]
theorem run_putN {w:World}{b:Nat}{us:List M1.Upd}(h:MapN w b us)(u:M1.Upd)(hf:∀ x,M1.fd us u.dr u.dn=some x→x=u) :
  ∃ w',(Instr.mapUpdate 58 (.map (some b)) (dv u.dr u.dn) (uv u)).run Tryz.prog w=.ok () w'∧MapN w' b (M1.putL us u)∧w.grownBy w' (some b):=by
 obtain ⟨es,hb,h2,h3⟩:=h;obtain ⟨o,ho1,ho2⟩:=findKey_idx u.dr u.dn w es.toList us h2;have hc:(Instr.checkKey false 10000 68 (dv u.dr u.dn)).run Tryz.prog w=.ok () w:=checkDot _ _ _ w;rcases ho2 with ⟨rfl,hn⟩ | ⟨j,x,rfl,hs,hj,_,_⟩
 ·rw [M1.putL_none hn]
  refine ⟨setBlock w b (.map (es.push ⟨dv u.dr u.dn,uv u,us.length⟩) (us.length+1)),?_,⟨es.push ⟨dv u.dr u.dn,uv u,us.length⟩,?_,?_,?_⟩,⟨rfl,rfl,rfl,by simp [setBlock],fun i _ hi=>ChangeMaps.heap_setBlock_other hb _ (fun e=>hi (by rw [e]))⟩⟩
  ·simp [Instr.mapUpdate,run_underlying Tryz.underlying58,MapKept.run_getObj_map hb,hc,ho1,MapKept.run_setObj_map _ hb,Result.andThen,setBlock]
  ·rw [ChangeMaps.heap_setBlock_same hb _];simp
  ·simp [h2]
  ·simp [h3,List.range_succ]
 ·have hxu:=hf x hs
  subst hxu;rw [M1.putL_some hs];have hjl:j<us.length:=(List.getElem?_eq_some_iff.1 hj).1;have hel:es.size=us.length:=by
   have:=congrArg List.length h2
   simpa using this
  have he:(es.toList.map (fun e=>(e.key,e.val)))[j]?=(us.map (fun u=>(dv u.dr u.dn,uv u)))[j]?:=by rw [h2]
  have hje:j<es.size:=by omega
  rw [List.getElem?_map,List.getElem?_map,hj] at he;simp [hje] at he
  have hh:∀ e:MapEntry,e.key=dv x.dr x.dn→e.val=uv x→(⟨dv x.dr x.dn,uv x,e.born⟩:MapEntry)=e:=by
   intro e h1 h2;rw [←h1,←h2]
  have hmod:(es.modify j fun e=>{ e with key:=dv x.dr x.dn,val:=uv x })=es:=by
   apply Array.ext
   ·simp
   ·intro i h1 h2
    rw [Array.getElem_modify]
    split
    ·rename_i e
     subst e;exact hh _ he.1 he.2
    ·rfl
  refine ⟨setBlock w b (.map es us.length),?_,⟨es,ChangeMaps.heap_setBlock_same hb _,h2,h3⟩,⟨rfl,rfl,rfl,by simp [setBlock],fun i _ hi=>ChangeMaps.heap_setBlock_other hb _ (fun e=>hi (by rw [e]))⟩⟩;simp [Instr.mapUpdate,run_underlying Tryz.underlying58,MapKept.run_getObj_map hb,hc,ho1,hje,he.1,stays,hmod,MapKept.run_setObj_map _ hb,Result.andThen,setBlock]
theorem wpList_putN {w:World}{ops:Array Oper}{rest:List Oper}{o:Oper}{a:Act}{Q:Exit→Act→World→Prop}
  (hg:o.guard=none) (m x v:Operand) (hop:o.op=Op.mapUpdate 58 m x v) (b:Nat) (us:List M1.Upd) (u:M1.Upd)
  (hm:a.eval m=.map (some b)) (hown:MapN w b us) (hf:∀ x,M1.fd us u.dr u.dn=some x→x=u) (hx:a.eval x=dv u.dr u.dn) (hv:a.eval v=uv u)
  (hK:∀ w',MapN w' b (M1.putL us u)→w.grownBy w' (some b)→wpList Tryz.prog ops Q rest (a.put o.dst undef) w') :
  wpList Tryz.prog ops Q (o :: rest) a w:=by
 refine wpList_plain hg fun K' hK'=>?_;obtain ⟨w',hrun,r1,r2⟩:=run_putN hown u hf;unfold Oper.wp;simp [execOp,hop,hm,hx,hv,hrun,Result.andThen]
 exact hK' _ _ (hK w' r1 r2)
theorem MapN.alloc {w:World}{b:Nat}{us:List M1.Upd}(h:MapN w b us)(o:Obj):MapN (w.alloc o) b us :=
 h.below ((Below.refl w.heap.size w).alloc (Nat.le_refl _) o) h.lt
attribute [local go_sem] run_makeMap
set_option maxHeartbeats 16000000 in
set_option maxRecDepth 100000 in
theorem setFromN_any (av:Option Addr)(n cn:Nat)(us:List M1.Upd)(w:World)(h1:IsUpds w av n cn us)(ha:Hid (M1.apart us)) :
  Calls Tryz.prog 33 #[.slice av n cn] w fun e w'=>(∃ b,e=.returned (.map (some b))∧w.heap.size≤b∧MapN w' b us)∧Below w.heap.size w w':=by
 have hm1:=h1.hcap;have hm2:=h1.hmost;have hl1:Hid (us.length=n):=h1.hlen;unfold maxLen at hm2;go_enter Tryz.func33,Tryz.ntmps33
 go_wp2_with fail
 have hA:Below w.heap.size w (w.alloc (.map #[] 0)):=(Below.refl _ _).alloc (Nat.le_refl _) _;have hM:MapN (w.alloc (.map #[] 0)) w.heap.size []:=MapN.made w;go_loopw [9] (fun i wr=>∃ (k:Nat) (l:List M1.Upd),k≤n∧i=.int .i64 k∧Below w.heap.size w wr∧Hid (l=us.take k)∧MapN wr w.heap.size l) (fun i _=>n-(intOf i).toNat)
 case atStart=>exact ⟨0,[],Nat.zero_le _,rfl,hA,(rfl:[]=us.take 0),hM⟩
 case round =>
  clear hA hM;obtain ⟨k,l,hk,rfl,hB,hl,hmap⟩:=hrel;have hs0:=hmap.lt;by_cases hlt:k<n
  ·have g1:=h1.below hB
   rcases g1.hlies with h0 | ⟨b,off,rfl,hb,hc⟩
   ·omega
   obtain ⟨c0,c1,c2,c3,c4,c5,c6,c7,c8,c9,c10,c11,c12⟩:=hc k hlt;have i0:(0:Int)≤(k:Int):=by omega
   have i1:(k:Int)<(n:Int):=by omega
   clear hc g1;have hfd:Hid (M1.fd l (M1.up us k).dr (M1.up us k).dn=none):=(by rw [hl.out];exact M1.fd_take ha.out (by have:=hl1.out;omega):M1.fd l (M1.up us k).dr (M1.up us k).dn=none)
   have hl':Hid (l ++ [M1.up us k]=us.take (k+1)):=(by rw [hl.out];exact (M1.take_up (by have:=hl1.out;omega)).symm:l ++ [M1.up us k]=us.take (k+1))
   go_wp2_with (at_mapUpdate;refine wpList_putN rfl _ _ _ rfl w.heap.size l (M1.up us k) rfl (hmap.alloc _) (fun x e=>by rw [hfd.out] at e;cases e) rfl rfl ?_;intro w1 hm1 hg1)
   rw [M1.putL_none hfd.out] at hm1;refine ⟨⟨k+1,_,by omega,by go_num,(hB.alloc hB.size _).grown hg1 (by simp;omega) (fun j e=>by cases e;omega),hl',hm1⟩,by simp [intOf];omega⟩
  ·have hkn:k=us.length:=by have:=hl1.out;omega
   go_wp2_with fail
   go_ret
   refine ⟨⟨_,rfl,Nat.le_refl _,?_⟩,hB⟩;have e:=hl.out;rw [hkn,List.take_length] at e;rw [←e];exact hmap
end Go.Proofs.YtgcinolbkllkkaaGreat
namespace Go.Proofs.YtgcinolbkllkkaaGreat
open Go.ChangeShapes Go.WideShapes Go.ChangeAt Go.RowKit
theorem isNaN_any (x:Int)(w:World):Calls Tryz.prog 102 #[.int .i64 x] w fun e w'=>e=.returned (.bool false)∧w'=w:=by
 go_enter Tryz.func102,Tryz.ntmps102
 go_wp2_with fail
 go_ret
 exact ⟨by simp,rfl⟩
theorem compare_any (x y:Int)(w:World):Calls Tryz.prog 68 #[.int .i64 x,.int .i64 y] w fun e w'=>e=.returned (.int .i64 (M1.cmpI x y))∧w'=w:=by
 unfold M1.cmpI;by_cases h1:x<y
 ·have h2:¬y<x:=by omega
  go_enter Tryz.func68,Tryz.ntmps68
  go_wp2_with ((go_at_call 102;refine (isNaN_any _ _).mono ?_;rintro e w' ⟨rfl,rfl⟩))
  go_ret
  exact ⟨by simp [h1,h2],rfl⟩
 ·by_cases h2:y<x
  ·go_enter Tryz.func68,Tryz.ntmps68
   go_wp2_with ((go_at_call 102;refine (isNaN_any _ _).mono ?_;rintro e w' ⟨rfl,rfl⟩))
   go_ret
   exact ⟨by simp [h1,h2],rfl⟩
  ·go_enter Tryz.func68,Tryz.ntmps68
   go_wp2_with ((go_at_call 102;refine (isNaN_any _ _).mono ?_;rintro e w' ⟨rfl,rfl⟩))
   go_ret
   exact ⟨by simp [h1,h2],rfl⟩
theorem dahead_spec (a b x y:Int)(w:World) :
  Calls Tryz.prog 93 #[.agg #[.int .i64 a,.int .i64 b],.agg #[.int .i64 x,.int .i64 y]] w fun e w'=>e=.returned (.bool (M1.dahead a b x y))∧Below w.heap.size w w':=by
 unfold M1.dahead;go_enter Tryz.func93,Tryz.ntmps93
 go_wp2
 all_goals (go_ret)
 all_goals (exact ⟨by simp_all,((Below.refl _ _).alloc (Nat.le_refl _) _).alloc (by simp) _⟩)
set_option maxHeartbeats 4000000 in
theorem cmpOr_two (b:Nat)(x y:Int)(w:World)(c0:w.cell? ⟨b,0,none⟩=some (.int .i64 x))(c1:w.cell? ⟨b,1,none⟩=some (.int .i64 y)) :
  Calls Tryz.prog 71 #[.slice (some ⟨b,0,none⟩) 2 2] w fun e w'=>e=.returned (.int .i64 (M1.orI x y))∧w'=w:=by
 go_enter Tryz.func71,Tryz.ntmps71
 go_wp2_with fail
 go_loopw [8] (fun i wr=>∃ q:Int,i=.int .i64 q∧wr=w∧(q=0∨(q=1∧x=0)∨(q=2∧x=0∧y=0))) (fun i _=>2-(intOf i).toNat)
 case atStart=>exact ⟨0,rfl,rfl,Or.inl rfl⟩
 case round =>
  obtain ⟨q,rfl,rfl,hq⟩:=hrel;rcases hq with rfl | ⟨rfl,hx⟩ | ⟨rfl,hx,hy⟩
  ·by_cases hx:x=0
   ·have hxb:(x != 0)=false:=by simp [hx]
    go_wp2_with fail
    exact ⟨⟨1,rfl,by first | trivial | rfl,Or.inr (Or.inl ⟨rfl,hx⟩)⟩,by simp [intOf]⟩
   ·have hxb:(x != 0)=true:=by simp [hx]
    have HX:Hid (¬x=0):=hx;clear hx;go_wp2_with fail
    go_ret
    exact ⟨by rw [M1.orI,if_neg HX.out];rfl,rfl⟩
  ·by_cases hy:y=0
   ·have hxb:(y != 0)=false:=by simp [hy]
    go_wp2_with fail
    exact ⟨⟨2,rfl,by first | trivial | rfl,Or.inr (Or.inr ⟨rfl,hx,hy⟩)⟩,by simp [intOf]⟩
   ·have hxb:(y != 0)=true:=by simp [hy]
    have HX:Hid (x=0):=hx;clear hx hy;go_wp2_with fail
    go_ret
    exact ⟨by rw [M1.orI,if_pos HX.out];rfl,rfl⟩
  ·have HX:Hid (x=0∧y=0):=⟨hx,hy⟩
   clear hx hy;go_wp2_with fail
   go_ret
   exact ⟨by rw [M1.orI,if_pos HX.out.1,HX.out.2];rfl,rfl⟩
end Go.Proofs.YtgcinolbkllkkaaGreat
