/-
  Texts of one proof, joined: GenV, AgreeS, JdS.
-/
import Derived.BigQuiet
import Derived.Test.YtgcinolbkllkkaaGreatZFConverged16
set_option linter.unusedSimpArgs false
set_option linter.unusedVariables false
namespace Go.Proofs.YtgcinolbkllkkaaGreat
open Go.ChangeShapes Go.WideShapes Go.ChangeAt Go.RowKit
set_option maxHeartbeats 32000000 in
set_option maxRecDepth 100000 in
theorem l3Vector_gen (av:Option Addr)(n cn:Nat)(us:List M1.Upd)(w:World)(h1:IsUpds w av n cn us)(hn:n≤1048576) :
  Calls Tryz.prog 137 #[.slice av n cn] w fun e w'=>Joined w w' e (M1.l3v us)∧Below w.heap.size w w':=by
 have hl1:Hid (us.length=n):=h1.hlen;have hm1:=h1.hcap;have hm2:=h1.hmost;unfold maxLen at hm2;obtain ⟨ti,hi1,hi2,hi3,hi4⟩:=infoDot;have hi4':Hid (ti.bytes=16):=hi4;have hi2':Hid (ti.zero=some (.agg #[.int .i64 0,.int .i64 0])):=hi2;have hi3':Hid (ti.size=2):=hi3;have hi1':Hid (Tryz.prog.info? 68=some ti):=hi1;clear hi1 hi2 hi3 hi4;go_enter Tryz.func137,Tryz.ntmps137
 go_wp2_with fail
 have hA:Below w.heap.size w (w.alloc (.cells #[] 68)):=(Below.refl _ _).alloc (Nat.le_refl _) _;have own0:=owns_empty w 68;go_loopw [3,4] (fun v i wr=>∃ (k:Nat) (ds:List (Int × Int)),k≤n∧i=.int .i64 k∧Hid (M1.l3To us k=ds)∧ds.length≤k∧wr.ownsRow w.heap.size 68 2 v ds.length (dcs ds)∧Below w.heap.size w wr) (fun _ i _=>n-(intOf i).toNat)
 case atStart=>exact ⟨0,[],Nat.zero_le _,rfl,(rfl:M1.l3To us 0=[]),Nat.le_refl _,own0,hA⟩
 case round =>
  clear own0 hA;obtain ⟨k,ds,hk,rfl,hds,hdl,hown,hB⟩:=hrel;by_cases hlt:k<n
  ·have g1:=h1.below hB
   rcases g1.hlies with h0 | ⟨b,off,rfl,hb,hc⟩
   ·omega
   obtain ⟨c0,c1,c2,c3,c4,c5,c6,c7,c8,c9,c10,c11,c12⟩:=hc k hlt;have i0:(0:Int)≤(k:Int):=by omega
   have i1:(k:Int)<(n:Int):=by omega
   have i5:IntKind.i64.wrap ((k:Int)+1)=(k:Int)+1:=IntWalk.i64_in _ (by omega);have hsz:=hB.size;by_cases hq:k+1=us.length∨¬(M1.up us (k+1)).dr=(M1.up us k).dr
   ·have HE:Hid (M1.l3To us (k+1)=ds ++ [((M1.up us k).dr,(M1.up us k).dn)]):=(by
     rw [M1.l3To_yes hq,hds.out]:M1.l3To us (k+1)=ds ++ [((M1.up us k).dr,(M1.up us k).dn)])
    by_cases hq1:k+1=n
    ·have e1:(((k:Int)+1)==(n:Int))=true:=by simp;omega
     clear hq hc g1;go_wp2_with fail
     refine wp_region_held_drew (S:=fun w'=>Kp wr w') (by kernel_rfl) ?_ (fun zH=>?_)
     ·exact kp_zero _
     refine uZ 0 ?_;simp only[pZ,zZ];refine uZ 1 ?_;simp only[pZ,zZ];refine uZ 2 ?_;simp only[pZ,zZ];refine uZ 3 ?_;simp only[pZ,zZ];refine uZ 4 ?_;simp only[pZ,zZ];refine uZ 5 ?_;simp only[pZ,zZ];refine vZ 6 ?_;simp only[pZ,zZ];refine vZ 7 ?_;simp only[pZ,zZ];refine vZ 8 ?_;simp only[pZ,zZ];refine vZ 9 ?_;simp only[pZ,zZ];refine vZ 10 ?_;simp only[pZ,zZ];refine vZ 11 ?_;simp only[pZ,zZ];refine vZ 12 ?_;simp only[pZ,zZ];refine vZ 13 ?_;simp only[pZ,zZ];refine vZ 14 ?_;simp only[pZ,zZ];refine vZ 15 ?_;simp only[pZ,zZ];refine vZ 16 ?_;simp only[pZ,zZ];refine vZ 17 ?_;simp only[pZ,zZ];refine vZ 18 ?_;simp only[pZ,zZ];refine vZ 19 ?_;simp only[pZ,zZ];refine uZ 20 ?_;simp only[pZ,zZ];refine dZ ?_;have hK1:=zH;clear zH;generalize wr.drew=W1 at hK1 ⊢;have hB1:=hB.trans (hK1.1.mono hB.size);have hown1:=owns_below hown hK1.1;have hK2:=hK1.2;have hsz1:=hB1.size;clear hK1;go_wp2_with (at_builtin;refine wpList_append_lies _ rfl _ _ _ rfl w.heap.size 68 ti _ 2 16 Tryz.underlying37 hi1'.out hi2'.out hi3'.out hi4'.out rfl (by omega) u3 ds.length (dcs ds) rfl (owns_below hown1 ((Below.refl _ _).alloc (Nat.le_refl _) _)) ⟨W1.heap.size,0,none⟩ 1 1 [.int .i64 (M1.up us k).dr,.int .i64 (M1.up us k).dn] rfl rfl (news2 _ _ _ _) (one2 _ _) (by omega) (by unfold maxLen;omega) (by omega) (by simp;omega) _ rfl ?_;intro g4 cap4 w4 hown4 hgrow4 hat4 hlt4)
     have hB4:Below w.heap.size w w4:=(hB1.alloc hB1.size _).grown hgrow4 (by simp;omega) (owns_base hown1);exact ⟨⟨k+1,_,by omega,by go_num,HE,by simp;omega,owns_snoc hown4,hB4⟩,by simp [intOf];omega⟩
    ·have e1:(((k:Int)+1)==(n:Int))=false:=by simp;omega
     obtain ⟨p0,p1,p2,p3,p4,p5,p6,p7,p8,p9,p10,p11,p12⟩:=hc (k+1) (by omega);have i2:(0:Int)≤(k:Int)+1:=by omega
     have i3:(k:Int)+1<(n:Int):=by omega
     have e2:((M1.up us (k+1)).dr != (M1.up us k).dr)=true:=by simp;exact hq.elim (fun h=>absurd (h.trans hl1.out) hq1) id
     clear hq hc g1;go_wp2_with fail
     refine wp_region_held_drew (S:=fun w'=>Kp wr w') (by kernel_rfl) ?_ (fun zH=>?_)
     ·exact kp_zero _
     refine uZ 0 ?_;simp only[pZ,zZ];refine uZ 1 ?_;simp only[pZ,zZ];refine uZ 2 ?_;simp only[pZ,zZ];refine uZ 3 ?_;simp only[pZ,zZ];refine uZ 4 ?_;simp only[pZ,zZ];refine uZ 5 ?_;simp only[pZ,zZ];refine uZ 6 ?_;simp only[pZ,zZ];refine uZ 7 ?_;simp only[pZ,zZ];refine uZ 8 ?_;simp only[pZ,zZ];refine uZ 9 ?_;simp only[pZ,zZ];refine uZ 10 ?_;simp only[pZ,zZ];refine uZ 11 ?_;simp only[pZ,zZ];refine uZ 12 ?_;simp only[pZ,zZ];refine uZ 13 ?_;simp only[pZ,zZ];refine uZ 14 ?_;simp only[pZ,zZ];refine uZ 15 ?_;simp only[pZ,zZ];refine uZ 16 ?_;simp only[pZ,zZ];refine uZ 17 ?_;simp only[pZ,zZ];refine uZ 18 ?_;simp only[pZ,zZ];refine uZ 19 ?_;simp only[pZ,zZ];refine uZ 20 ?_;simp only[pZ,zZ];refine dZ ?_;have hK1:=zH;clear zH;generalize wr.drew=W1 at hK1 ⊢;have hB1:=hB.trans (hK1.1.mono hB.size);have hown1:=owns_below hown hK1.1;have hK2:=hK1.2;have hsz1:=hB1.size;clear hK1;go_wp2_with (at_builtin;refine wpList_append_lies _ rfl _ _ _ rfl w.heap.size 68 ti _ 2 16 Tryz.underlying37 hi1'.out hi2'.out hi3'.out hi4'.out rfl (by omega) u3 ds.length (dcs ds) rfl (owns_below hown1 ((Below.refl _ _).alloc (Nat.le_refl _) _)) ⟨W1.heap.size,0,none⟩ 1 1 [.int .i64 (M1.up us k).dr,.int .i64 (M1.up us k).dn] rfl rfl (news2 _ _ _ _) (one2 _ _) (by omega) (by unfold maxLen;omega) (by omega) (by simp;omega) _ rfl ?_;intro g4 cap4 w4 hown4 hgrow4 hat4 hlt4)
     have hB4:Below w.heap.size w w4:=(hB1.alloc hB1.size _).grown hgrow4 (by simp;omega) (owns_base hown1);exact ⟨⟨k+1,_,by omega,by go_num,HE,by simp;omega,owns_snoc hown4,hB4⟩,by simp [intOf];omega⟩
   ·have HE:Hid (M1.l3To us (k+1)=ds):=(by
     rw [M1.l3To_no hq,hds.out]:M1.l3To us (k+1)=ds)
    have hq1:¬k+1=n:=fun e=>hq (Or.inl (e.trans hl1.out.symm));have e1:(((k:Int)+1)==(n:Int))=false:=by simp;omega
    obtain ⟨p0,p1,p2,p3,p4,p5,p6,p7,p8,p9,p10,p11,p12⟩:=hc (k+1) (by omega);have i2:(0:Int)≤(k:Int)+1:=by omega
    have i3:(k:Int)+1<(n:Int):=by omega
    have e2:((M1.up us (k+1)).dr != (M1.up us k).dr)=false:=by
     have:(M1.up us (k+1)).dr=(M1.up us k).dr:=Classical.not_not.1 (fun h=>hq (Or.inr h));simp [this]
    clear hq hc g1;go_wp2_with fail
    refine wp_region_held_drew (S:=fun w'=>Kp wr w') (by kernel_rfl) ?_ (fun zH=>?_)
    ·exact kp_zero _
    refine uZ 0 ?_;simp only[pZ,zZ];refine uZ 1 ?_;simp only[pZ,zZ];refine uZ 2 ?_;simp only[pZ,zZ];refine uZ 3 ?_;simp only[pZ,zZ];refine uZ 4 ?_;simp only[pZ,zZ];refine uZ 5 ?_;simp only[pZ,zZ];refine uZ 6 ?_;simp only[pZ,zZ];refine uZ 7 ?_;simp only[pZ,zZ];refine uZ 8 ?_;simp only[pZ,zZ];refine uZ 9 ?_;simp only[pZ,zZ];refine uZ 10 ?_;simp only[pZ,zZ];refine uZ 11 ?_;simp only[pZ,zZ];refine uZ 12 ?_;simp only[pZ,zZ];refine uZ 13 ?_;simp only[pZ,zZ];refine uZ 14 ?_;simp only[pZ,zZ];refine uZ 15 ?_;simp only[pZ,zZ];refine uZ 16 ?_;simp only[pZ,zZ];refine uZ 17 ?_;simp only[pZ,zZ];refine uZ 18 ?_;simp only[pZ,zZ];refine uZ 19 ?_;simp only[pZ,zZ];refine uZ 20 ?_;simp only[pZ,zZ];refine dZ ?_;have hK1:=zH;clear zH;have hB1:=hB.trans (hK1.1.mono hB.size);have hown1:=owns_below hown hK1.1;clear hK1;go_wp2_with fail
    exact ⟨⟨k+1,ds,by omega,by go_num,HE,by omega,hown1,hB1⟩,by simp [intOf];omega⟩
  ·have HE:Hid (M1.l3v us=ds):=(by
    have hkn:k=us.length:=by have:=hl1.out;omega
    unfold M1.l3v;rw [←hkn];exact hds.out:M1.l3v us=ds)
   go_wp2_with fail
   go_ret
   exact ⟨⟨_,rfl,by rw [HE.out];exact hown⟩,hB⟩
set_option maxHeartbeats 4000000 in
theorem l1Of_gen (av:Option Addr)(n cn:Nat)(ds:List (Int × Int))(r:Int)(w:World)(h1:IsVec w av n cn ds) :
  Calls Tryz.prog 153 #[.slice av n cn,.int .i64 r] w fun e w'=>e=.returned (.int .i64 (M1.fm ds r))∧w'=w:=by
 have hl1:Hid (ds.length=n):=h1.hlen;have hm1:=h1.hcap;have hm2:=h1.hmost;unfold maxLen at hm2;go_enter Tryz.func153,Tryz.ntmps153
 go_wp2
 go_loop [5] (fun i=>∃ k:Nat,k≤n∧i=.int .i64 k∧Hid (∀ j,j<k→¬M1.rg ds j=r)) (fun i=>n-(intOf i).toNat)
 case atStart=>exact ⟨0,Nat.zero_le _,rfl,fun j hj=>absurd hj (Nat.not_lt_zero _)⟩
 case round =>
  obtain ⟨k,hk,rfl,hall⟩:=hrel;by_cases hlt:k<n
  ·rcases h1.hlies with h0 | ⟨b,off,rfl,hb,hc⟩
   ·omega
   obtain ⟨c1,c2⟩:=hc k hlt;clear hc;have i0:(0:Int)≤(k:Int):=by omega
   have i1:(k:Int)<(n:Int):=by omega
   by_cases hq:M1.rg ds k=r
   ·have HQ:Hid (M1.fm ds r=M1.nm ds k):=M1.fm_at (by have:=hl1.out;omega) hq hall.out
    have hq1:(M1.rg ds k==r)=true:=by simp [hq]
    clear hq hall;go_wp2
    go_ret
    exact ⟨by rw [HQ.out];rfl,rfl⟩
   ·have HQ:Hid (∀ j,j<k+1→¬M1.rg ds j=r):=fun j hj=>by
     by_cases e:j=k
     ·rw [e];exact hq
     ·exact hall.out j (by omega)
    have hq1:(M1.rg ds k==r)=false:=by simp [hq]
    clear hq hall;go_wp2
    go_round
    case rel=>exact ⟨k+1,by omega,by go_num,HQ⟩
    case measure=>simp [intOf];omega
  ·have HQ:Hid (M1.fm ds r=0):=M1.fm_none fun j hj=>hall.out j (by have:=hl1.out;omega)
   clear hall;go_wp2
   go_ret
   exact ⟨by rw [HQ.out];rfl,rfl⟩
end Go.Proofs.YtgcinolbkllkkaaGreat
namespace M1
def deq (a b c d:Int):Bool:=decide (a=c∧b=d)
end M1
namespace Go.Proofs.YtgcinolbkllkkaaGreat
open Go.ChangeShapes Go.WideShapes Go.ChangeAt Go.RowKit
theorem eqDotW (a b c d:Int)(w:World):(Op.equalIn 10000 68 (.agg #[.int .i64 a,.int .i64 b]) (.agg #[.int .i64 c,.int .i64 d])).run Tryz.prog w=.ok (M1.deq a b c d) w:=eqDotV a b c d w
attribute [local go_sem high] eqU eqDotW
set_option maxHeartbeats 32000000 in
set_option maxRecDepth 100000 in
theorem l3Agree_any (av:Option Addr)(n cn:Nat)(us:List M1.Upd)(bv:Option Addr)(m cm:Nat)(vs:List M1.Upd)(w:World)(h1:IsUpds w av n cn us)(h2:IsUpds w bv m cm vs)(hn:n≤1048576)(hm:m≤1048576) :
  Calls Tryz.prog 119 #[.slice av n cn,.slice bv m cm] w fun e w'=>e=.returned (.bool (decide (M1.agreeTo us vs vs.length)))∧Below w.heap.size w w':=by
 have hm1:=h1.hcap;have hm2:=h1.hmost;have hm3:=h2.hcap;have hm4:=h2.hmost;have hl1:Hid (us.length=n):=h1.hlen;have hl2:Hid (vs.length=m):=h2.hlen;obtain ⟨q,hq⟩:∃ q,decide (M1.agreeTo us vs vs.length)=q:=⟨_,rfl⟩
 have HQ:Hid (decide (M1.agreeTo us vs vs.length)=q):=hq;rw [hq];clear hq;unfold maxLen at hm2 hm4;go_enter Tryz.func119,Tryz.ntmps119
 go_wp2_with fail
 go_loopw [5] (fun i wr=>∃ (k:Nat),k≤n∧i=.int .i64 k∧Below w.heap.size w wr∧Hid (∀ i,i<k→∀ j,j<m→(M1.up us i).dr=(M1.up vs j).dr∧(M1.up us i).dn=(M1.up vs j).dn→M1.ueq (M1.up us i) (M1.up vs j)=true)) (fun i _=>n-(intOf i).toNat)
 case atStart=>exact ⟨0,Nat.zero_le _,rfl,Below.refl _ _,fun i hi=>absurd hi (Nat.not_lt_zero _)⟩
 case round =>
  obtain ⟨k,hk,rfl,hB,hall⟩:=hrel;by_cases hlt:k<n
  ·have i0:(0:Int)≤(k:Int):=by omega
   have i1:(k:Int)<(n:Int):=by omega
   have i5:IntKind.i64.wrap ((k:Int)+1)=(k:Int)+1:=IntWalk.i64_in _ (by omega);go_wp2_with fail
   go_loopw [6] (fun i wr=>∃ (p:Nat),p≤m∧i=.int .i64 p∧Below w.heap.size w wr∧Hid (∀ j,j<p→(M1.up us k).dr=(M1.up vs j).dr∧(M1.up us k).dn=(M1.up vs j).dn→M1.ueq (M1.up us k) (M1.up vs j)=true)) (fun i _=>m-(intOf i).toNat)
   case atStart=>exact ⟨0,Nat.zero_le _,rfl,hB,fun i hi=>absurd hi (Nat.not_lt_zero _)⟩
   case round =>
    clear hB;obtain ⟨p,hp,rfl,hB,hin⟩:=hrel;by_cases hlp:p<m
    ·have g1:=h1.below hB
     rcases g1.hlies with h0 | ⟨b,off,rfl,hb,hc⟩
     ·omega
     obtain ⟨c0,c1,c2,c3,c4,c5,c6,c7,c8,c9,c10,c11,c12⟩:=hc k hlt;have g2:=h2.below hB;rcases g2.hlies with h0 | ⟨b',off',rfl,hb',hc'⟩
     ·omega
     obtain ⟨p0,p1,p2,p3,p4,p5,p6,p7,p8,p9,p10,p11,p12⟩:=hc' p hlp;have j0:(0:Int)≤(p:Int):=by omega
     have j1:(p:Int)<(m:Int):=by omega
     have j5:IntKind.i64.wrap ((p:Int)+1)=(p:Int)+1:=IntWalk.i64_in _ (by omega);clear hc hc' g1 g2;by_cases hd:M1.deq (M1.up us k).dr (M1.up us k).dn (M1.up vs p).dr (M1.up vs p).dn=true
     ·by_cases he:M1.ueq (M1.up us k) (M1.up vs p)=true
      ·have HN:Hid (∀ j,j<p+1→(M1.up us k).dr=(M1.up vs j).dr∧(M1.up us k).dn=(M1.up vs j).dn→M1.ueq (M1.up us k) (M1.up vs j)=true):=fun j hj hh=>by
        by_cases ej:j=p
        ·rw [ej];exact he
        ·exact hin.out j (by omega) hh
       go_wp2_with fail
       refine wp_region_held_drew (S:=fun w'=>Kp wr w') (by kernel_rfl) ?_ (fun zH=>?_)
       ·exact kp_zero _
       refine uZ 0 ?_;simp only[pZ,zZ];refine uZ 1 ?_;simp only[pZ,zZ];refine uZ 2 ?_;simp only[pZ,zZ];refine uZ 3 ?_;simp only[pZ,zZ];refine uZ 4 ?_;simp only[pZ,zZ];refine uZ 5 ?_;simp only[pZ,zZ];refine uZ 6 ?_;simp only[pZ,zZ];refine uZ 7 ?_;simp only[pZ,zZ];refine uZ 8 ?_;simp only[pZ,zZ];refine uZ 9 ?_;simp only[pZ,zZ];refine uZ 10 ?_;simp only[pZ,zZ];refine uZ 11 ?_;simp only[pZ,zZ];refine uZ 12 ?_;simp only[pZ,zZ];refine uZ 13 ?_;simp only[pZ,zZ];refine uZ 14 ?_;simp only[pZ,zZ];refine uZ 15 ?_;simp only[pZ,zZ];refine uZ 16 ?_;simp only[pZ,zZ];refine uZ 17 ?_;simp only[pZ,zZ];refine uZ 18 ?_;simp only[pZ,zZ];refine uZ 19 ?_;simp only[pZ,zZ];refine uZ 20 ?_;simp only[pZ,zZ];refine uZ 21 ?_;simp only[pZ,zZ];refine dZ ?_;have hK1:=zH;clear zH;have hB1:=hB.trans (hK1.1.mono hB.size);clear hK1;go_wp2_with fail
       exact ⟨⟨p+1,by omega,by go_num,hB1,HN⟩,by simp [intOf];omega⟩
      ·replace he:M1.ueq (M1.up us k) (M1.up vs p)=false:=by simpa using he
       have HN:Hid (q=false):=(by
        rw [←HQ.out];refine decide_eq_false (fun h=>?_);have h9:=h p (by have:=hl2.out;omega) k (by have:=hl1.out;omega) (of_decide_eq_true hd);rw [he] at h9;exact absurd h9 (by decide):q=false)
       go_wp2_with fail
       refine wp_region_held_drew (S:=fun w'=>Kp wr w') (by kernel_rfl) ?_ (fun zH=>?_)
       ·exact kp_zero _
       refine uZ 0 ?_;simp only[pZ,zZ];refine uZ 1 ?_;simp only[pZ,zZ];refine uZ 2 ?_;simp only[pZ,zZ];refine uZ 3 ?_;simp only[pZ,zZ];refine uZ 4 ?_;simp only[pZ,zZ];refine uZ 5 ?_;simp only[pZ,zZ];refine uZ 6 ?_;simp only[pZ,zZ];refine uZ 7 ?_;simp only[pZ,zZ];refine uZ 8 ?_;simp only[pZ,zZ];refine uZ 9 ?_;simp only[pZ,zZ];refine uZ 10 ?_;simp only[pZ,zZ];refine uZ 11 ?_;simp only[pZ,zZ];refine uZ 12 ?_;simp only[pZ,zZ];refine uZ 13 ?_;simp only[pZ,zZ];refine uZ 14 ?_;simp only[pZ,zZ];refine uZ 15 ?_;simp only[pZ,zZ];refine uZ 16 ?_;simp only[pZ,zZ];refine uZ 17 ?_;simp only[pZ,zZ];refine uZ 18 ?_;simp only[pZ,zZ];refine uZ 19 ?_;simp only[pZ,zZ];refine uZ 20 ?_;simp only[pZ,zZ];refine uZ 21 ?_;simp only[pZ,zZ];refine dZ ?_;have hK1:=zH;clear zH;have hB1:=hB.trans (hK1.1.mono hB.size);clear hK1;go_wp2_with fail
       refine bodyPost_ret (v:=.bool false) (by simp [results,Tryz.results119,go_sem]) rfl ⟨by rw [HN.out],hB1⟩
     ·replace hd:M1.deq (M1.up us k).dr (M1.up us k).dn (M1.up vs p).dr (M1.up vs p).dn=false:=by simpa using hd
      have HN:Hid (∀ j,j<p+1→(M1.up us k).dr=(M1.up vs j).dr∧(M1.up us k).dn=(M1.up vs j).dn→M1.ueq (M1.up us k) (M1.up vs j)=true):=fun j hj hh=>by
       by_cases ej:j=p
       ·rw [ej] at hh;exact absurd hh (of_decide_eq_false hd)
       ·exact hin.out j (by omega) hh
      go_wp2_with fail
      refine wp_region_held_drew (S:=fun w'=>Kp wr w') (by kernel_rfl) ?_ (fun zH=>?_)
      ·exact kp_zero _
      refine uZ 0 ?_;simp only[pZ,zZ];refine uZ 1 ?_;simp only[pZ,zZ];refine uZ 2 ?_;simp only[pZ,zZ];refine uZ 3 ?_;simp only[pZ,zZ];refine uZ 4 ?_;simp only[pZ,zZ];refine uZ 5 ?_;simp only[pZ,zZ];refine uZ 6 ?_;simp only[pZ,zZ];refine uZ 7 ?_;simp only[pZ,zZ];refine uZ 8 ?_;simp only[pZ,zZ];refine uZ 9 ?_;simp only[pZ,zZ];refine uZ 10 ?_;simp only[pZ,zZ];refine uZ 11 ?_;simp only[pZ,zZ];refine vZ 12 ?_;simp only[pZ,zZ];refine vZ 13 ?_;simp only[pZ,zZ];refine vZ 14 ?_;simp only[pZ,zZ];refine vZ 15 ?_;simp only[pZ,zZ];refine vZ 16 ?_;simp only[pZ,zZ];refine vZ 17 ?_;simp only[pZ,zZ];refine vZ 18 ?_;simp only[pZ,zZ];refine vZ 19 ?_;simp only[pZ,zZ];refine vZ 20 ?_;simp only[pZ,zZ];refine uZ 21 ?_;simp only[pZ,zZ];refine dZ ?_;have hK1:=zH;clear zH;have hB1:=hB.trans (hK1.1.mono hB.size);clear hK1;go_wp2_with fail
      exact ⟨⟨p+1,by omega,by go_num,hB1,HN⟩,by simp [intOf];omega⟩
    ·have HN:Hid (∀ i,i<k+1→∀ j,j<m→(M1.up us i).dr=(M1.up vs j).dr∧(M1.up us i).dn=(M1.up vs j).dn→M1.ueq (M1.up us i) (M1.up vs j)=true):=fun i hi j hj hh=>by
      by_cases ei:i=k
      ·rw [ei] at hh ⊢;exact hin.out j (by omega) hh
      ·exact hall.out i (by omega) j hj hh
     go_wp2_with fail
     exact ⟨⟨k+1,by omega,by go_num,hB,HN⟩,by simp [intOf];omega⟩
  ·have HN:Hid (q=true):=(by
    rw [←HQ.out];exact decide_eq_true (fun j hj i hi hh=>hall.out i (by have:=hl1.out;omega) j (by have:=hl2.out;omega) hh):q=true)
   go_wp2_with fail
   refine bodyPost_ret (v:=.bool true) (by simp [results,Tryz.results119,go_sem]) rfl ⟨by rw [HN.out],hB⟩
theorem agree_spec (av:Option Addr)(n cn:Nat)(us:List M1.Upd)(bv:Option Addr)(m cm:Nat)(vs:List M1.Upd)(w:World)(h1:IsUpds w av n cn us)(h2:IsUpds w bv m cm vs) :
  Calls Tryz.prog 94 #[.slice av n cn,.slice bv m cm] w fun e w'=>e=.returned (.bool (M1.agreeB us vs))∧Below w.heap.size w w':=by
 by_cases hs1:M1.setOk us=true
 ·by_cases hs2:M1.setOk vs=true
  ·have HB:M1.agreeB us vs=decide (M1.agreeTo us vs vs.length):=by unfold M1.agreeB;rw [hs1,hs2];rfl
   obtain ⟨q,hq⟩:∃ q,decide (M1.agreeTo us vs vs.length)=q:=⟨_,rfl⟩
   have HQ:Hid (decide (M1.agreeTo us vs vs.length)=q):=hq;have hn1:n≤1048576:=by have:=M1.setOk_len hs1;have:=h1.hlen;omega
   have hn2:m≤1048576:=by have:=M1.setOk_len hs2;have:=h2.hlen;omega
   rw [HB,hq];clear HB hq;go_enter Tryz.func94,Tryz.ntmps94
   go_wp2_with fail
   refine (setOk_spec _ _ _ _ _ h1).mono ?_;rw [hs1];rintro e w1 ⟨rfl,hb1⟩;go_wp2_with fail
   refine (setOk_spec _ _ _ _ _ (h2.below hb1)).mono ?_;rw [hs2];rintro e w2 ⟨rfl,hb2⟩;have hB2:=hb1.trans (hb2.mono hb1.size);go_wp2_with fail
   refine (l3Agree_any _ _ _ _ _ _ _ _ _ (h1.below hB2) (h2.below hB2) hn1 hn2).mono ?_;rw [HQ.out];rintro e w3 ⟨rfl,hb3⟩;have hB3:=hB2.trans (hb3.mono hB2.size);go_wp2_with fail
   go_ret
   exact ⟨rfl,hB3⟩
  ·replace hs2:M1.setOk vs=false:=by simpa using hs2
   have HB:M1.agreeB us vs=false:=by unfold M1.agreeB;rw [hs1,hs2];rfl
   rw [HB];go_enter Tryz.func94,Tryz.ntmps94
   go_wp2_with fail
   refine (setOk_spec _ _ _ _ _ h1).mono ?_;rw [hs1];rintro e w1 ⟨rfl,hb1⟩;go_wp2_with fail
   refine (setOk_spec _ _ _ _ _ (h2.below hb1)).mono ?_;rw [hs2];rintro e w2 ⟨rfl,hb2⟩;have hB2:=hb1.trans (hb2.mono hb1.size);go_wp2_with fail
   go_ret
   exact ⟨rfl,hB2⟩
 ·replace hs1:M1.setOk us=false:=by simpa using hs1
  have HB:M1.agreeB us vs=false:=by unfold M1.agreeB;rw [hs1];rfl
  rw [HB];go_enter Tryz.func94,Tryz.ntmps94
  go_wp2_with fail
  refine (setOk_spec _ _ _ _ _ h1).mono ?_;rw [hs1];rintro e w1 ⟨rfl,hb1⟩;go_wp2_with fail
  go_ret
  exact ⟨rfl,hb1⟩
end Go.Proofs.YtgcinolbkllkkaaGreat
namespace M1
theorem jl_mem {xs ys:List Upd}(h:agreeB xs ys=true){k:Nat}(hk:k≤ys.length){x:Upd}(hx:x∈jlTo xs ys k):x.s.size≤12:=by
 obtain ⟨h1,h2,_⟩:=agreeB_true h;have hp:=(jl_all (ys:=ys) (ok_sorted (setOk_all h1)) k).2;rcases puts_mem (hp.mem_iff.2 hx) with hm | ⟨j,hj,e⟩
 ·obtain ⟨q,hq,e⟩:=mem_up hm
  have:=ok_txt (okAt_ok (setOk_all h1 q hq))
  rwa [e] at this
 ·have:=ok_txt (okAt_ok (setOk_all h2 j (by omega)))
  rw [e];exact this
theorem jl_len {xs ys:List Upd}(h:agreeB xs ys=true)(k:Nat):(jlTo xs ys k).length≤60+k:=by
 obtain ⟨h1,h2,_⟩:=agreeB_true h;have hp:=(jl_all (ys:=ys) (ok_sorted (setOk_all h1)) k).2.length_eq;have:=puts_len (xs:=xs) (ys:=ys) k;have:=setOk_len h1;omega
end M1
namespace Go.Proofs.YtgcinolbkllkkaaGreat
open Go.ChangeShapes Go.WideShapes Go.ChangeAt Go.RowKit
theorem MU.widen {w:World}{av:Option Addr}{n cap lo hi lo' hi':Nat}{f:Nat→Value}(h:MU w av n cap lo hi f)(h1:lo'≤lo)(h2:hi≤hi'):MU w av n cap lo' hi' f :=
 ⟨h.1,h.2.1,h.2.2.imp id fun ⟨k,e,h3,h4,r⟩=>⟨k,e,by omega,by omega,r⟩⟩
theorem jl_txt {xs ys:List M1.Upd}(h:M1.agreeB xs ys=true){k:Nat}(hk:k≤ys.length):∀ i,i<(M1.jlTo xs ys k).length→(M1.up (M1.jlTo xs ys k) i).s.size≤maxLen:=fun i hi=>by
 have hm:M1.up (M1.jlTo xs ys k) i∈M1.jlTo xs ys k:=by rw [up_get hi];exact List.getElem_mem hi
 have:=M1.jl_mem h hk hm;unfold maxLen;omega
set_option maxHeartbeats 160000000 in
set_option maxRecDepth 100000 in
theorem joined_spec (av bv:Option Addr)(n cn m cm:Nat)(xs ys:List M1.Upd)(w:World)(h1:IsUpds w av n cn xs)(h2:IsUpds w bv m cm ys) :
  Calls Tryz.prog 60 #[.slice av n cn,.slice bv m cm] w fun e w'=>Jd w w' e (M1.jL xs ys) (M1.jOk xs ys)∧Below w.heap.size w w':=by
 have hl2:Hid (ys.length=m):=h2.hlen;have hl1:Hid (xs.length=n):=h1.hlen;have hm1:=h1.hcap;have hm2:=h1.hmost;have hm3:=h2.hcap;have hm4:=h2.hmost;unfold maxLen at hm4 hm2;obtain ⟨ti,hi1,hi2,hi3,hi4⟩:=infoUpd;have hi4':Hid (ti.bytes=112):=hi4;have hi2':Hid (ti.zero=some (.agg #[.int .i64 0,.int .i64 0,.int .i64 0,.int .i64 0,.int .i64 0,.int .i64 0,.int .i64 0,.int .i64 0,.int .i64 0,.string ByteArray.empty,.int .i64 0,.int .i64 0,.int .i64 0])):=hi2;have hi3':Hid (ti.size=13):=hi3;have hi1':Hid (Tryz.prog.info? 72=some ti):=hi1;clear hi1 hi2 hi3 hi4;by_cases hag:M1.agreeB xs ys=true
 ·have HAG:Hid (M1.agreeB xs ys=true):=hag
  have hn60:n≤60:=by have:=M1.setOk_len (M1.agreeB_true hag).1;have:=hl1.out;omega
  have hm60:m≤60:=by have:=M1.setOk_len (M1.agreeB_true hag).2.1;have:=hl2.out;omega
  go_enter Tryz.func60,Tryz.ntmps60
  go_wp2_with fail
  refine (agree_spec _ _ _ _ _ _ _ _ _ h1 h2).mono ?_;rw [hag];clear hag;rintro e w1 ⟨rfl,hb1⟩;have g1:=h1.below hb1;have hs1:=hb1.size;have own0:=ownsU_empty w1 72;have hA:Below w1.heap.size w1 (w1.alloc (.cells #[] 72)):=(Below.refl _ _).alloc (Nat.le_refl _) _;rcases g1.hlies with h0 | ⟨b,off,rfl,hb,hc⟩
  ·have hx:xs=[]:=List.eq_nil_of_length_eq_zero (by have:=hl1.out;omega)
   subst hx;subst h0;obtain ⟨a,c,he,mu0⟩:=MU.of_owns own0;injection he with e1 e2 e3;(try clear e2);subst e1;subst e3;have mu:=mu0.widen (lo':=w.heap.size) (by omega) (Nat.le_refl _);clear mu0;go_wp2_with (at_builtin;(refine wpList_append_zero rfl _ _ _ rfl w1.heap.size 72 ti 13 Tryz.underlying32 hi1'.out _ 0 (ucL []) rfl own0 _ _ rfl ?_))
   obtain ⟨W,hWm,hWb⟩:∃ W,W=(w1.alloc (.cells #[] 72))∧Below w.heap.size w W:=⟨_,rfl,hb1.trans (hA.mono hs1)⟩
   rw [←hWm] at mu ⊢;clear hWm;go_wp2_with fail
   go_loopw [6,7] (fun v i wr=>∃ (k:Nat) (a:Option Addr) (c:Nat),k≤m∧i=.int .i64 k∧v=.slice a (M1.jlTo ([]:List M1.Upd) ys k).length c∧MU wr a (M1.jlTo ([]:List M1.Upd) ys k).length c w.heap.size wr.heap.size (ucell (M1.jlTo ([]:List M1.Upd) ys k))∧Below w.heap.size w wr) (fun _ i _=>m-(intOf i).toNat)
   case atStart=>exact ⟨0,_,_,Nat.zero_le _,rfl,rfl,mu,hWb⟩
   case round =>
    clear mu hWb;obtain ⟨k,a,c,hk,rfl,rfl,mu,hB⟩:=hrel;have hsz:=hB.size;have hjn:=M1.jl_len HAG.out k;by_cases hlt:k<m
    ·have g2:=h2.below hB
     rcases g2.hlies with h0 | ⟨b2,off2,rfl,hb2,hc2⟩
     ·omega
     obtain ⟨c0,c1,c2,c3,c4,c5,c6,c7,c8,c9,c10,c11,c12⟩:=hc2 k hlt;have i0:(0:Int)≤(k:Int):=by omega
     have i1:(k:Int)<(m:Int):=by omega
     clear hc2 g2;have uq:=mu.upds rfl (jl_txt HAG.out (by rw [hl2.out];exact hk));have HK:Hid (M1.jlTo ([]:List M1.Upd) ys (k+1)=M1.insD (M1.jlTo ([]:List M1.Upd) ys k) (M1.up ys k)):=(rfl:M1.jlTo ([]:List M1.Upd) ys (k+1)=M1.insD (M1.jlTo ([]:List M1.Upd) ys k) (M1.up ys k))
     go_wp2_with fail
     refine (l3Put_any _ _ _ _ (M1.up ys k) _ uq (by omega)).mono ?_;rintro e w4 ⟨⟨v4,ns,rfl,hput,own4⟩,hb4⟩;have hns:ns=M1.jlTo ([]:List M1.Upd) ys (k+1):=(M1.putR_ins hput).trans HK.out.symm;subst hns;obtain ⟨a4,c4',rfl,mu4⟩:=MU.of_owns own4;have hB4:=hB.trans (hb4.mono hB.size);clear hput own4 uq;go_wp2_with fail
     exact ⟨⟨k+1,a4,c4',by omega,by go_num,rfl,mu4.widen (by omega) (Nat.le_refl _),hB4⟩,by simp [intOf];omega⟩
    ·have hkm:Hid (M1.jlTo ([]:List M1.Upd) ys k=M1.jl ([]:List M1.Upd) ys):=(by unfold M1.jl;rw [show k=ys.length from by have:=hl2.out;omega]:M1.jlTo ([]:List M1.Upd) ys k=M1.jl ([]:List M1.Upd) ys)
     have uq:=mu.upds rfl (jl_txt HAG.out (by rw [hl2.out];exact hk));rw [hkm.out] at mu uq ⊢;go_wp2_with fail
     refine (setOk_spec _ _ _ _ _ uq).mono ?_;obtain ⟨okb,hok⟩:∃ q,Hid (M1.setOk (M1.jl ([]:List M1.Upd) ys)=q):=⟨_,rfl⟩
     rw [hok.out];rintro e w4 ⟨rfl,hb4⟩;have hB4:=hB.trans (hb4.mono hB.size);have mu4:=mu.below hb4;have hs4:=hb4.size
     cases okb with
     | true =>
      have q:=M1.j_yes HAG.out hok.out;have Q1:Hid (M1.jOk ([]:List M1.Upd) ys=true):=q.1;have Q2:Hid (M1.jL ([]:List M1.Upd) ys=M1.jl ([]:List M1.Upd) ys):=q.2;clear q;go_wp2_with fail
      refine bodyPost_ret (v:=.tuple #[.slice a (M1.jl ([]:List M1.Upd) ys).length c,.bool true]) (by simp [results,Tryz.results60,go_sem]) rfl ⟨?_,hB4⟩;rw [Q1.out,Q2.out];exact ⟨a,c,rfl,mu4.widen (Nat.le_refl _) hs4⟩
     | false =>
      have q:=M1.j_not hok.out;have Q1:Hid (M1.jOk ([]:List M1.Upd) ys=false):=q.1;have Q2:Hid (M1.jL ([]:List M1.Upd) ys=[]):=q.2;clear q;go_wp2_with fail
      refine bodyPost_ret (v:=.tuple #[.slice none 0 0,.bool false]) (by simp [results,Tryz.results60,go_sem]) rfl ⟨?_,hB4⟩;rw [Q1.out,Q2.out];exact jd_nil _ _
  ·have hnews:∀ j u,(ucL xs)[j]?=some u→(w1.alloc (.cells #[] 72)).cell? ((⟨b,off,none⟩:Addr).add j)=some u:=by
    have:=ucL_take_cells (w:=w1.alloc (.cells #[] 72)) (b:=b) (off:=off) (n:=n) (us:=xs) (fun i hi=>(hc i hi).below hA hb) hl1.out 0 n (by omega);have e:(xs.drop 0).take n=xs:=by rw [List.drop_zero,←hl1.out,List.take_length]
    rw [e] at this
    simpa using this
   by_cases hn0:n=0
   ·have hx:xs=[]:=List.eq_nil_of_length_eq_zero (by have:=hl1.out;omega)
    subst hx;subst hn0;clear hnews;obtain ⟨a,c,he,mu0⟩:=MU.of_owns own0;injection he with e1 e2 e3;(try clear e2);subst e1;subst e3;have mu:=mu0.widen (lo':=w.heap.size) (by omega) (Nat.le_refl _);clear mu0;go_wp2_with (at_builtin;(refine wpList_append_zero rfl _ _ _ rfl w1.heap.size 72 ti 13 Tryz.underlying32 hi1'.out _ 0 (ucL []) rfl own0 _ _ rfl ?_))
    obtain ⟨W,hWm,hWb⟩:∃ W,W=(w1.alloc (.cells #[] 72))∧Below w.heap.size w W:=⟨_,rfl,hb1.trans (hA.mono hs1)⟩
    rw [←hWm] at mu ⊢;clear hWm;go_wp2_with fail
    go_loopw [6,7] (fun v i wr=>∃ (k:Nat) (a:Option Addr) (c:Nat),k≤m∧i=.int .i64 k∧v=.slice a (M1.jlTo ([]:List M1.Upd) ys k).length c∧MU wr a (M1.jlTo ([]:List M1.Upd) ys k).length c w.heap.size wr.heap.size (ucell (M1.jlTo ([]:List M1.Upd) ys k))∧Below w.heap.size w wr) (fun _ i _=>m-(intOf i).toNat)
    case atStart=>exact ⟨0,_,_,Nat.zero_le _,rfl,rfl,mu,hWb⟩
    case round =>
     clear mu hWb;obtain ⟨k,a,c,hk,rfl,rfl,mu,hB⟩:=hrel;have hsz:=hB.size;have hjn:=M1.jl_len HAG.out k;by_cases hlt:k<m
     ·have g2:=h2.below hB
      rcases g2.hlies with h0 | ⟨b2,off2,rfl,hb2,hc2⟩
      ·omega
      obtain ⟨c0,c1,c2,c3,c4,c5,c6,c7,c8,c9,c10,c11,c12⟩:=hc2 k hlt;have i0:(0:Int)≤(k:Int):=by omega
      have i1:(k:Int)<(m:Int):=by omega
      clear hc2 g2;have uq:=mu.upds rfl (jl_txt HAG.out (by rw [hl2.out];exact hk));have HK:Hid (M1.jlTo ([]:List M1.Upd) ys (k+1)=M1.insD (M1.jlTo ([]:List M1.Upd) ys k) (M1.up ys k)):=(rfl:M1.jlTo ([]:List M1.Upd) ys (k+1)=M1.insD (M1.jlTo ([]:List M1.Upd) ys k) (M1.up ys k))
      go_wp2_with fail
      refine (l3Put_any _ _ _ _ (M1.up ys k) _ uq (by omega)).mono ?_;rintro e w4 ⟨⟨v4,ns,rfl,hput,own4⟩,hb4⟩;have hns:ns=M1.jlTo ([]:List M1.Upd) ys (k+1):=(M1.putR_ins hput).trans HK.out.symm;subst hns;obtain ⟨a4,c4',rfl,mu4⟩:=MU.of_owns own4;have hB4:=hB.trans (hb4.mono hB.size);clear hput own4 uq;go_wp2_with fail
      exact ⟨⟨k+1,a4,c4',by omega,by go_num,rfl,mu4.widen (by omega) (Nat.le_refl _),hB4⟩,by simp [intOf];omega⟩
     ·have hkm:Hid (M1.jlTo ([]:List M1.Upd) ys k=M1.jl ([]:List M1.Upd) ys):=(by unfold M1.jl;rw [show k=ys.length from by have:=hl2.out;omega]:M1.jlTo ([]:List M1.Upd) ys k=M1.jl ([]:List M1.Upd) ys)
      have uq:=mu.upds rfl (jl_txt HAG.out (by rw [hl2.out];exact hk));rw [hkm.out] at mu uq ⊢;go_wp2_with fail
      refine (setOk_spec _ _ _ _ _ uq).mono ?_;obtain ⟨okb,hok⟩:∃ q,Hid (M1.setOk (M1.jl ([]:List M1.Upd) ys)=q):=⟨_,rfl⟩
      rw [hok.out];rintro e w4 ⟨rfl,hb4⟩;have hB4:=hB.trans (hb4.mono hB.size);have mu4:=mu.below hb4;have hs4:=hb4.size
      cases okb with
      | true =>
       have q:=M1.j_yes HAG.out hok.out;have Q1:Hid (M1.jOk ([]:List M1.Upd) ys=true):=q.1;have Q2:Hid (M1.jL ([]:List M1.Upd) ys=M1.jl ([]:List M1.Upd) ys):=q.2;clear q;go_wp2_with fail
       refine bodyPost_ret (v:=.tuple #[.slice a (M1.jl ([]:List M1.Upd) ys).length c,.bool true]) (by simp [results,Tryz.results60,go_sem]) rfl ⟨?_,hB4⟩;rw [Q1.out,Q2.out];exact ⟨a,c,rfl,mu4.widen (Nat.le_refl _) hs4⟩
      | false =>
       have q:=M1.j_not hok.out;have Q1:Hid (M1.jOk ([]:List M1.Upd) ys=false):=q.1;have Q2:Hid (M1.jL ([]:List M1.Upd) ys=[]):=q.2;clear q;go_wp2_with fail
       refine bodyPost_ret (v:=.tuple #[.slice none 0 0,.bool false]) (by simp [results,Tryz.results60,go_sem]) rfl ⟨?_,hB4⟩;rw [Q1.out,Q2.out];exact jd_nil _ _
   ·go_wp2_with (at_builtin;refine wpList_append_lies _ rfl _ _ _ rfl w1.heap.size 72 ti _ 13 112 Tryz.underlying32 hi1'.out hi2'.out hi3'.out hi4'.out rfl (by omega) _ 0 (ucL []) rfl own0 ⟨b,off,none⟩ n cn (ucL xs) rfl (by rw [ucL_len,hl1.out]) hnews (ucL_one xs) (by omega) (by unfold maxLen;omega) (by omega) (by simp) _ rfl ?_;intro g4 cap4 w4 hown4 hgrow4 hat4 hlt4)
    have own4:w4.ownsRow w1.heap.size 72 13 (.slice (some ⟨g4,0,none⟩) xs.length cap4) xs.length (ucL xs):=by
     have q:=hown4;rw [Nat.zero_add,←hl1.out] at q;exact q
    obtain ⟨a,c,he,mu0⟩:=MU.of_owns own4;injection he with e1 e2 e3;(try clear e2);subst e1;subst e3;have mu:=mu0.widen (lo':=w.heap.size) (by omega) (Nat.le_refl _);have hB4:Below w.heap.size w w4:=(hb1.trans (hA.mono hs1)).grown hgrow4 (by simp;omega) (fun k e=>by have:=owns_base own0 k e;omega);rw [←hl1.out];clear mu0 hown4 own4 hnews;obtain ⟨W,hWm,hWb⟩:∃ W,W=w4∧Below w.heap.size w W:=⟨_,rfl,hB4⟩
    rw [←hWm] at mu ⊢;clear hWm;go_wp2_with fail
    go_loopw [6,7] (fun v i wr=>∃ (k:Nat) (a:Option Addr) (c:Nat),k≤m∧i=.int .i64 k∧v=.slice a (M1.jlTo xs ys k).length c∧MU wr a (M1.jlTo xs ys k).length c w.heap.size wr.heap.size (ucell (M1.jlTo xs ys k))∧Below w.heap.size w wr) (fun _ i _=>m-(intOf i).toNat)
    case atStart=>exact ⟨0,_,_,Nat.zero_le _,rfl,rfl,mu,hWb⟩
    case round =>
     clear mu hWb;obtain ⟨k,a,c,hk,rfl,rfl,mu,hB⟩:=hrel;have hsz:=hB.size;have hjn:=M1.jl_len HAG.out k;by_cases hlt:k<m
     ·have g2:=h2.below hB
      rcases g2.hlies with h0 | ⟨b2,off2,rfl,hb2,hc2⟩
      ·omega
      obtain ⟨c0,c1,c2,c3,c4,c5,c6,c7,c8,c9,c10,c11,c12⟩:=hc2 k hlt;have i0:(0:Int)≤(k:Int):=by omega
      have i1:(k:Int)<(m:Int):=by omega
      clear hc2 g2;have uq:=mu.upds rfl (jl_txt HAG.out (by rw [hl2.out];exact hk));have HK:Hid (M1.jlTo xs ys (k+1)=M1.insD (M1.jlTo xs ys k) (M1.up ys k)):=(rfl:M1.jlTo xs ys (k+1)=M1.insD (M1.jlTo xs ys k) (M1.up ys k))
      go_wp2_with fail
      refine (l3Put_any _ _ _ _ (M1.up ys k) _ uq (by omega)).mono ?_;rintro e w4 ⟨⟨v4,ns,rfl,hput,own4⟩,hb4⟩;have hns:ns=M1.jlTo xs ys (k+1):=(M1.putR_ins hput).trans HK.out.symm;subst hns;obtain ⟨a4,c4',rfl,mu4⟩:=MU.of_owns own4;have hB4:=hB.trans (hb4.mono hB.size);clear hput own4 uq;go_wp2_with fail
      exact ⟨⟨k+1,a4,c4',by omega,by go_num,rfl,mu4.widen (by omega) (Nat.le_refl _),hB4⟩,by simp [intOf];omega⟩
     ·have hkm:Hid (M1.jlTo xs ys k=M1.jl xs ys):=(by unfold M1.jl;rw [show k=ys.length from by have:=hl2.out;omega]:M1.jlTo xs ys k=M1.jl xs ys)
      have uq:=mu.upds rfl (jl_txt HAG.out (by rw [hl2.out];exact hk));rw [hkm.out] at mu uq ⊢;go_wp2_with fail
      refine (setOk_spec _ _ _ _ _ uq).mono ?_;obtain ⟨okb,hok⟩:∃ q,Hid (M1.setOk (M1.jl xs ys)=q):=⟨_,rfl⟩
      rw [hok.out];rintro e w4 ⟨rfl,hb4⟩;have hB4:=hB.trans (hb4.mono hB.size);have mu4:=mu.below hb4;have hs4:=hb4.size
      cases okb with
      | true =>
       have q:=M1.j_yes HAG.out hok.out;have Q1:Hid (M1.jOk xs ys=true):=q.1;have Q2:Hid (M1.jL xs ys=M1.jl xs ys):=q.2;clear q;go_wp2_with fail
       refine bodyPost_ret (v:=.tuple #[.slice a (M1.jl xs ys).length c,.bool true]) (by simp [results,Tryz.results60,go_sem]) rfl ⟨?_,hB4⟩;rw [Q1.out,Q2.out];exact ⟨a,c,rfl,mu4.widen (Nat.le_refl _) hs4⟩
      | false =>
       have q:=M1.j_not hok.out;have Q1:Hid (M1.jOk xs ys=false):=q.1;have Q2:Hid (M1.jL xs ys=[]):=q.2;clear q;go_wp2_with fail
       refine bodyPost_ret (v:=.tuple #[.slice none 0 0,.bool false]) (by simp [results,Tryz.results60,go_sem]) rfl ⟨?_,hB4⟩;rw [Q1.out,Q2.out];exact jd_nil _ _
 ·replace hag:M1.agreeB xs ys=false:=by simpa using hag
  have q:=M1.j_no hag;rw [q.1,q.2];clear q;go_enter Tryz.func60,Tryz.ntmps60
  go_wp2_with fail
  refine (agree_spec _ _ _ _ _ _ _ _ _ h1 h2).mono ?_;rw [hag];rintro e w1 ⟨rfl,hb1⟩;go_wp2_with fail
  refine bodyPost_ret (v:=.tuple #[.slice none 0 0,.bool false]) (by simp [results,Tryz.results60,go_sem]) rfl ⟨jd_nil _ _,hb1⟩
end Go.Proofs.YtgcinolbkllkkaaGreat
