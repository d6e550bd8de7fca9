/-
  Texts of one proof, joined: SinceS, Math33b, Iter, Level.
-/
import Derived.Test.YtgcinolbkllkkaaGreatZFConverged14
import Derived.RangeFuncNested
import Derived.RangeFuncBound
import Derived.RangeFuncCalls
import Derived.RangeFuncLeaves
import Derived.Shelf.Abstract
import Derived.Shelf.RegionOpen
import Derived.OwnWalkIn
import Derived.TacticsInMore
import Derived.LoopNIn
import Derived.LoopIn
set_option linter.unusedSimpArgs false
set_option linter.unusedVariables false
namespace Go.Proofs.YtgcinolbkllkkaaGreat
open Go.ChangeShapes Go.WideShapes Go.ChangeAt Go.RowKit
set_option maxHeartbeats 32000000 in
set_option maxRecDepth 100000 in
theorem l3Since_any (av bv:Option Addr)(n cn m cm:Nat)(us:List M1.Upd)(ds:List (Int × Int))(most:Int)(w:World)(h1:IsUpds w av n cn us)(h2:IsVec w bv m cm ds)(hv:Hid (M1.vecOk ds=true))(hn:n≤1048576)(hm0:1≤most)(hm60:most≤60) :
  Calls Tryz.prog 154 #[.slice av n cn,.slice bv m cm,.int .i64 most] w fun e w'=>(∃ v,e=.returned v∧w'.ownsRow w.heap.size 72 13 v (M1.sinceTo us ds most n).length (ucL (M1.sinceTo us ds most n)))∧Below w.heap.size w w':=by
 have hm1:=h1.hcap;have hm2:=h1.hmost;unfold maxLen at hm2;obtain ⟨ti,hi1,hi2,hi3,hi4⟩:=infoUpd;have hi4':Hid (ti.bytes=112):=hi4;have hi2':Hid (ti.zero=some (.agg #[.int .i64 0,.int .i64 0,.int .i64 0,.int .i64 0,.int .i64 0,.int .i64 0,.int .i64 0,.int .i64 0,.int .i64 0,.string ByteArray.empty,.int .i64 0,.int .i64 0,.int .i64 0])):=hi2;have hi3':Hid (ti.size=13):=hi3;have hi1':Hid (Tryz.prog.info? 72=some ti):=hi1;clear hi1 hi2 hi3 hi4;go_enter Tryz.func154,Tryz.ntmps154
 go_wp2_with fail
 have hA:Below w.heap.size w (w.alloc (.cells #[] 72)):=(Below.refl _ _).alloc (Nat.le_refl _) _;have own0:=ownsU_empty w 72;go_loopw [7,8] (fun v i wr=>∃ (k:Nat) (ns:List M1.Upd) (x:Option Addr) (c:Nat),k≤n∧i=.int .i64 k∧Hid (M1.sinceTo us ds most k=ns)∧ns.length≤k∧v=.slice x ns.length c∧wr.ownsRow w.heap.size 72 13 (.slice x ns.length c) ns.length (ucL ns)∧Below w.heap.size w wr) (fun _ i _=>n-(intOf i).toNat)
 case atStart=>exact ⟨0,[],_,_,Nat.zero_le _,rfl,(rfl:M1.sinceTo us ds most 0=[]),Nat.le_refl _,rfl,own0,hA⟩
 case round =>
  clear own0 hA;obtain ⟨k,ns,xv,xc,hk,rfl,hns,hnl,rfl,hown,hB⟩:=hrel;by_cases hlt:k<n
  ·by_cases hfull:(ns.length:Int)<most
   ·have g1:=h1.below hB
    have g2:=h2.below hB;rcases g1.hlies with h0 | ⟨b,off,rfl,hb,hc⟩
    ·omega
    obtain ⟨c0,c1,c2,c3,c4,c5,c6,c7,c8,c9,c10,c11,c12⟩:=hc k hlt;have i0:(0:Int)≤(k:Int):=by omega
    have i1:(k:Int)<(n:Int):=by omega
    have hsz:=hB.size;clear hc g1;by_cases hq:M1.lk ds (M1.up us k).dr<(M1.up us k).dn
    ·have HE:Hid (M1.sinceTo us ds most (k+1)=ns ++ [M1.up us k]):=(by rw [M1.since_yes (by rw [hns.out];exact ⟨hfull,hq⟩),hns.out]:M1.sinceTo us ds most (k+1)=ns ++ [M1.up us k])
     go_wp2_with fail
     refine wp_region_held_drew (S:=fun w'=>Kp wr w') (by kernel_rfl) ?_ (fun zH=>?_)
     ·exact kp_zero _
     refine uZ 0 ?_;simp only[pZ,zZ];refine uZ 1 ?_;simp only[pZ,zZ];refine uZ 2 ?_;simp only[pZ,zZ];refine uZ 3 ?_;simp only[pZ,zZ];refine uZ 4 ?_;simp only[pZ,zZ];refine uZ 5 ?_;simp only[pZ,zZ];refine uZ 6 ?_;simp only[pZ,zZ];refine uZ 7 ?_;simp only[pZ,zZ];refine uZ 8 ?_;simp only[pZ,zZ];refine uZ 9 ?_;simp only[pZ,zZ];refine uZ 10 ?_;simp only[pZ,zZ];refine uZ 11 ?_;simp only[pZ,zZ];refine uZ 12 ?_;simp only[pZ,zZ];refine sZ 13 fun K hK=>?_;go_simp
     (refine (l1Of_any _ _ _ _ _ _ (g2.below zH.1) hv.out).mono ?_;rintro e w' ⟨rfl,hbw⟩;subst hbw;go_wp2_with fail)
     refine hK.out _ _ ?_ (fun zH2=>?_)
     ·exact zH
     clear hK K zH;have zH:=zH2;clear zH2;(try simp only[pZ,zZ]);refine uZ 14 ?_;simp only[pZ,zZ];refine dZ ?_;have hK1:=zH;clear zH;generalize wr.drew=W1 at hK1 ⊢;have hB1:=hB.trans (hK1.1.mono hB.size);have hown1:=owns_below hown hK1.1;have hK2:=hK1.2;have hsz1:=hB1.size;clear hK1;go_wp2_with (at_builtin;refine wpList_append_lies _ rfl _ _ _ rfl w.heap.size 72 ti _ 13 112 Tryz.underlying32 hi1'.out hi2'.out hi3'.out hi4'.out rfl (by omega) (.slice xv ns.length xc) ns.length (ucL ns) rfl (owns_below hown1 ((Below.refl _ _).alloc (Nat.le_refl _) _)) ⟨W1.heap.size,0,none⟩ 1 1 [.int .i64 (M1.up us k).dr,.int .i64 (M1.up us k).dn,.int .i64 (M1.up us k).sw,.int .i64 (M1.up us k).sc,.int .i64 (M1.up us k).sr,.int .i64 (M1.up us k).k,.int .i64 (M1.up us k).tr,.int .i64 (M1.up us k).id,.int .i64 (M1.up us k).pa,.string (M1.up us k).s,.int .i64 (M1.up us k).st,.int .i64 (M1.up us k).en,.int .i64 (M1.up us k).lv] rfl rfl (news13 _ _ _ _ _ _ _ _ _ _ _ _ _ _ _) (one13 _) (by omega) (by unfold maxLen;omega) (by omega) (by simp;omega) _ rfl ?_;intro g4 cap4 w4 hown4 hgrow4 hat4 hlt4)
     have hB4:Below w.heap.size w w4:=(hB1.alloc hB1.size _).grown hgrow4 (by simp;omega) (owns_base hown1);have el:(ns ++ [M1.up us k]).length=ns.length+1:=by simp
     exact ⟨⟨k+1,ns ++ [M1.up us k],some ⟨g4,0,none⟩,cap4,by omega,by go_num,HE,by omega,by rw [el],(by have q:=ownsU_snoc (u:=M1.up us k) hown4;rw [el] at q ⊢;exact q),hB4⟩,by simp [intOf];omega⟩
    ·have HE:Hid (M1.sinceTo us ds most (k+1)=ns):=(by rw [M1.since_no (by intro q;exact hq q.2),hns.out]:M1.sinceTo us ds most (k+1)=ns)
     go_wp2_with fail
     refine wp_region_held_drew (S:=fun w'=>Kp wr w') (by kernel_rfl) ?_ (fun zH=>?_)
     ·exact kp_zero _
     refine uZ 0 ?_;simp only[pZ,zZ];refine uZ 1 ?_;simp only[pZ,zZ];refine uZ 2 ?_;simp only[pZ,zZ];refine uZ 3 ?_;simp only[pZ,zZ];refine uZ 4 ?_;simp only[pZ,zZ];refine uZ 5 ?_;simp only[pZ,zZ];refine uZ 6 ?_;simp only[pZ,zZ];refine uZ 7 ?_;simp only[pZ,zZ];refine uZ 8 ?_;simp only[pZ,zZ];refine uZ 9 ?_;simp only[pZ,zZ];refine uZ 10 ?_;simp only[pZ,zZ];refine uZ 11 ?_;simp only[pZ,zZ];refine uZ 12 ?_;simp only[pZ,zZ];refine sZ 13 fun K hK=>?_;go_simp
     (refine (l1Of_any _ _ _ _ _ _ (g2.below zH.1) hv.out).mono ?_;rintro e w' ⟨rfl,hbw⟩;subst hbw;go_wp2_with fail)
     refine hK.out _ _ ?_ (fun zH2=>?_)
     ·exact zH
     clear hK K zH;have zH:=zH2;clear zH2;(try simp only[pZ,zZ]);refine uZ 14 ?_;simp only[pZ,zZ];refine dZ ?_;have hK1:=zH;clear zH;generalize wr.drew=W1 at hK1 ⊢;have hB1:=hB.trans (hK1.1.mono hB.size);have hown1:=owns_below hown hK1.1;clear hK1;go_wp2_with fail
     exact ⟨⟨k+1,ns,xv,xc,by omega,by go_num,HE,by omega,rfl,hown1,hB1⟩,by simp [intOf];omega⟩
   ·have HE:Hid (M1.sinceTo us ds most n=ns):=(by rw [M1.since_end (k:=k) (by rw [hns.out];omega) (by omega),hns.out]:M1.sinceTo us ds most n=ns)
    go_wp2_with fail
    go_ret
    exact ⟨⟨_,rfl,by rw [HE.out];exact hown⟩,hB⟩
  ·have HE:Hid (M1.sinceTo us ds most n=ns):=(by have e:k=n:=(by omega);rw [←e];exact hns.out:M1.sinceTo us ds most n=ns)
   go_wp2_with fail
   go_ret
   exact ⟨⟨_,rfl,by rw [HE.out];exact hown⟩,hB⟩
end Go.Proofs.YtgcinolbkllkkaaGreat
namespace M1
theorem tO_one {us:List Upd}{u:Upd}(h:setOk us=true)(hu:okU u=true):tO us [u]=if u.dn=fm (l3v us) u.dr+1 then insD us u else us:=by
 obtain ⟨d1,d5,_,_⟩:=okU_dot hu;have hs:=ok_sorted (setOk_all h);have hl:=(LInv.start (setOk_all h)).fm hs d1 d5;show tkO us [u] 1=_
 have e0:up [u] 0=u:=rfl;rw [tkO,e0,hl]
 rfl
theorem one_pre {us:List Upd}{u:Upd}(h:setOk us=true)(hu:okU u=true):tpre us [u]=true:=by
 unfold tpre;rw [h,allR_yes (ys:=[u]) fun j hj=>by
  have:j=0:=by simp at hj;omega
  subst this;exact hu]
 rfl
def ofT (kd tr:Int)(us:List Upd):Nat→List Upd
 | 0=>[]
 | k+1=>if (up us k).k=kd∧(up us k).tr=tr then ofT kd tr us k ++ [up us k] else ofT kd tr us k
theorem ofT_len (kd tr:Int)(us:List Upd):∀ k,(ofT kd tr us k).length≤k
 | 0=>Nat.le_refl _
 | k+1=>by
  have:=ofT_len kd tr us k;unfold ofT
  split
  ·simp;omega
  ·omega
theorem ofT_yes {kd tr:Int}{us:List Upd}{k:Nat}(h:(up us k).k=kd∧(up us k).tr=tr):ofT kd tr us (k+1)=ofT kd tr us k ++ [up us k]:=by
 show (if (up us k).k=kd∧(up us k).tr=tr then _ else _)=_
 rw [if_pos h]
theorem ofT_no {kd tr:Int}{us:List Upd}{k:Nat}(h:¬((up us k).k=kd∧(up us k).tr=tr)):ofT kd tr us (k+1)=ofT kd tr us k:=by
 show (if (up us k).k=kd∧(up us k).tr=tr then _ else _)=_
 rw [if_neg h]
end M1
namespace Go.Proofs.YtgcinolbkllkkaaGreat
open Go.ChangeShapes Go.WideShapes Go.ChangeAt Go.RowKit Go.Shelf
attribute [local go_sem] Oper.semAt_some
def KpI (n₀ B:Nat)(W W':World):Prop:=Below n₀ W W'∧∀ b o,B≤b→b<B+3→W'.cell? ⟨b,o,none⟩=W.cell? ⟨b,o,none⟩
theorem kpI_refl (n₀ B:Nat)(W:World):KpI n₀ B W W:=⟨Below.refl _ _,fun _ _ _ _=>rfl⟩
theorem kpI_t {n₀ B:Nat}{X Y Z:World}(h:KpI n₀ B X Y)(k:KpI n₀ B Y Z):KpI n₀ B X Z:=⟨h.1.trans k.1,fun b o h1 h2=>(k.2 b o h1 h2).trans (h.2 b o h1 h2)⟩
theorem kpI_alloc {n₀ B:Nat}{W:World}(h1:n₀≤W.heap.size)(h2:B+3≤W.heap.size)(o:Obj):KpI n₀ B W (W.alloc o) :=
 ⟨(Below.refl _ _).alloc h1 o,fun b x _ hb=>((Below.refl _ W).alloc (Nat.le_refl _) o).cell (p:=⟨b,x,none⟩) (by show b<W.heap.size;omega)⟩
theorem kpI_put {n₀ B:Nat}{w:World}(hn:n₀≤w.heap.size)(hB:B+3≤w.heap.size)(W:World)(l:Nat)(o o':Obj)(hl:w.heap.size≤l)(h:W.heap[l]?=some o)(h1:o.isCells=false)(h2:o.isWalk=false):KpI n₀ B W (W.putObj l o') :=
 ⟨belowK_b hn W l o o' hl h h1 h2,fun b x _ hb=>(belowK_b (Nat.le_refl w.heap.size) W l o o' hl h h1 h2).cell (p:=⟨b,x,none⟩) (by show b<w.heap.size;omega)⟩
set_option maxHeartbeats 4000000 in
theorem ofTrace_in (F:Fence)(n:Nat)(hF:F.fn 42)(hro:F.round=none)(a:Option Addr)(len cap:Nat)(kd tr:Int)(w:World) :
  CallsIn F n Tryz.prog 42 #[.slice a len cap,.int .i64 kd,.int .i64 tr] w fun e w'=>e=.returned (.func (.func 73) #[] #[.pointer (some ⟨w.heap.size,0,none⟩),.pointer (some ⟨w.heap.size+1,0,none⟩),.pointer (some ⟨w.heap.size+1+1,0,none⟩)])∧w'=((w.alloc (.cells #[.slice a len cap] 32)).alloc (.cells #[.int .i64 kd] 2)).alloc (.cells #[.int .i64 tr] 2):=by
 refine callsIn_of_wp Tryz.func42 rfl hF ?_ hro;simp only [Tryz.ntmps42,List.size_toArray,List.length_cons,List.length_nil,Nat.reduceAdd,Nat.reduceSub,Array.replicate_succ,Array.replicate_zero,List.push_toArray,List.append_toArray,List.nil_append,List.cons_append]
 gi_wp2
 go_ret
 exact ⟨rfl,rfl⟩
set_option maxRecDepth 100000 in
set_option maxHeartbeats 16000000 in
theorem ofTrace1_in (F:Fence)(n:Nat)(hF:F.fn 73)(hro:F.round=none)(hn:1≤n)(l B n₀:Nat)(av:Option Addr)(len cap:Nat)(kd tr:Int)(us:List M1.Upd)(W0:World)(hn0:n₀=W0.heap.size)(h1:IsUpds W0 av len cap us)(J Jx:List M1.Upd→World→Prop)(bJ:Nat)(hAJ:AbidesFrom bJ J)
  (hY:∀ pre x W,J pre W→pre.length<len→YieldAt F (n-1) Tryz.prog l #[.agg #[.int .i64 x.dr,.int .i64 x.dn,.int .i64 x.sw,.int .i64 x.sc,.int .i64 x.sr,.int .i64 x.k,.int .i64 x.tr,.int .i64 x.id,.int .i64 x.pa,.string x.s,.int .i64 x.st,.int .i64 x.en,.int .i64 x.lv]] W fun e W' =>
   (e=.returned (.bool true)∧J (pre ++ [x]) W'∧KpI n₀ B W W')∨(e=.returned (.bool false)∧Jx (pre ++ [x]) W'))
  (W:World) (hB0:Below n₀ W0 W) (hBs:B+3≤W.heap.size) (b0:W.cell? ⟨B,0,none⟩=some (.slice av len cap)) (b1:W.cell? ⟨B+1,0,none⟩=some (.int .i64 kd)) (b2:W.cell? ⟨B+1+1,0,none⟩=some (.int .i64 tr)) (h0:J [] W) :
  CallsIn F n Tryz.prog 73 #[.func (.yield l) #[] #[],.pointer (some ⟨B,0,none⟩),.pointer (some ⟨B+1,0,none⟩),.pointer (some ⟨B+1+1,0,none⟩)] W fun e W'=>(∃ v,e=.returned v) ∧
   ((∃ ys,ys=M1.ofT kd tr us len∧J ys W')∨(∃ pre,(∃ k,k≤len∧pre=M1.ofT kd tr us k)∧Jx pre W')):=by
 have hm1:=h1.hcap;have hm2:=h1.hmost;unfold maxLen at hm2;subst hn0;refine callsIn_of_wp Tryz.func73 rfl hF ?_ hro;simp only [Tryz.ntmps73,List.size_toArray,List.length_cons,List.length_nil,Nat.reduceAdd,Nat.reduceSub,Array.replicate_succ,Array.replicate_zero,List.push_toArray,List.append_toArray,List.nil_append,List.cons_append]
 gi_wp2
 gi_loopw [9] (fun i wr=>∃ k:Nat,k≤len∧i=.int .i64 k∧J (M1.ofT kd tr us k) wr∧KpI W0.heap.size B W wr)
  (fun i _=>len-(intOf i).toNat)
 case atStart=>exact ⟨0,Nat.zero_le _,rfl,h0,kpI_refl _ _ _⟩
 case round =>
  obtain ⟨k,hk,rfl,hJs,hnx⟩:=hrel;by_cases hlt:k<len
  ·have hB:=hB0.trans hnx.1
   rcases (h1.below hB).hlies with h0 | ⟨b,off,rfl,hb,hc⟩
   ·omega
   obtain ⟨c0,c1,c2,c3,c4,c5,c6,c7,c8,c9,c10,c11,c12⟩:=hc k hlt;clear hc;have hz:B+3≤wr.heap.size:=by have:=hnx.1.size;omega
   have x1:=(hnx.2 (B+1) 0 (by omega) (by omega)).trans b1;have x2:=(hnx.2 (B+1+1) 0 (by omega) (by omega)).trans b2;have i0:(0:Int)≤(k:Int):=by omega
   have i1:(k:Int)<(len:Int):=by omega
   have n1:¬B+1=wr.heap.size:=by omega
   have n2:¬B+1+1=wr.heap.size:=by omega
   have hJa:J (M1.ofT kd tr us k) (wr.alloc (.cells #[.int .i64 (M1.up us k).dr,.int .i64 (M1.up us k).dn,.int .i64 (M1.up us k).sw,.int .i64 (M1.up us k).sc,.int .i64 (M1.up us k).sr,.int .i64 (M1.up us k).k,.int .i64 (M1.up us k).tr,.int .i64 (M1.up us k).id,.int .i64 (M1.up us k).pa,.string (M1.up us k).s,.int .i64 (M1.up us k).st,.int .i64 (M1.up us k).en,.int .i64 (M1.up us k).lv] 72)):=hAJ _ _ _ none hJs (World.grownBy_alloc wr _ none) (fun r e=>by cases e);have hka:KpI W0.heap.size B wr (wr.alloc (.cells #[.int .i64 (M1.up us k).dr,.int .i64 (M1.up us k).dn,.int .i64 (M1.up us k).sw,.int .i64 (M1.up us k).sc,.int .i64 (M1.up us k).sr,.int .i64 (M1.up us k).k,.int .i64 (M1.up us k).tr,.int .i64 (M1.up us k).id,.int .i64 (M1.up us k).pa,.string (M1.up us k).s,.int .i64 (M1.up us k).st,.int .i64 (M1.up us k).en,.int .i64 (M1.up us k).lv] 72)):=kpI_alloc hB.size hz _;have y1:=(hka.2 (B+1) 0 (by omega) (by omega)).trans x1;have y2:=(hka.2 (B+1+1) 0 (by omega) (by omega)).trans x2;by_cases hq:(M1.up us k).k=kd∧(M1.up us k).tr=tr
   ·have q1:((M1.up us k).k==kd)=true:=by simp [hq.1]
    have q2:((M1.up us k).tr==tr)=true:=by simp [hq.2]
    have HT:=M1.ofT_yes hq;clear hq;obtain ⟨fn,tmps,assign,body,hy,hR⟩:=hY _ (M1.up us k) _ hJa (by have:=M1.ofT_len kd tr us k;omega)
    gi_wp2
    refine hR.mono ?_;rintro e W3 (⟨rfl,hJ3,hk3⟩ | ⟨rfl,hJx3⟩)
    ·gi_wp2
     go_roundw
     case rel=>exact ⟨k+1,by omega,by simp,by rw [HT];exact hJ3,kpI_t hnx (kpI_t hka hk3)⟩
     case measure=>simp [intOf];omega
    ·gi_wp2
     refine bodyPost_ret (results_none rfl _ _ _) rfl ?_;exact ⟨⟨_,rfl⟩,.inr ⟨_,⟨k+1,by omega,HT.symm⟩,hJx3⟩⟩
   ·have HT:=M1.ofT_no hq
    by_cases hq1:(M1.up us k).k=kd
    ·have q1:((M1.up us k).k==kd)=true:=by simp [hq1]
     have q2:((M1.up us k).tr==tr)=false:=by simp;exact fun e=>hq ⟨hq1,e⟩
     clear hq hq1
     gi_wp2
     refine ⟨fun _ h=>(by cases h),?_⟩
     gi_wp2
     go_roundw
     case rel=>exact ⟨k+1,by omega,by simp,by rw [HT];exact hJa,kpI_t hnx hka⟩
     case measure=>simp [intOf];omega
    ·have q1:((M1.up us k).k==kd)=false:=by simp [hq1]
     clear hq hq1
     gi_wp2
     refine ⟨fun _ h=>(by cases h),?_⟩
     gi_wp2
     go_roundw
     case rel=>exact ⟨k+1,by omega,by simp,by rw [HT];exact hJa,kpI_t hnx hka⟩
     case measure=>simp [intOf];omega
  ·obtain rfl:k=len:=by omega
   gi_wp2
   go_end0
   exact ⟨⟨_,rfl⟩,.inl ⟨_,rfl,hJs⟩⟩
end Go.Proofs.YtgcinolbkllkkaaGreat
namespace M1
def lvl (xs:List Upd):Int:=xs.foldl (fun m u=>max m u.lv) 0
theorem lvl_snoc (xs:List Upd)(u:Upd):lvl (xs ++ [u])=max (lvl xs) u.lv:=by simp [lvl]
def levelOf (us:List Upd)(tr:Int):Int:=if setOk us=true then lvl (ofT 3 tr us us.length) else -1
end M1
namespace Go.Proofs.YtgcinolbkllkkaaGreat
open Go.ChangeShapes Go.WideShapes Go.ChangeAt Go.RowKit Go.Shelf
attribute [local go_sem] Oper.semAt_some
def UBox (W:World)(B:Nat)(u:M1.Upd):Prop:=W.heap[B]?=some (.cells #[.int .i64 u.dr,.int .i64 u.dn,.int .i64 u.sw,.int .i64 u.sc,.int .i64 u.sr,.int .i64 u.k,.int .i64 u.tr,.int .i64 u.id,.int .i64 u.pa,.string u.s,.int .i64 u.st,.int .i64 u.en,.int .i64 u.lv] 72 (0,0))
theorem UBox.lt {W:World}{B:Nat}{u:M1.Upd}(h:UBox W B u):B<W.heap.size:=(Array.getElem?_eq_some_iff.1 h).1
theorem UBox.new (W:World)(u:M1.Upd):UBox (W.alloc (.cells #[.int .i64 u.dr,.int .i64 u.dn,.int .i64 u.sw,.int .i64 u.sc,.int .i64 u.sr,.int .i64 u.k,.int .i64 u.tr,.int .i64 u.id,.int .i64 u.pa,.string u.s,.int .i64 u.st,.int .i64 u.en,.int .i64 u.lv] 72)) W.heap.size u:=World.alloc_heap_new W _
theorem ubox_own {β:Type}(B:Nat)(f:β→M1.Upd):Own (fun s W=>UBox W B (f s)):=fun s X Y row hs hg hrow =>
 (hg.block B hs.lt (fun e'=>by obtain ⟨o,ho,hc⟩:=hrow B e'.symm;rw [show X.heap[B]?=_ from hs] at ho;cases ho;cases hc)).trans hs
theorem ofTrace_stops (F:Fence)(n:Nat)(hF:F.fn 73)(hro:F.round=none)(hn:1≤n)(B:Nat)(av:Option Addr)(len cap:Nat)(kd tr:Int)(us:List M1.Upd)(W0:World)(h1:IsUpds W0 av len cap us)(w:World)(hB0:Below W0.heap.size W0 w)(hBs:B+3≤w.heap.size)
  (b0:w.cell? ⟨B,0,none⟩=some (.slice av len cap)) (b1:w.cell? ⟨B+1,0,none⟩=some (.int .i64 kd)) (b2:w.cell? ⟨B+1+1,0,none⟩=some (.int .i64 tr)) :
  SeqStopsK F n Tryz.prog 73 #[.pointer (some ⟨B,0,none⟩),.pointer (some ⟨B+1,0,none⟩),.pointer (some ⟨B+1+1,0,none⟩)] (fun x:M1.Upd=>#[Value.agg #[.int .i64 x.dr,.int .i64 x.dn,.int .i64 x.sw,.int .i64 x.sc,.int .i64 x.sr,.int .i64 x.k,.int .i64 x.tr,.int .i64 x.id,.int .i64 x.pa,.string x.s,.int .i64 x.st,.int .i64 x.en,.int .i64 x.lv]]) (KpI W0.heap.size B) (fun ys=>ys=M1.ofT kd tr us len) (fun pre=>∃ k,k≤len∧pre=M1.ofT kd tr us k) len w:=fun l J Jx W hW hAJ _ hY h0 =>
 ofTrace1_in F n hF hro hn l B W0.heap.size av len cap kd tr us W0 rfl h1 J Jx W.heap.size hAJ hY W (hB0.trans (hW.mono hB0.size)) (by have:=hW.size;omega)
  ((hW.cell (p:=⟨B,0,none⟩) (by show B<w.heap.size;omega)).trans b0) ((hW.cell (p:=⟨B+1,0,none⟩) (by show B+1<w.heap.size;omega)).trans b1) ((hW.cell (p:=⟨B+1+1,0,none⟩) (by show B+1+1<w.heap.size;omega)).trans b2) h0
set_option maxRecDepth 100000 in
set_option maxHeartbeats 16000000 in
theorem levelOf_impl (av:Option Addr)(n cn:Nat)(us:List M1.Upd)(tr:Int)(w:World)(h1:IsUpds w av n cn us) :
  Calls Tryz.prog 14 #[.slice av n cn,.int .i64 tr] w fun e w'=>e=.returned (.int .i64 (M1.levelOf us tr))∧Below w.heap.size w w':=by
 have hl1:Hid (us.length=n):=h1.hlen;refine (callsIn_wide (n:=6)).1 ?_;by_cases hs:M1.setOk us=true
 ·have HQ:Hid (M1.levelOf us tr=M1.lvl (M1.ofT 3 tr us n)):=(by unfold M1.levelOf;rw [if_pos hs,hl1.out]:M1.levelOf us tr=M1.lvl (M1.ofT 3 tr us n))
  refine callsIn_of_wp_marks Tryz.func14 rfl trivial ?_ rfl;simp only [Tryz.ntmps14,List.size_toArray,List.length_cons,List.length_nil,Nat.reduceAdd,Nat.reduceSub,Array.replicate_succ,Array.replicate_zero,List.push_toArray,List.append_toArray,List.nil_append,List.cons_append]
  gi_wp2_with fail
  refine ⟨trivial,?_⟩;refine (callsIn_wide.2 (setOk_impl _ _ _ _ _ h1)).mono ?_;rw [hs];rintro e w1 ⟨rfl,hb1⟩
  gi_wp2_with fail
  refine ⟨trivial,?_⟩;refine (ofTrace_in Fence.wide 5 trivial rfl _ _ _ _ _ _).mono ?_;rintro e w2 ⟨rfl,rfl⟩;simp only [World.size_alloc];have bL:=(((Boxed.new w1 2 (.int .i64 0)).alloc (.cells #[.slice av n cn] 32)).alloc (.cells #[.int .i64 3] 2)).alloc (.cells #[.int .i64 tr] 2);have b0:=((Boxed.new (w1.alloc (.cells #[.int .i64 0] 2)) 32 (.slice av n cn)).alloc (.cells #[.int .i64 3] 2)).alloc (.cells #[.int .i64 tr] 2);have b1:=(Boxed.new ((w1.alloc (.cells #[.int .i64 0] 2)).alloc (.cells #[.slice av n cn] 32)) 2 (.int .i64 3)).alloc (.cells #[.int .i64 tr] 2);have b2:=Boxed.new (((w1.alloc (.cells #[.int .i64 0] 2)).alloc (.cells #[.slice av n cn] 32)).alloc (.cells #[.int .i64 3] 2)) 2 (.int .i64 tr);simp only [World.size_alloc] at b0 b1 b2;have hs1:=hb1.size;have hB0:Below w.heap.size w ((((w1.alloc (.cells #[.int .i64 0] 2)).alloc (.cells #[.slice av n cn] 32)).alloc (.cells #[.int .i64 3] 2)).alloc (.cells #[.int .i64 tr] 2)):=(((hb1.alloc hb1.size _).alloc (by simp;omega) _).alloc (by simp;omega) _).alloc (by simp;omega) _;have hsz:((((w1.alloc (.cells #[.int .i64 0] 2)).alloc (.cells #[.slice av n cn] 32)).alloc (.cells #[.int .i64 3] 2)).alloc (.cells #[.int .i64 tr] 2)).heap.size=w1.heap.size+4:=by simp
  obtain ⟨W0,hW0⟩:∃ W0,(((w1.alloc (.cells #[.int .i64 0] 2)).alloc (.cells #[.slice av n cn] 32)).alloc (.cells #[.int .i64 3] 2)).alloc (.cells #[.int .i64 tr] 2)=W0:=⟨_,rfl⟩
  rw [hW0] at bL b0 b1 b2 hB0 hsz ⊢;clear hW0
  gi_wp2_with fail
  refine wpIn_rangeFunc_ownH rfl (by omega) (gf:=73) (lb:=#[.pointer (some ⟨w1.heap.size+1,0,none⟩),.pointer (some ⟨w1.heap.size+1+1,0,none⟩),.pointer (some ⟨w1.heap.size+1+1+1,0,none⟩)]) rfl trivial (enters_of Tryz.func73 (by kernel_rfl) rfl)
   (ofTrace_stops Fence.wide _ trivial rfl (by omega) (w1.heap.size+1) av n cn 3 tr us w h1 W0 hB0 (by omega) b0.cell b1.cell b2.cell) kpI_t (kpI_put (by omega) (by omega)) (Below.refl _ _) (fun _=>rfl)
   (fun pre W=>(Boxed W w1.heap.size 2 (.int .i64 (M1.lvl pre))∧Below w.heap.size w W)∧W0.heap.size≤W.heap.size)
   (fun _ _ _=>False)
   (OwnFrom.and (OwnFrom.and (Own.from (boxed_own _ _ _) _) (ownFrom_below (Nat.le_refl _) (by omega))) (fun _ _ _ _ hs hg _=>Nat.le_trans hs hg.size))
   (fun _ _ _ _ _ hs _ _=>hs)
   ⟨⟨bL,hB0⟩,Nat.le_refl _⟩
   (fun x a' W=>∃ Bx,w1.heap.size+3<Bx∧UBox W Bx x∧a'={ tmps:=#[.slice av n cn,.int .i64 tr,undef,undef,.int .i64 0,.pointer (some ⟨w1.heap.size,0,none⟩),.pointer (some ⟨Bx,0,none⟩),.slice av n cn,.bool true,.bool false,.slice av n cn,.int .i64 tr,.func (.func 73) #[] #[.pointer (some ⟨w1.heap.size+1,0,none⟩),.pointer (some ⟨w1.heap.size+1+1,0,none⟩),.pointer (some ⟨w1.heap.size+1+1+1,0,none⟩)],.agg #[.int .i64 x.dr,.int .i64 x.dn,.int .i64 x.sw,.int .i64 x.sc,.int .i64 x.sr,.int .i64 x.k,.int .i64 x.tr,.int .i64 x.id,.int .i64 x.pa,.string x.s,.int .i64 x.st,.int .i64 x.en,.int .i64 x.lv],undef,undef,undef,undef,undef],defers:=[] })
   (fun x a' _ X Y row hs hg hr=>by obtain ⟨Bx,h1,h2,h3⟩:=hs;exact ⟨Bx,h1,ubox_own Bx (fun (_:Unit)=>x) () X Y row h2 hg (fun r e=>(hr r e).2),h3⟩)
   ?assign ?body ?done ?stop
  case assign =>
   rintro l pre x W K ⟨⟨bL1,hB1⟩,hz1⟩ hK
   gi_wp2
   exact hK _ _ ((KeepsOthers.alloc _ _).from _) (kpI_alloc hB1.size (by omega) _) ⟨⟨bL1.alloc _,hB1.alloc hB1.size _⟩,by simp;omega⟩ ⟨W.heap.size,by omega,UBox.new W x,rfl⟩
  case body =>
   rintro l pre x a' W hl ⟨r,hr⟩ ⟨⟨bL1,hB1⟩,hz1⟩ ⟨Bx,hBx,bX,rfl⟩ hlt;have cL:=bL1.cell;have fL:=bL1.frozen;have cX:W.cell? ⟨Bx,12,none⟩=some (.int .i64 x.lv):=by simp [World.cell?,show W.heap[Bx]?=_ from bX]
   gi_wp2
   all_goals
    (exact ⟨(KeepsOthers.setCell _ _ _).from _,⟨(Below.refl _ W).setCell (p:=⟨w1.heap.size,0,none⟩) hs1 _,fun b o h1 h2=>World.cell?_setCell_other _ _ _ _ (by intro e;injection e with e1;omega)⟩,⟨by rw [M1.lvl_snoc];first | exact bL1.set _ | (rw [(by omega:max (M1.lvl pre) x.lv=x.lv)];exact bL1.set (.int .i64 x.lv)) | (rw [(by omega:max (M1.lvl pre) x.lv=M1.lvl pre)];exact bL1.set (.int .i64 (M1.lvl pre))),hB1.setCell (p:=⟨w1.heap.size,0,none⟩) hs1 _⟩,by simp [World.setCell];omega⟩)
  case done =>
   rintro D zs W hD rfl ⟨⟨bL1,hB1⟩,hz1⟩ hK;have cL:=bL1.cell
   gi_wp2
   refine ⟨by simp,.inl ⟨_,_,rfl,run_takeDeferred hK,?_⟩⟩;exact ⟨_,results_tmp rfl _ _ _,by rw [HQ.out];rfl,hB1.trans (belowK_b (w:=w) (Nat.le_refl _) W D _ _ (by omega) hK rfl rfl)⟩
  case stop =>
   rintro D c pre W _ _ h _;exact h.elim
 ·replace hs:M1.setOk us=false:=by simpa using hs
  have HQ:Hid (M1.levelOf us tr=-1):=(by unfold M1.levelOf;rw [hs];rfl:M1.levelOf us tr=-1)
  refine callsIn_of_wp_marks Tryz.func14 rfl trivial ?_ rfl;simp only [Tryz.ntmps14,List.size_toArray,List.length_cons,List.length_nil,Nat.reduceAdd,Nat.reduceSub,Array.replicate_succ,Array.replicate_zero,List.push_toArray,List.append_toArray,List.nil_append,List.cons_append]
  gi_wp2_with fail
  refine ⟨trivial,?_⟩;refine (callsIn_wide.2 (setOk_impl _ _ _ _ _ h1)).mono ?_;rw [hs];rintro e w1 ⟨rfl,hb1⟩
  gi_wp2_with fail
  exact ⟨_,results_tmp rfl _ _ _,by rw [HQ.out];rfl,hb1⟩
end Go.Proofs.YtgcinolbkllkkaaGreat
