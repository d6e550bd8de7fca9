/-
  Texts of one proof, joined: Wk3, SameS, KeptI.
-/
import Derived.Test.YtgcinolbkllkkaaGreatZFConverged49
set_option linter.unusedSimpArgs false
set_option linter.unusedVariables false
namespace Go.Proofs.YtgcinolbkllkkaaGreat
open Go.ChangeShapes Go.WideShapes Go.ChangeAt Go.RowKit
def twoB (a b:Int)(n:Int):Bool:=M1.inB a 1 n && (M1.inB b 1 n && !(a==b))
set_option maxHeartbeats 8000000 in
theorem twoOf_any (a b n:Int)(w:World) :
  Calls Tryz.prog 25 #[.int .i64 a,.int .i64 b,.int .i64 n] w fun e w'=>e=.returned (.bool (twoB a b n))∧w'=w:=by
 obtain ⟨q,hq⟩:∃ q,Hid (M1.inB a 1 n=q):=⟨_,rfl⟩
 obtain ⟨z,hz⟩:∃ z,Hid (M1.inB b 1 n=z):=⟨_,rfl⟩
 go_enter Tryz.func25,Tryz.ntmps25
 go_wp2_with fail
 refine (inRange_any _ _ _ _).mono ?_;rw [hq.out];rintro e w1 ⟨rfl,hw1⟩;obtain rfl:=hw1.symm
 cases q with
 | false =>
  have HF:Hid (twoB a b n=false):=(by unfold twoB;rw [hq.out];rfl:_=_)
  go_wp2_with fail
  go_ret
  exact ⟨by rw [HF.out];rfl,rfl⟩
 | true =>
  go_wp2_with fail
  refine (inRange_any _ _ _ _).mono ?_;rw [hz.out];rintro e w1 ⟨rfl,hw1⟩;obtain rfl:=hw1.symm
  cases z with
  | false =>
   have HF:Hid (twoB a b n=false):=(by unfold twoB;rw [hq.out,hz.out];rfl:_=_)
   go_wp2_with fail
   go_ret
   exact ⟨by rw [HF.out];rfl,rfl⟩
  | true =>
   by_cases hab:a=b
   ·have HF:Hid (twoB a b n=false):=(by unfold twoB;rw [hq.out,hz.out,hab];simp:_=_)
    go_wp2_with fail
    go_ret
    exact ⟨by rw [HF.out];rfl,rfl⟩
   ·have HF:Hid (twoB a b n=true):=(by unfold twoB;rw [hq.out,hz.out];simp [hab]:_=_)
    have hne:(a != b)=true:=by simp [hab]
    go_wp2_with fail
    go_ret
    exact ⟨by rw [HF.out];simp [hab],rfl⟩
def contB (all:List M1.Upd)(m:M1.Ml):Bool:=if m.ask=true then M1.vecOk m.vec && decide (m.del.length=0) else decide (m.vec.length=0) && (decide (1≤m.del.length∧m.del.length≤3) && M1.allIn m.del all)
theorem inU_fd {all:List M1.Upd}{u x:M1.Upd}(h:M1.fd all u.dr u.dn=some x)(he:M1.ueq x u=true):M1.inU all u=true:=by
 obtain ⟨i,hi,e,_⟩:=M1.fd_some h;exact M1.inU_yes hi (by rw [e];exact he)
theorem inU_not {all:List M1.Upd}{u x:M1.Upd}(ha:M1.apart all)(h:M1.fd all u.dr u.dn=some x)(he:M1.ueq x u=false):M1.inU all u=false:=by
 obtain ⟨i,hi,e,e1,e2⟩:=M1.fd_some h;refine M1.inU_no fun j hj=>?_;by_cases hij:j=i
 ·rw [hij,e];exact he
 ·cases q:M1.ueq (M1.up all j) u with
  | false=>rfl
  | true =>
   exfalso
   unfold M1.ueq at q;simp at q
   rcases Nat.lt_or_gt_of_ne hij with hlt | hgt
   ·exact ha j i hlt hi ⟨by rw [q.1,e,e1],by rw [q.2.1,e,e2]⟩
   ·exact ha i j hgt hj ⟨by rw [q.1,e,e1],by rw [q.2.1,e,e2]⟩
theorem inU_none {all:List M1.Upd}{u:M1.Upd}(h:M1.fd all u.dr u.dn=none):M1.inU all u=false :=
 M1.inU_no fun j hj=>by
  cases q:M1.ueq (M1.up all j) u with
  | false=>rfl
  | true =>
   exfalso
   unfold M1.ueq at q;simp at q
   exact M1.fd_none h j hj ⟨q.1,q.2.1⟩
attribute [local go_sem high] eqU
set_option maxHeartbeats 32000000 in
set_option maxRecDepth 100000 in
theorem contentOk_any (m:M1.Ml)(v:Option Addr)(n c:Nat)(v2:Option Addr)(n2 c2:Nat)(g:Nat)(all:List M1.Upd)(w:World)(hv:IsVec w v n c m.vec)(hu:IsUpds w v2 n2 c2 m.del)(hg:MapIs w g all)(hap:Hid (M1.apart all)) :
  Calls Tryz.prog 26 #[.agg #[.int .i64 m.fr,.int .i64 m.tt,.bool m.ask,.slice v n c,.slice v2 n2 c2],.map (some g)] w fun e w'=>e=.returned (.bool (contB all m))∧Below w.heap.size w w':=by
 have hm1:=hv.hcap;have hm2:=hv.hmost;have hm3:=hu.hcap;have hm4:=hu.hmost;unfold maxLen at hm2 hm4;have hl1:Hid (m.vec.length=n):=hv.hlen;have hl2:Hid (m.del.length=n2):=hu.hlen;have hA:Below w.heap.size w (w.alloc (.cells #[.int .i64 m.fr,.int .i64 m.tt,.bool m.ask,.slice v n c,.slice v2 n2 c2] 62)):=(Below.refl _ _).alloc (Nat.le_refl _) _;have P:=r5_new w (.int .i64 m.fr) (.int .i64 m.tt) (.bool m.ask) (.slice v n c) (.slice v2 n2 c2) 62;go_enter Tryz.func26,Tryz.ntmps26
 go_upto_region 1 with fail
 obtain ⟨W0,hW0⟩:∃ W,w.alloc (.cells #[.int .i64 m.fr,.int .i64 m.tt,.bool m.ask,.slice v n c,.slice v2 n2 c2] 62)=W:=⟨_,rfl⟩
 rw [hW0] at hA P ⊢;clear hW0;obtain ⟨p,hp⟩:∃ p,Hid (w.heap.size=p):=⟨_,rfl⟩
 rw [hp.out] at P ⊢;have hv0:=hv.below hA;have hu0:=hu.below hA;have hg0:=hg.below hA hg.lt;obtain ⟨d0,d1,d2,d3,d4⟩:=r5_cells P;have pl:=P.lt;obtain ⟨ask,hask⟩:∃ ask,Hid (m.ask=ask):=⟨_,rfl⟩
 rw [hask.out] at d2
 cases ask with
 | true =>
  obtain ⟨q,hq⟩:∃ q,Hid (M1.vecOk m.vec=q):=⟨_,rfl⟩
  go_wp2_with fail
  refine (vecOk_impl _ _ _ _ _ hv0).mono ?_;rw [hq.out];rintro e w1 ⟨rfl,hb1⟩;have B1:=hA.trans (hb1.mono hA.size);have P1:=RowAt.below P hb1;clear d0 d1 d2 d3 d4 pl;obtain ⟨d0,d1,d2,d3,d4⟩:=r5_cells P1;have pl:=P1.lt
  cases q with
  | false =>
   have HF:Hid (contB all m=false):=(by unfold contB;rw [hask.out,hq.out];rfl:_=_)
   go_wp2_with fail
   go_ret
   exact ⟨by rw [HF.out];rfl,B1⟩
  | true =>
   by_cases hn2:n2=0
   ·have HF:Hid (contB all m=true):=(by unfold contB;rw [hask.out,hq.out,hl2.out,hn2];rfl:_=_)
    have hn3:(n2:Int)=0:=by omega
    go_wp2_with fail
    go_ret
    exact ⟨by rw [HF.out];rfl,B1⟩
   ·have HF:Hid (contB all m=false):=(by unfold contB;rw [hask.out,hq.out,hl2.out];simp [hn2]:_=_)
    have hn3:¬(n2:Int)=0:=by omega
    go_wp2_with fail
    go_ret
    exact ⟨by rw [HF.out];simp [hn2],B1⟩
 | false =>
  by_cases hn:n=0
  ·have hn1:(n:Int)=0:=by omega
   obtain ⟨q,hq⟩:∃ q,Hid (M1.inB (n2:Int) 1 3=q):=⟨_,rfl⟩
   go_wp2_with fail
   refine (inRange_any _ _ _ _).mono ?_;rw [hq.out];rintro e w1 ⟨rfl,hw1⟩;obtain rfl:=hw1.symm
   cases q with
   | false =>
    have HF:Hid (contB all m=false):=(by
     have h:=hq.out;simp [M1.inB] at h
     unfold contB;rw [hask.out,hl2.out];have:¬(1≤n2∧n2≤3):=by omega
     simp [this]:_=_)
    go_wp2_with fail
    go_ret
    exact ⟨by rw [HF.out];rfl,hA⟩
   | true =>
    have HC:Hid (contB all m=M1.allIn m.del all):=(by
     have h:=M1.inB_true hq.out;unfold contB;rw [hask.out,hl1.out,hl2.out];have:(1≤n2∧n2≤3):=by omega
     simp [this,hn]:_=_)
    go_wp2_with fail
    go_loopw [34] (fun i wr=>∃ k:Nat,k≤n2∧i=.int .i64 k∧Below W0.heap.size W0 wr∧Hid (∀ j,j<k→M1.inU all (M1.up m.del j)=true)) (fun i _=>n2-(intOf i).toNat)
    case atStart=>exact ⟨0,Nat.zero_le _,rfl,Below.refl _ _,fun j hj=>absurd hj (Nat.not_lt_zero _)⟩
    case round =>
     obtain ⟨k,hk,rfl,hB,hall⟩:=hrel;have B:=hA.trans (hB.mono hA.size);by_cases hlt:k<n2
     ·have g2:=hu0.below hB
      have gm:=hg0.below hB hg0.lt;rcases g2.hlies with h0 | ⟨b,off,rfl,hb,hc⟩
      ·omega
      obtain ⟨c0,c1,c2,c3,c4,c5,c6,c7,c8,c9,c10,c11,c12⟩:=hc k hlt;clear hc g2;have i0:(0:Int)≤(k:Int):=by omega
      have i1:(k:Int)<(n2:Int):=by omega
      obtain ⟨u,hu'⟩:∃ u,Hid (M1.up m.del k=u):=⟨_,rfl⟩
      rw [hu'.out] at c0 c1 c2 c3 c4 c5 c6 c7 c8 c9 c10 c11 c12;have HN:Hid (M1.inU all u=false→contB all m=false):=fun h=>by rw [HC.out];exact M1.allIn_no (i:=k) (by rw [hl2.out];exact hlt) (by rw [hu'.out];exact h)
      have HY:Hid (M1.inU all u=true→∀ j,j<k+1→M1.inU all (M1.up m.del j)=true):=fun h j hj=>by
       by_cases e:j=k
       ·rw [e,hu'.out];exact h
       ·exact hall.out j (by omega)
      cases hf:M1.fd all u.dr u.dn with
      | none =>
       have hf':Hid (M1.fd all u.dr u.dn=none):=hf;clear hf;have HF:Hid (contB all m=false):=HN.out (inU_none hf'.out);go_wp2_with (at_lookup;refine wpList_lookV rfl _ _ rfl g all u.dr u.dn rfl (gm.alloc _) rfl M1.zeroU false (by rw [hf'.out];rfl) (by rw [hf'.out];rfl) ?_)
       go_ret
       refine ⟨by rw [HF.out];rfl,?_⟩;exact (B.alloc B.size _).alloc (Nat.le_trans B.size (by simp)) _
      | some x =>
       have hf':Hid (M1.fd all u.dr u.dn=some x):=hf;clear hf;by_cases he:M1.ueq x u=true
       ·have HA:=HY.out (inU_fd hf'.out he)
        have HA':Hid (∀ j,j<k+1→M1.inU all (M1.up m.del j)=true):=HA;clear HA;go_wp2_with (at_lookup;refine wpList_lookV rfl _ _ rfl g all u.dr u.dn rfl (gm.alloc _) rfl x true (by rw [hf'.out];rfl) (by rw [hf'.out];rfl) ?_)
        refine ⟨⟨k+1,by omega,by go_num,?_,HA'⟩,by simp [intOf];omega⟩;exact (hB.alloc hB.size _).alloc (Nat.le_trans hB.size (by simp)) _
       ·replace he:M1.ueq x u=false:=by simpa using he
        have HF:Hid (contB all m=false):=HN.out (inU_not hap.out hf'.out he);go_wp2_with (at_lookup;refine wpList_lookV rfl _ _ rfl g all u.dr u.dn rfl (gm.alloc _) rfl x true (by rw [hf'.out];rfl) (by rw [hf'.out];rfl) ?_)
        go_ret
        refine ⟨by rw [HF.out];rfl,?_⟩;exact (B.alloc B.size _).alloc (Nat.le_trans B.size (by simp)) _
     ·have HT:Hid (contB all m=true):=(by rw [HC.out];exact M1.allIn_yes fun i hi=>hall.out i (by rw [hl2.out] at hi;omega):_=_)
      go_wp2_with fail
      go_ret
      exact ⟨by rw [HT.out];rfl,B⟩
  ·have hn1:¬(n:Int)=0:=by omega
   have HF:Hid (contB all m=false):=(by unfold contB;rw [hask.out,hl1.out];simp [hn]:_=_)
   go_wp2_with fail
   go_ret
   exact ⟨by rw [HF.out];rfl,hA⟩
theorem mailB_two (n:Nat)(all:List M1.Upd)(m:M1.Ml):M1.mailB n all m=(twoB m.fr m.tt n && contB all m):=by
 unfold M1.mailB twoB contB;simp only [Bool.and_assoc]
theorem wAll_set {rs:List M1.Rg}{n:Nat}{l:List M1.Upd}(h:M1.wAll rs n=some l):M1.setOk l=true:=by
 cases q:M1.uni rs n with
 | none=>rw [M1.wAll_2 q] at h;cases h
 | some m =>
  cases z:M1.ownsB rs n m with
  | false=>rw [M1.wAll_3 q z] at h;cases h
  | true =>
   cases t:M1.regsB rs n with
   | false=>rw [M1.wAll_1 t] at h;cases h
   | true=>rw [M1.wAll_0 t q z] at h;injection h with h;rw [←h];exact M1.uni_set q
set_option maxHeartbeats 32000000 in
set_option maxRecDepth 100000 in
theorem worldOk_impl (now:Int)(v:Option Addr)(n c:Nat)(rs:List M1.Rg)(v2:Option Addr)(n2 c2:Nat)(ms:List M1.Ml)(w:World)(hr:IsRgs w v n c rs)(hm:IsMls w v2 n2 c2 ms) :
  Calls Tryz.prog 7 #[.agg #[.int .i64 now,.slice v n c,.slice v2 n2 c2]] w fun e w'=>e=.returned (.bool (M1.wOk now rs ms))∧Below w.heap.size w w':=by
 have hm1:=hr.hcap;have hm2:=hr.hmost;have hm3:=hm.hcap;have hm4:=hm.hmost;unfold maxLen at hm2 hm4;have hl1:Hid (rs.length=n):=hr.hlen;have hl2:Hid (ms.length=n2):=hm.hlen;have hA:Below w.heap.size w (w.alloc (.cells #[.int .i64 now,.slice v n c,.slice v2 n2 c2] 27)):=(Below.refl _ _).alloc (Nat.le_refl _) _;have P:=r3_new w (.int .i64 now) (.slice v n c) (.slice v2 n2 c2) 27;go_enter Tryz.func7,Tryz.ntmps7
 go_upto_region 1 with fail
 obtain ⟨W0,hW0⟩:∃ W,w.alloc (.cells #[.int .i64 now,.slice v n c,.slice v2 n2 c2] 27)=W:=⟨_,rfl⟩
 rw [hW0] at hA P ⊢;clear hW0;obtain ⟨p,hp⟩:∃ p,Hid (w.heap.size=p):=⟨_,rfl⟩
 rw [hp.out] at P ⊢;have hr0:=hr.below hA;have hm0:=hm.below hA;obtain ⟨d0,d1,d2⟩:=r3_cells P;have pl:=P.lt;obtain ⟨q,hq⟩:∃ q,Hid (M1.inB now 0 1000000000=q):=⟨_,rfl⟩
 obtain ⟨z,hz⟩:∃ z,Hid (M1.inB (n:Int) 2 5=z):=⟨_,rfl⟩
 go_wp2_with fail
 refine (timeOk_any _ _).mono ?_;rw [hq.out];rintro e w1 ⟨rfl,hw1⟩;obtain rfl:=hw1.symm
 cases q with
 | false =>
  have HF:Hid (M1.wOk now rs ms=false):=M1.wOk_1 (by unfold M1.wHead;rw [hq.out];rfl);go_wp2_with fail
  go_ret
  exact ⟨by rw [HF.out];rfl,hA⟩
 | true =>
  go_wp2_with fail
  refine (inRange_any _ _ _ _).mono ?_;rw [hz.out];rintro e w1 ⟨rfl,hw1⟩;obtain rfl:=hw1.symm
  cases z with
  | false =>
   have HF:Hid (M1.wOk now rs ms=false):=M1.wOk_1 (by unfold M1.wHead;rw [hl1.out,hz.out];simp);go_wp2_with fail
   go_ret
   exact ⟨by rw [HF.out];rfl,hA⟩
  | true =>
   by_cases h40:n2≤40
   ·have hng:¬(40:Int)<(n2:Int):=by omega
    have hng2:¬40<n2:=by omega
    have HD:Hid (M1.wHead now rs.length ms.length=true):=(by unfold M1.wHead;rw [hl1.out,hl2.out,hq.out,hz.out,decide_eq_true h40];rfl:_=_)
    obtain ⟨o,ho⟩:∃ o,Hid (M1.wAll rs n=o):=⟨_,rfl⟩
    go_wp2_with fail
    refine (allOf_any _ _ _ rs _ hr0).mono ?_;rw [ho.out];rintro e w1 ⟨hO,hb1⟩;have B1:=hA.trans (hb1.mono hA.size);have P1:=RowAt.below P hb1;clear d0 d1 d2 pl;obtain ⟨d0,d1,d2⟩:=r3_cells P1;have pl:=P1.lt
    cases o with
    | none =>
     have HF:Hid (M1.wOk now rs ms=false):=M1.wOk_2 HD.out (by rw [hl1.out];exact ho.out);have hO':e=.returned (.tuple #[.map none,.bool false]):=hO;clear hO;subst hO';go_wp2_with fail
     go_ret
     exact ⟨by rw [HF.out];rfl,B1⟩
    | some l =>
     have HC:Hid (M1.wOk now rs ms=M1.mailsB n l ms):=(by rw [M1.wOk_3 HD.out (by rw [hl1.out];exact ho.out),hl1.out]:_=_)
     have hap:Hid (M1.apart l):=M1.ok_apart (M1.setOk_all (wAll_set ho.out));obtain ⟨g,rfl,hg,hmap⟩:=hO;have hgl:=hmap.lt;clear hg;go_wp2_with fail
     go_loopw [37] (fun i wr=>∃ k:Nat,k≤n2∧i=.int .i64 k∧Below w1.heap.size w1 wr∧Hid (∀ j,j<k→M1.mailB n l (M1.mlA ms j)=true)) (fun i _=>n2-(intOf i).toNat)
     case atStart=>exact ⟨0,Nat.zero_le _,rfl,Below.refl _ _,fun j hj=>absurd hj (Nat.not_lt_zero _)⟩
     case round =>
      obtain ⟨k,hk,rfl,hB,hall⟩:=hrel;have B:=B1.trans (hB.mono B1.size);by_cases hlt:k<n2
      ·have g2:=hm.below B
       have gm:=hmap.below hB hgl;rcases g2.hlies with h0 | ⟨b,off,rfl,hb,hc⟩
       ·omega
       obtain ⟨v3,n3,c3,v4,n4,c4,e0,e1,e2,e3,e4,hv,hu⟩:=hc k hlt;clear hc g2;have i0:(0:Int)≤(k:Int):=by omega
       have i1:(k:Int)<(n2:Int):=by omega
       obtain ⟨m,hm'⟩:∃ m,Hid (M1.mlA ms k=m):=⟨_,rfl⟩
       rw [hm'.out] at e0 e1 e2 hv hu;have HN:Hid (M1.mailB n l m=false→M1.wOk now rs ms=false):=fun h=>by rw [HC.out];exact M1.mailsB_no (i:=k) (by rw [hl2.out];exact hlt) (by rw [hm'.out];exact h)
       have hA2:Below wr.heap.size wr (wr.alloc (.cells #[.int .i64 m.fr,.int .i64 m.tt,.bool m.ask,.slice v3 n3 c3,.slice v4 n4 c4] 62)):=(Below.refl _ _).alloc (Nat.le_refl _) _;have Q:=r5_new wr (.int .i64 m.fr) (.int .i64 m.tt) (.bool m.ask) (.slice v3 n3 c3) (.slice v4 n4 c4) 62;go_upto_region 10 with fail
       obtain ⟨W2,hW2⟩:∃ W,wr.alloc (.cells #[.int .i64 m.fr,.int .i64 m.tt,.bool m.ask,.slice v3 n3 c3,.slice v4 n4 c4] 62)=W:=⟨_,rfl⟩
       rw [hW2] at hA2 Q ⊢;clear hW2;obtain ⟨y,hy⟩:∃ y,Hid (wr.heap.size=y):=⟨_,rfl⟩
       rw [hy.out] at Q ⊢;clear e0 e1 e2 e3 e4;obtain ⟨e0,e1,e2,e3,e4⟩:=r5_cells Q;have ql:=Q.lt;have hB2:=hB.trans (hA2.mono hB.size);have B2:=B1.trans (hB2.mono B1.size);have hv2:=hv.below hA2;have hu2:=hu.below hA2;have gm2:=gm.below hA2 gm.lt;obtain ⟨a,ha⟩:∃ a,Hid (twoB m.fr m.tt n=a):=⟨_,rfl⟩
       obtain ⟨d,hd⟩:∃ d,Hid (contB l m=d):=⟨_,rfl⟩
       go_wp2_with fail
       refine (twoOf_any _ _ _ _).mono ?_;rw [ha.out];rintro e w3 ⟨rfl,hw3⟩;obtain rfl:=hw3.symm
       cases a with
       | false =>
        have HF:Hid (M1.wOk now rs ms=false):=HN.out (by rw [mailB_two,ha.out];rfl);go_wp2_with fail
        go_ret
        exact ⟨by rw [HF.out];rfl,B2⟩
       | true =>
        go_wp2_with fail
        refine (contentOk_any m _ _ _ _ _ _ g l _ hv2 hu2 gm2 hap).mono ?_;rw [hd.out];rintro e w3 ⟨rfl,hb3⟩;have hB3:=hB2.trans (hb3.mono hB2.size);have B3:=B1.trans (hB3.mono B1.size)
        cases d with
        | false =>
         have HF:Hid (M1.wOk now rs ms=false):=HN.out (by rw [mailB_two,ha.out,hd.out];rfl);go_wp2_with fail
         go_ret
         exact ⟨by rw [HF.out];rfl,B3⟩
        | true =>
         have HA:Hid (∀ j,j<k+1→M1.mailB n l (M1.mlA ms j)=true):=fun j hj=>by
          by_cases e:j=k
          ·rw [e,hm'.out,mailB_two,ha.out,hd.out];rfl
          ·exact hall.out j (by omega)
         go_wp2_with fail
         exact ⟨⟨k+1,by omega,by go_num,hB3,HA⟩,by simp [intOf];omega⟩
      ·have HT:Hid (M1.wOk now rs ms=true):=(by rw [HC.out];exact M1.mailsB_yes fun i hi=>hall.out i (by rw [hl2.out] at hi;omega):_=_)
       go_wp2_with fail
       go_ret
       exact ⟨by rw [HT.out];rfl,B⟩
   ·have hgt:(40:Int)<(n2:Int):=by omega
    have hgt2:40<n2:=by omega
    have HF:Hid (M1.wOk now rs ms=false):=M1.wOk_1 (by unfold M1.wHead;rw [hl1.out,hl2.out,decide_eq_false h40];simp);go_wp2_with fail
    go_ret
    exact ⟨by rw [HF.out];rfl,hA⟩
end Go.Proofs.YtgcinolbkllkkaaGreat
namespace M1
theorem ueq_self (u:Upd):ueq u u=true:=by simp [ueq]
end M1
namespace Go.Proofs.YtgcinolbkllkkaaGreat
open Go.ChangeShapes Go.WideShapes Go.ChangeAt Go.RowKit
theorem big_any (av:Option Addr)(len cap:Nat)(w:World)(hc:len≤cap)(hm:cap≤maxLen) :
  Calls Tryz.prog 5 #[.slice av len cap] w fun e w'=>e=.returned (.bool (decide ((1048576:Int)<(len:Int))))∧w'=w:=by
 unfold maxLen at hm;go_enter Tryz.func5,Tryz.ntmps5
 go_wp2
 go_ret
 exact ⟨rfl,rfl⟩
attribute [local go_sem high] eqU
set_option maxHeartbeats 16000000 in
theorem sameSet_self (av bv:Option Addr)(n cn cm:Nat)(us:List M1.Upd)(w:World)(h1:IsUpds w av n cn us)(h2:IsUpds w bv n cm us) :
  Calls Tryz.prog 16 #[.slice av n cn,.slice bv n cm] w fun e w'=>e=.returned (.bool true)∧Below w.heap.size w w':=by
 have hm1:=h1.hcap;have hm2:=h1.hmost;have hm3:=h2.hcap;have hm4:=h2.hmost;unfold maxLen at hm2 hm4;have hnb:((n:Int) != (n:Int))=false:=by simp
 go_enter Tryz.func16,Tryz.ntmps16
 go_wp2_with fail
 go_loopw [5] (fun i wr=>∃ k:Nat,k≤n∧i=.int .i64 k∧Below w.heap.size w wr) (fun i _=>n-(intOf i).toNat)
 case atStart=>exact ⟨0,Nat.zero_le _,rfl,Below.refl _ _⟩
 case round =>
  obtain ⟨k,hk,rfl,hB⟩:=hrel;by_cases hlt:k<n
  ·have g1:=h1.below hB
   have g2:=h2.below hB;rcases g1.hlies with h0 | ⟨b,off,rfl,hb,hc⟩
   ·omega
   rcases g2.hlies with h0 | ⟨b2,off2,rfl,hb2,hc2⟩
   ·omega
   obtain ⟨c0,c1,c2,c3,c4,c5,c6,c7,c8,c9,c10,c11,c12⟩:=hc k hlt;obtain ⟨d0,d1,d2,d3,d4,d5,d6,d7,d8,d9,d10,d11,d12⟩:=hc2 k hlt;clear hc hc2 g1 g2;have i0:(0:Int)≤(k:Int):=by omega
   have i1:(k:Int)<(n:Int):=by omega
   have hq:=M1.ueq_self (M1.up us k);go_wp2_with fail
   go_region_held3 (fun w'=>Kp wr w') (first | exact kp_zero _ | exact kp_drew (by assumption) | exact kp_step (by assumption) (by assumption)) (fail)
   rename_i hK
   have hB':=hB.trans (hK.1.mono hB.size);go_wp2_with fail
   exact ⟨⟨k+1,by omega,by go_num,hB'⟩,by simp [intOf];omega⟩
  ·go_wp2_with fail
   go_ret
   exact ⟨rfl,hB⟩
end Go.Proofs.YtgcinolbkllkkaaGreat
namespace Go.Proofs.YtgcinolbkllkkaaGreat
open Go.ChangeShapes Go.WideShapes Go.ChangeAt Go.RowKit Go.Shelf
attribute [local go_sem] Oper.semAt_some
set_option maxRecDepth 100000 in
set_option maxHeartbeats 16000000 in
theorem kept_impl (av:Option Addr)(n cn:Nat)(us:List M1.Upd)(tr:Int)(w:World)(h1:IsUpds w av n cn us) :
  Calls Tryz.prog 15 #[.slice av n cn,.int .i64 tr] w fun e w'=>e=.returned (.bool (M1.keptB us tr))∧Below w.heap.size w w':=by
 have hl1:Hid (us.length=n):=h1.hlen;refine (callsIn_wide (n:=6)).1 ?_;have hbw:Below w.heap.size w (w.alloc (.cells #[.bool false] 4)):=(Below.refl _ _).alloc (Nat.le_refl _) _;have h1':=h1.below hbw;by_cases hs:M1.setOk us=true
 ·refine callsIn_of_wp_marks Tryz.func15 rfl trivial ?_ rfl
  simp only [Tryz.ntmps15,List.size_toArray,List.length_cons,List.length_nil,Nat.reduceAdd,Nat.reduceSub,Array.replicate_succ,Array.replicate_zero,List.push_toArray,List.append_toArray,List.nil_append,List.cons_append]
  gi_wp2_with fail
  refine ⟨trivial,?_⟩;refine (callsIn_wide.2 (setOk_impl _ _ _ _ _ h1')).mono ?_;rw [hs];rintro e w1 ⟨rfl,hb1⟩
  gi_wp2_with fail
  refine ⟨trivial,?_⟩;refine (ofTrace_in Fence.wide 5 trivial rfl _ _ _ _ _ _).mono ?_;rintro e w2 ⟨rfl,rfl⟩;simp only [World.size_alloc];have bR1:Boxed w1 w.heap.size 4 (.bool false):=(hb1.block w.heap.size (by simp)).trans (Boxed.new w 4 (.bool false));have bR:=((bR1.alloc (.cells #[.slice av n cn] 32)).alloc (.cells #[.int .i64 2] 2)).alloc (.cells #[.int .i64 tr] 2);have b0:=((Boxed.new w1 32 (.slice av n cn)).alloc (.cells #[.int .i64 2] 2)).alloc (.cells #[.int .i64 tr] 2);have b1:=(Boxed.new (w1.alloc (.cells #[.slice av n cn] 32)) 2 (.int .i64 2)).alloc (.cells #[.int .i64 tr] 2);have b2:=Boxed.new ((w1.alloc (.cells #[.slice av n cn] 32)).alloc (.cells #[.int .i64 2] 2)) 2 (.int .i64 tr);simp only [World.size_alloc] at b1 b2;have hs1:=hb1.size;simp only [World.size_alloc] at hs1;have hbx:Below w.heap.size w w1:=hbw.trans (hb1.mono (by simp));have hB0:Below w.heap.size w (((w1.alloc (.cells #[.slice av n cn] 32)).alloc (.cells #[.int .i64 2] 2)).alloc (.cells #[.int .i64 tr] 2)):=((hbx.alloc hbx.size _).alloc (by simp;omega) _).alloc (by simp;omega) _;have hsz:(((w1.alloc (.cells #[.slice av n cn] 32)).alloc (.cells #[.int .i64 2] 2)).alloc (.cells #[.int .i64 tr] 2)).heap.size=w1.heap.size+3:=by simp
  obtain ⟨W0,hW0⟩:∃ W0,((w1.alloc (.cells #[.slice av n cn] 32)).alloc (.cells #[.int .i64 2] 2)).alloc (.cells #[.int .i64 tr] 2)=W0:=⟨_,rfl⟩
  rw [hW0] at bR b0 b1 b2 hB0 hsz ⊢;clear hW0
  gi_wp2_with fail
  refine wpIn_rangeFunc_ownF rfl (by omega) (gf:=73) (lb:=#[.pointer (some ⟨w1.heap.size,0,none⟩),.pointer (some ⟨w1.heap.size+1,0,none⟩),.pointer (some ⟨w1.heap.size+1+1,0,none⟩)]) rfl trivial (enters_of Tryz.func73 (by kernel_rfl) rfl)
   (ofTrace_stops Fence.wide _ trivial rfl (by omega) w1.heap.size av n cn 2 tr us w h1 W0 hB0 (by omega) b0.cell b1.cell b2.cell) kpI_t (kpI_put (by omega) (by omega)) (Below.refl _ _) (fun _=>rfl)
   (fun pre W=>(Boxed W w.heap.size 4 (.bool false)∧Below w.heap.size w W)∧pre=[])
   (fun c pre W=>(c=.ret∧pre≠[]∧Boxed W w.heap.size 4 (.bool true))∧Below w.heap.size w W)
   (OwnFrom.and (OwnFrom.and (Own.from (boxed_own _ _ _) _) (ownFrom_below (Nat.le_refl _) (by omega))) (ownFrom_pure _ _))
   (fun c=>OwnFrom.and (OwnFrom.and (ownFrom_pure _ _) (OwnFrom.and (ownFrom_pure _ _) (Own.from (boxed_own _ _ _) _))) (ownFrom_below (Nat.le_refl _) (by omega)))
   ⟨⟨bR,hB0⟩,rfl⟩
   (fun x=>{ tmps:=#[.slice av n cn,.int .i64 tr,undef,undef,.pointer (some ⟨w.heap.size,0,none⟩),.slice av n cn,.bool true,.bool false,.slice av n cn,.int .i64 tr,.func (.func 73) #[] #[.pointer (some ⟨w1.heap.size,0,none⟩),.pointer (some ⟨w1.heap.size+1,0,none⟩),.pointer (some ⟨w1.heap.size+1+1,0,none⟩)],.agg #[.int .i64 x.dr,.int .i64 x.dn,.int .i64 x.sw,.int .i64 x.sc,.int .i64 x.sr,.int .i64 x.k,.int .i64 x.tr,.int .i64 x.id,.int .i64 x.pa,.string x.s,.int .i64 x.st,.int .i64 x.en,.int .i64 x.lv]],defers:=[] })
   ?assign ?body ?done ?stop
  case assign =>
   intro l x W K hK
   gi_wp2
   first | exact hK | (simpa using hK) | (refine cast (congrArg (fun t=>K { tmps:=t,defers:=[] } W) ?_) hK;rfl)
  case body =>
   rintro l pre x W ⟨⟨bR1,hB1⟩,rfl⟩ _;have cR:=bR1.cell;have fR:=bR1.frozen
   gi_wp2
   exact ⟨KeepsOthers.setCell _ _ _,⟨rfl,by simp,bR1.set _⟩,hB1.setCell (p:=⟨w.heap.size,0,none⟩) (Nat.le_refl _) _⟩
  case done =>
   rintro D zs W hD hz ⟨⟨bR1,hB1⟩,hpre⟩ hK;have HQ:Hid (M1.keptB us tr=false):=(by unfold M1.keptB;rw [hs,hl1.out,←hz,hpre];rfl:M1.keptB us tr=false)
   have cR:=bR1.cell;have fR:=bR1.frozen
   gi_wp2
   have hK':=(KeepsOthers.setCell W ⟨w.heap.size,0,none⟩ (.bool false)).same D _ hK rfl;refine ⟨by simp,.inl ⟨_,_,rfl,run_takeDeferred hK',?_⟩⟩;have hc5:=cell_kept (World.cell?_setCell_same' W ⟨w.heap.size,0,none⟩ (.bool false) (by rw [cR];rfl)) (grownBy_putObj' _ D (.deferred none)) (fun r e=>by cases e;exact ⟨_,hK',rfl⟩);refine ⟨.bool false,?_,by rw [HQ.out],(hB1.setCell (p:=⟨w.heap.size,0,none⟩) (Nat.le_refl _) _).trans (belowK_b (w:=w) (Nat.le_refl _) _ D _ _ (by omega) hK' rfl rfl)⟩;simp [results,Tryz.results15,go_sem,hc5]
  case stop =>
   rintro D c pre W hD ⟨k,hk,hpre⟩ ⟨⟨rfl,hne,bR1⟩,hB1⟩ hK;have HQ:Hid (M1.keptB us tr=true):=by
    have h2:M1.ofT 2 tr us n≠[]:=M1.ofT_some (k:=k) (by rw [←hpre];exact hne) hk;show M1.keptB us tr=true
    unfold M1.keptB;rw [hs,hl1.out];simpa using h2
   have cR:=bR1.cell
   gi_wp2
   refine ⟨by simp,.inl ⟨_,_,rfl,run_takeDeferred hK,?_⟩⟩;have hc5:=cell_kept cR (grownBy_putObj' _ D (.deferred none)) (fun r e=>by cases e;exact ⟨_,hK,rfl⟩);refine ⟨.bool true,?_,by rw [HQ.out],hB1.trans (belowK_b (w:=w) (Nat.le_refl _) W D _ _ (by omega) hK rfl rfl)⟩;simp [results,Tryz.results15,go_sem,hc5]
 ·replace hs:M1.setOk us=false:=by simpa using hs
  have HQ:Hid (M1.keptB us tr=false):=(by unfold M1.keptB;rw [hs];rfl:M1.keptB us tr=false)
  refine callsIn_of_wp_marks Tryz.func15 rfl trivial ?_ rfl;simp only [Tryz.ntmps15,List.size_toArray,List.length_cons,List.length_nil,Nat.reduceAdd,Nat.reduceSub,Array.replicate_succ,Array.replicate_zero,List.push_toArray,List.append_toArray,List.nil_append,List.cons_append]
  gi_wp2_with fail
  refine ⟨trivial,?_⟩;refine (callsIn_wide.2 (setOk_impl _ _ _ _ _ h1')).mono ?_;rw [hs];rintro e w1 ⟨rfl,hb1⟩;have bR1:Boxed w1 w.heap.size 4 (.bool false):=(hb1.block w.heap.size (by simp)).trans (Boxed.new w 4 (.bool false));have hbx:Below w.heap.size w w1:=hbw.trans (hb1.mono (by simp));have cR:=bR1.cell;have fR:=bR1.frozen
  gi_wp2_with fail
  have cS:=(bR1.set (.bool false)).cell;refine ⟨.bool false,?_,by rw [HQ.out],hbx.setCell (p:=⟨w.heap.size,0,none⟩) (Nat.le_refl _) _⟩;simp [results,Tryz.results15,go_sem,cS]
end Go.Proofs.YtgcinolbkllkkaaGreat
