/-
  Texts of one proof, joined: Math24, Ti1, Ti2, Lo1, Cv9, Wk2.
-/
import Derived.Lib.SlicesCompact
import Derived.Test.YtgcinolbkllkkaaGreatZFConverged27
import Derived.Test.YtgcinolbkllkkaaGreatZFConverged48
import Derived.Test.YtgcinolbkllkkaaGreatZFConverged33b
set_option linter.unusedSimpArgs false
set_option linter.unusedVariables false
namespace M1
def Und (O:List (Upd × Int))(k:Nat)(q:Upd × Int):Prop:=∃ a p,a<k∧O[a]?=some p∧p.2=q.2-1∧p.1.id=q.1.pa∧∀ j r,a<j→j<k→O[j]?=some r→q.2≤r.2
def Ord (O:List (Upd × Int)):Prop:=∀ k q,O[k]?=some q→0≤q.2∧(q.2=0∨Und O k q)
theorem Und.app {O P:List (Upd × Int)}{k:Nat}{q:Upd × Int}(hk:k≤O.length)(h:Und O k q):Und (O ++ P) k q:=by
 obtain ⟨a,p,h1,h2,h3,h4,h5⟩:=h;refine ⟨a,p,h1,?_,h3,h4,fun j r ha hj hr=>h5 j r ha hj ?_⟩
 ·rw [List.getElem?_append_left (by omega)];exact h2
 ·rw [List.getElem?_append_left (by omega)] at hr;exact hr
theorem Ord.snoc {O:List (Upd × Int)}{q:Upd × Int}(h:Ord O)(h0:0≤q.2)(hq:q.2=0∨Und O O.length q):Ord (O ++ [q]):=by
 intro k p hp;by_cases hk:k<O.length
 ·rw [List.getElem?_append_left hk] at hp
  exact ⟨(h k p hp).1,(h k p hp).2.imp id fun u=>u.app (by omega)⟩
 ·rw [List.getElem?_append_right (by omega)] at hp
  have hk0:k-O.length=0:=by
   rcases Nat.eq_zero_or_pos (k-O.length) with e | e
   ·exact e
   ·rw [List.getElem?_eq_none (by simp;omega)] at hp;cases hp
  rw [hk0] at hp;have e:q=p:=by simpa using hp
  subst e;have hkl:k=O.length:=by omega
  rw [hkl];exact ⟨h0,hq.imp id fun u=>u.app (Nat.le_refl _)⟩
theorem Ord.next {O:List (Upd × Int)}(h:Ord O){k:Nat}{q p:Upd × Int}(hq:O[k+1]?=some q)(hp:O[k]?=some p):q.2≤p.2+1:=by
 have hp0:=(h k p hp).1;rcases (h (k+1) q hq).2 with e | ⟨a,r,h1,h2,h3,h4,h5⟩
 ·omega
 ·by_cases c:a=k
  ·rw [c,hp] at h2
   injection h2 with e;rw [e];omega
  ·have:=h5 k p (by omega) (by omega) hp
   omega
theorem Ord.first {O:List (Upd × Int)}(h:Ord O){q:Upd × Int}(hq:O[0]?=some q):q.2=0:=by
 rcases (h 0 q hq).2 with e | ⟨a,r,h1,_⟩
 ·exact e
 ·omega
end M1
namespace Go.Proofs.YtgcinolbkllkkaaGreat
open Go.ChangeShapes Go.WideShapes Go.ChangeAt Go.RowKit
def icell (zs:List Int)(o:Nat):Value:=.int .i64 (zs.getD o 0)
def MI (w:World)(av:Option Addr)(n cap lo hi:Nat)(f:Nat→Value):Prop :=
 n≤cap∧cap≤maxLen∧((n=0∧av=none)∨∃ g,av=some ⟨g,0,none⟩∧lo≤g∧g<hi∧RowAt w g n f)
theorem MI.below {w w':World}{av:Option Addr}{n cap lo hi:Nat}{f:Nat→Value}(h:MI w av n cap lo hi f)(hb:Below w.heap.size w w'):MI w' av n cap lo hi f :=
 ⟨h.1,h.2.1,h.2.2.imp id fun ⟨g,e,h1,h2,r⟩=>⟨g,e,h1,h2,r.below hb⟩⟩
theorem MI.off {w w':World}{av:Option Addr}{n cap lo hi g:Nat}{f:Nat→Value}(h:MI w av n cap lo hi f)(hg:Gr g w w')(hb:g<lo∨hi≤g):MI w' av n cap lo hi f :=
 ⟨h.1,h.2.1,h.2.2.imp id fun ⟨k,e,h1,h2,r⟩=>⟨k,e,h1,h2,r.gr hg (by omega)⟩⟩
theorem MI.mk {w w':World}{av bv:Option Addr}{n cap lo hi m cm lo2 hi2:Nat}{f f2:Nat→Value}(h:MI w av n cap lo hi f)(h2:MI w bv m cm lo2 hi2 f2)(hm:Mk bv w w')(hd:hi≤lo2∨hi2≤lo):MI w' av n cap lo hi f:=by
 refine ⟨h.1,h.2.1,?_⟩;rcases h.2.2 with h0 | ⟨g,e,h3,h4,r⟩
 ·exact Or.inl h0
 ·refine Or.inr ⟨g,e,h3,h4,?_⟩
  rcases h2.2.2 with ⟨_,h0⟩ | ⟨g2,e2,h5,h6,_⟩
  ·exact r.below (hm.1 h0)
  ·exact r.gr (hm.2 g2 e2) (by omega)
theorem MI.wide {w:World}{av:Option Addr}{n cap lo hi lo2 hi2:Nat}{f:Nat→Value}(h:MI w av n cap lo hi f)(hl:lo2≤lo)(hh:hi≤hi2):MI w av n cap lo2 hi2 f :=
 ⟨h.1,h.2.1,h.2.2.imp id fun ⟨g,e,h1,h2,r⟩=>⟨g,e,by omega,by omega,r⟩⟩
def iL (zs:List Int):List Value:=zs.map (Value.int .i64)
theorem iL_get (zs:List Int)(o:Nat)(h:o<zs.length*1):(iL zs).getD o undef=icell zs o:=by
 have h':o<zs.length:=by omega
 simp [iL,icell,List.getD,h']
theorem MI.of_owns {w:World}{base n:Nat}{e:TypeId}{av:Option Addr}{cap:Nat}{zs:List Int}(hl:zs.length=n)(h:w.ownsRow base e 1 (.slice av n cap) n (iL zs)):MI w av n cap base w.heap.size (icell zs):=by
 have h0:=h;obtain ⟨h1,h2⟩:=h;rcases h2 with ⟨e1,h3⟩ | ⟨g,cap',cur,e1,hg,hh,hn,hm,hs,ht⟩
 ·injection e1 with a1 a2 a3;subst a1;subst a3
  exact ⟨by omega,by unfold maxLen;omega,Or.inl ⟨h3,rfl⟩⟩
 ·injection e1 with a1 a2 a3;subst a1;subst a3
  have hr:=(RowAt.of_owns h0).same fun o ho=>iL_get zs o (by rw [hl];exact ho);rw [Nat.mul_one] at hr;exact ⟨hn,hm,Or.inr ⟨g,rfl,hg,hr.lt,hr⟩⟩
theorem bel_drewN {B:Nat}{a w:World}(h:Below B a w)(n:Nat):Below B a (w.drewN n):=⟨h.os,h.tape,h.output,h.size,h.block⟩
end Go.Proofs.YtgcinolbkllkkaaGreat
namespace M1
theorem set_has {us:List Upd}(h:∀ j,j<us.length→okAt us j=true)(r d:Int)(hd:1≤d):∀ k,k≤us.length→d≤lastN us k r→∃ j,j<k∧(up us j).dr=r∧(up us j).dn=d
 | 0,_,e=>by
  have:lastN us 0 r=0:=rfl;omega
 | k+1,hk,e=>by
  rw [lastN_succ] at e;by_cases q:(up us k).dr=r
  ·rw [if_pos q] at e
   by_cases z:(up us k).dn=d
   ·exact ⟨k,by omega,q,z⟩
   ·have:=next_dn h (k:=k) (by omega)
    rw [q] at this;obtain ⟨j,hj,e1,e2⟩:=set_has h r d hd k (by omega) (by omega);exact ⟨j,by omega,e1,e2⟩
  ·rw [if_neg q] at e
   obtain ⟨j,hj,e1,e2⟩:=set_has h r d hd k (by omega) e;exact ⟨j,by omega,e1,e2⟩
theorem set_sub {a b:List Upd}(ha:setOk a=true)(hb:setOk b=true)(hA:Agr a b)(hv:vecU a=vecU b){x:Upd}(hx:x∈a):x∈b:=by
 obtain ⟨j,hj,rfl⟩:=mem_up hx;have hd:=okU_dot (okAt_ok (setOk_all ha j hj));have h1:=vecU_ge (setOk_all ha) hj;rw [hv,vecU_lk (setOk_all hb) hd.1 hd.2.1] at h1;obtain ⟨i,hi,e1,e2⟩:=set_has (setOk_all hb) _ _ hd.2.2.1 b.length (Nat.le_refl _) h1;have:=hA _ hx _ (up_mem hi) e1.symm e2.symm;rw [this];exact up_mem hi
theorem set_one {a b:List Upd}(h:agreeB a b=true)(hv:vectorOf a=vectorOf b):a=b:=by
 obtain ⟨ha,hb,_⟩:=agreeB_true h;have hA:=agr_of h;unfold vectorOf at hv;rw [if_pos ha,if_pos hb] at hv;exact sorted_mem (ok_sorted (setOk_all ha)) (ok_sorted (setOk_all hb)) fun x=>⟨fun hx=>set_sub ha hb hA hv hx,fun hx=>set_sub hb ha hA.symm hv.symm hx⟩
theorem uni_all {rs:List Rg}{N:Nat}(hs:∀ i,i<N→setOk (rgA rs i).us=true):∀ {n:Nat} {l:List Upd},n≤N→uni rs n=some l→(∀ i,i<n→∀ x,x∈(rgA rs i).us→x∈l)∧∀ i k,i<k→k<n→agreeB (rgA rs i).us (rgA rs k).us=true
 | 0,l,_,h=>⟨fun i hi=>absurd hi (Nat.not_lt_zero _),fun i k _ hk=>absurd hk (Nat.not_lt_zero _)⟩
 | n+1,l,hN,h=>by
  cases q:uni rs n with
  | none=>rw [uni_fail q (Nat.le_succ n)] at h;cases h
  | some m =>
   cases c:jOk m (rgA rs n).us with
   | false=>rw [uni_no q c] at h;cases h
   | true =>
    rw [uni_yes q c] at h;injection h with h;obtain ⟨h1,h2⟩:=uni_all hs (by omega) q;have hm:=jL_mem c;have hag:=(jOk_true c).1;refine ⟨fun i hi x hx=>?_,fun i k hik hk=>?_⟩
    ·rw [←h]
     by_cases e:i=n
     ·subst e;exact (hm x).2 (Or.inr hx)
     ·exact (hm x).2 (Or.inl (h1 i (by omega) x hx))
    ·by_cases e:k=n
     ·subst e
      obtain ⟨_,s2,_⟩:=agreeB_true hag;have hA:=agr_of hag;have s1:setOk (rgA rs i).us=true:=hs i (by omega);exact agr_to s1 s2 fun x hx y hy=>hA x (h1 i hik x hx) y hy
     ·exact h2 i k hik (by omega)
end M1
namespace Go.Proofs.YtgcinolbkllkkaaGreat
open Go.ChangeShapes Go.WideShapes Go.ChangeAt Go.RowKit
set_option maxHeartbeats 16000000 in
theorem sameNodes_self (av bv:Option Addr)(n cn cm lo hi lo2 hi2:Nat)(us:List (M1.Upd × Int))(w:World)(h1:MN w av n cn lo hi (ncell us))(h2:MN w bv n cm lo2 hi2 (ncell us)) :
  Calls Tryz.prog 12 #[.slice av n cn,.slice bv n cm] w fun e w'=>e=.returned (.bool true)∧Below w.heap.size w w':=by
 have hm1:=h1.1;have hm2:=h1.2.1;have hm3:=h2.1;have hm4:=h2.2.1;unfold maxLen at hm2 hm4;have hnb:((n:Int) != (n:Int))=false:=by simp
 go_enter Tryz.func12,Tryz.ntmps12
 go_wp2_with fail
 go_loopw [5] (fun i wr=>∃ p:Nat,p≤n∧i=.int .i64 p∧Below w.heap.size w wr) (fun i _=>n-(intOf i).toNat)
 case atStart=>exact ⟨0,Nat.zero_le _,rfl,Below.refl _ _⟩
 case round =>
  obtain ⟨p,hp,rfl,hB⟩:=hrel;by_cases hlt:p<n
  ·have g1:=h1.below hB
   have g2:=h2.below hB;rcases g1.2.2 with ⟨h0,_⟩ | ⟨g,rfl,_,_,r1⟩
   ·omega
   rcases g2.2.2 with ⟨h0,_⟩ | ⟨gg,rfl,_,_,r2⟩
   ·omega
   have hgl:=r1.lt;have hgl2:=r2.lt;have i0:(0:Int)≤(p:Int):=by omega
   have i1:(p:Int)<(n:Int):=by omega
   have z0:ncell us (p*6)=.int .i64 (nd us p).1.id:=ncell_at us p 0 (by omega);have z1:ncell us (p*6+1)=.int .i64 (nd us p).1.pa:=ncell_at us p 1 (by omega);have z2:ncell us (p*6+2)=.string (nd us p).1.s:=ncell_at us p 2 (by omega);have z3:ncell us (p*6+3)=.int .i64 (nd us p).1.st:=ncell_at us p 3 (by omega);have z4:ncell us (p*6+4)=.int .i64 (nd us p).1.en:=ncell_at us p 4 (by omega);have z5:ncell us (p*6+5)=.int .i64 (nd us p).2:=ncell_at us p 5 (by omega);have d0:=r1.cell (o:=p*6) (by omega);have d1:=r1.cell (o:=p*6+1) (by omega);have d2:=r1.cell (o:=p*6+2) (by omega);have d3:=r1.cell (o:=p*6+3) (by omega);have d4:=r1.cell (o:=p*6+4) (by omega);have d5:=r1.cell (o:=p*6+5) (by omega);have c0:=r2.cell (o:=p*6) (by omega);have c1:=r2.cell (o:=p*6+1) (by omega);have c2:=r2.cell (o:=p*6+2) (by omega);have c3:=r2.cell (o:=p*6+3) (by omega);have c4:=r2.cell (o:=p*6+4) (by omega);have c5:=r2.cell (o:=p*6+5) (by omega);rw [z0] at d0 c0;rw [z1] at d1 c1;rw [z2] at d2 c2;rw [z3] at d3 c3;rw [z4] at d4 c4;rw [z5] at d5 c5;clear z0 z1 z2 z3 z4 z5 g1 g2;go_wp2_with fail
   go_quiet (fail)
   go_wp2_with fail
   exact ⟨⟨p+1,by omega,by go_num,bel_drewN hB _⟩,by simp [intOf];omega⟩
  ·go_wp2_with fail
   go_ret
   exact ⟨rfl,hB⟩
set_option maxHeartbeats 16000000 in
theorem sameVec_any (av bv:Option Addr)(n cn m cm:Nat)(ds es:List (Int × Int))(w:World)(h1:IsVec w av n cn ds)(h2:IsVec w bv m cm es) :
  Calls Tryz.prog 10 #[.slice av n cn,.slice bv m cm] w fun e w'=>e=.returned (.bool (decide (ds=es)))∧Below w.heap.size w w':=by
 have hm1:=h1.hcap;have hm2:=h1.hmost;have hm3:=h2.hcap;have hm4:=h2.hmost;unfold maxLen at hm2 hm4;have hl1:Hid (ds.length=n):=h1.hlen;have hl2:Hid (es.length=m):=h2.hlen;by_cases hnm:n=m
 case neg =>
  have HF:Hid (decide (ds=es)=false):=decide_eq_false (fun e=>hnm (by rw [←hl1.out,←hl2.out,e]));have hnb:((n:Int) != (m:Int))=true:=by simp;omega
  go_enter Tryz.func10,Tryz.ntmps10
  go_wp2_with fail
  go_ret
  exact ⟨by rw [HF.out];rfl,Below.refl _ _⟩
 subst hnm;have hnb:((n:Int) != (n:Int))=false:=by simp
 go_enter Tryz.func10,Tryz.ntmps10
 go_wp2_with fail
 go_loopw [5] (fun i wr=>∃ k:Nat,k≤n∧i=.int .i64 k∧Below w.heap.size w wr∧Hid (∀ j,j<k→M1.rg ds j=M1.rg es j∧M1.nm ds j=M1.nm es j)) (fun i _=>n-(intOf i).toNat)
 case atStart=>exact ⟨0,Nat.zero_le _,rfl,Below.refl _ _,fun j hj=>absurd hj (Nat.not_lt_zero _)⟩
 case round =>
  obtain ⟨k,hk,rfl,hB,hall⟩:=hrel;by_cases hlt:k<n
  ·have g1:=h1.below hB
   have g2:=h2.below hB;rcases g1.hlies with h0 | ⟨b,off,rfl,hb,hc⟩
   ·omega
   rcases g2.hlies with h0 | ⟨b2,off2,rfl,hb2,hc2⟩
   ·omega
   obtain ⟨c1,c2⟩:=hc k hlt;obtain ⟨c3,c4⟩:=hc2 k hlt;clear hc hc2 g1 g2;have i0:(0:Int)≤(k:Int):=by omega
   have i1:(k:Int)<(n:Int):=by omega
   obtain ⟨x1,hx1⟩:∃ x,Hid (M1.rg ds k=x):=⟨_,rfl⟩
   obtain ⟨x2,hx2⟩:∃ x,Hid (M1.nm ds k=x):=⟨_,rfl⟩
   obtain ⟨x3,hx3⟩:∃ x,Hid (M1.rg es k=x):=⟨_,rfl⟩
   obtain ⟨x4,hx4⟩:∃ x,Hid (M1.nm es k=x):=⟨_,rfl⟩
   rw [hx1.out] at c1;rw [hx2.out] at c2;rw [hx3.out] at c3;rw [hx4.out] at c4;by_cases he:x1=x3∧x2=x4
   ·obtain ⟨rfl,rfl⟩:=he
    have HA:Hid (∀ j,j<k+1→M1.rg ds j=M1.rg es j∧M1.nm ds j=M1.nm es j):=fun j hj=>by
     by_cases e:j=k
     ·rw [e,hx1.out,hx2.out,hx3.out,hx4.out];exact ⟨rfl,rfl⟩
     ·exact hall.out j (by omega)
    go_wp2_with fail
    go_region_held3 (fun w'=>Kp wr w') (first | exact kp_zero _ | exact kp_drew (by assumption) | exact kp_step (by assumption) (by assumption)) (fail)
    rename_i hK
    have hB':=hB.trans (hK.1.mono hB.size);go_wp2_with fail
    exact ⟨⟨k+1,by omega,by go_num,hB',HA⟩,by simp [intOf];omega⟩
   ·have HF:Hid (decide (ds=es)=false):=decide_eq_false (fun e=>he (by rw [←hx1.out,←hx2.out,←hx3.out,←hx4.out,e];exact ⟨rfl,rfl⟩))
    go_wp2_with fail
    refine wp_region_held_drew (S:=fun w'=>Kp wr w') (by kernel_rfl) ?_ (fun zH=>?_)
    ·exact kp_zero _
    refine uZ 0 ?_;simp only[pZ,zZ];refine uZ 1 ?_;simp only[pZ,zZ];refine uZ 2 ?_;simp only[pZ,zZ];refine uZ 3 ?_;simp only[pZ,zZ];refine uZ 4 ?_;simp only[pZ,zZ];refine uZ 5 ?_;simp only[pZ,zZ];refine uZ 6 ?_;simp only[pZ,zZ];refine uZ 7 ?_;simp only[pZ,zZ];refine tZ (i:=8) (v:=.bool true) rfl (.inl ⟨by rfl,?_⟩) zH ?_
    ·(intro w hSw;(try dsimp only at hSw);go_simp;(try (by_cases e1:x1=x3 <;> simp_all)))
    (try simp only[pZ,zZ]);refine dZ ?_;have hB':=hB.trans (zH.1.mono hB.size);clear zH;go_wp2_with fail
    go_ret
    exact ⟨by rw [HF.out];rfl,hB'⟩
  ·have HT:Hid (decide (ds=es)=true):=decide_eq_true (M1.list_ext (by rw [hl1.out,hl2.out]) (fun i hi=>hall.out i (by rw [hl1.out] at hi;omega)))
   go_wp2_with fail
   go_ret
   exact ⟨by rw [HT.out];rfl,hB⟩
def AllO (w w':World)(e:Ending):Option (List M1.Upd)→Prop
 | none=>e=.returned (.tuple #[.map none,.bool false])
 | some l=>∃ b,e=.returned (.tuple #[.map (some b),.bool true])∧w.heap.size≤b∧MapIs w' b l
theorem short_set {us:List M1.Upd}(h:M1.setOk us=true):∀ i,i<us.length→(M1.up us i).s.size≤maxLen:=fun i hi=>by
 have:=M1.ok_txt (M1.okAt_ok (M1.setOk_all h i hi));unfold maxLen;omega
set_option maxHeartbeats 32000000 in
set_option maxRecDepth 100000 in
theorem allOf_any (av:Option Addr)(n cn:Nat)(rs:List M1.Rg)(w:World)(h1:IsRgs w av n cn rs) :
  Calls Tryz.prog 24 #[.slice av n cn] w fun e w'=>AllO w w' e (M1.wAll rs n)∧Below w.heap.size w w':=by
 have hm1:=h1.hcap;have hm2:=h1.hmost;unfold maxLen at hm2;go_enter Tryz.func24,Tryz.ntmps24
 go_wp2_with fail
 go_loopw [4,14] (fun a i wr=>∃ (k:Nat) (l:List M1.Upd) (m:Nat) (v:Option Addr) (c:Nat),k≤n∧i=.int .i64 k∧a=.slice v m c∧IsUpds wr v m c l∧Below w.heap.size w wr∧Hid (M1.regsB rs k=true∧M1.uni rs k=some l)) (fun _ i _=>n-(intOf i).toNat)
 case atStart=>exact ⟨0,[],0,none,0,Nat.zero_le _,rfl,rfl,⟨rfl,Nat.le_refl _,Nat.zero_le _,fun i hi=>absurd hi (Nat.not_lt_zero _),Or.inl rfl⟩,Below.refl _ _,rfl,rfl⟩
 case round =>
  obtain ⟨k,l,m,v,c,hk,rfl,rfl,hl,hB,hall⟩:=hrel;have hm5:=hl.hcap;have hm6:=hl.hmost;unfold maxLen at hm6;have hll:Hid (l.length=m):=hl.hlen;by_cases hlt:k<n
  ·have g1:=h1.below hB
   rcases g1.hlies with h0 | ⟨b,off,rfl,hb,hc⟩
   ·omega
   obtain ⟨v1,m1,n1,c0,c1,c2,c3,c4,hu⟩:=hc k hlt;clear hc g1;have i0:(0:Int)≤(k:Int):=by omega
   have i1:(k:Int)<(n:Int):=by omega
   obtain ⟨r,hr⟩:∃ r,Hid (M1.rgA rs k=r):=⟨_,rfl⟩
   rw [hr.out] at c0 c1 c2 c3 hu;have hA:Below wr.heap.size wr (wr.alloc (.cells #[.int .i64 r.id,.int .i64 r.a,.int .i64 r.b,.int .i64 r.c,.slice v1 m1 n1] 34)):=(Below.refl _ _).alloc (Nat.le_refl _) _;have P:=r5_new wr (.int .i64 r.id) (.int .i64 r.a) (.int .i64 r.b) (.int .i64 r.c) (.slice v1 m1 n1) 34;go_upto_region 5 with fail
   obtain ⟨W0,hW0⟩:∃ W,wr.alloc (.cells #[.int .i64 r.id,.int .i64 r.a,.int .i64 r.b,.int .i64 r.c,.slice v1 m1 n1] 34)=W:=⟨_,rfl⟩
   rw [hW0] at hA P ⊢;clear hW0;obtain ⟨p,hp⟩:∃ p,Hid (wr.heap.size=p):=⟨_,rfl⟩
   rw [hp.out] at P ⊢;obtain ⟨d0,d1,d2,d3,d4⟩:=r5_cells P;have pl:=P.lt;have B0:=hB.trans (hA.mono hB.size);have hu0:=hu.below hA;have hl0:=hl.below hA;clear c0 c1 c2 c3 c4;by_cases hid:r.id=(k:Int)+1
   ·obtain ⟨q,hq⟩:∃ q,Hid (M1.regOk ((k:Int)+1) r.a r.b r.c r.us=q):=⟨_,rfl⟩
    go_wp2_with fail
    refine (regionOk_impl _ _ _ _ _ _ _ r.us _ hu0).mono ?_;rw [hq.out];rintro e w1 ⟨rfl,hb1⟩;have B1:=B0.trans (hb1.mono B0.size);have P1:=RowAt.below P hb1;clear d0 d1 d2 d3 d4 pl;obtain ⟨d0,d1,d2,d3,d4⟩:=r5_cells P1;have pl:=P1.lt
    cases q with
    | false =>
     have HN:Hid (M1.wAll rs n=none):=M1.wAll_1 (M1.regsB_fail (k:=k+1) (by unfold M1.regsB M1.rOk;rw [hr.out,hid,hq.out];simp) (by omega));go_wp2_with fail
     refine bodyPost_ret (v:=.tuple #[.map none,.bool false]) (by simp [results,Tryz.results24,go_sem]) rfl ⟨by rw [HN.out];rfl,B1⟩
    | true =>
     have HR:Hid (M1.regsB rs (k+1)=true):=(by unfold M1.regsB M1.rOk;rw [hall.out.1,hr.out,hid,hq.out];simp:_=_)
     obtain ⟨z,hz⟩:∃ z,Hid (M1.jOk l r.us=z):=⟨_,rfl⟩
     go_wp2_with fail
     refine (joined_impl _ _ _ _ _ _ l r.us _ (hl0.below hb1) (hu0.below hb1)).mono ?_;rw [hz.out];rintro e w2 ⟨⟨v2,cap2,rfl,mu⟩,hb2⟩;have B2:=B1.trans (hb2.mono B1.size)
     cases z with
     | false =>
      have HN:Hid (M1.wAll rs n=none):=M1.wAll_2 (M1.uni_fail (k:=k+1) (M1.uni_no hall.out.2 (by rw [hr.out];exact hz.out)) (by omega));go_wp2_with fail
      refine bodyPost_ret (v:=.tuple #[.map none,.bool false]) (by simp [results,Tryz.results24,go_sem]) rfl ⟨by rw [HN.out];rfl,B2⟩
     | true =>
      have HU:Hid (M1.uni rs (k+1)=some (M1.jL l r.us)):=(by have:=M1.uni_yes hall.out.2 (by rw [hr.out];exact hz.out);rw [hr.out] at this;exact this:_=_)
      have hs:Hid (M1.setOk (M1.jL l r.us)=true):=M1.uni_set HU.out;have hl2:IsUpds w2 v2 (M1.jL l r.us).length cap2 (M1.jL l r.us):=mu.upds rfl (short_set hs.out);go_wp2_with fail
      exact ⟨⟨k+1,M1.jL l r.us,_,v2,cap2,by omega,by go_num,rfl,hl2,B2,HR.out,HU.out⟩,by simp [intOf];omega⟩
   ·have HN:Hid (M1.wAll rs n=none):=M1.wAll_1 (M1.regsB_fail (k:=k+1) (by unfold M1.regsB;rw [hr.out];simp [hid]) (by omega))
    go_wp2_with fail
    refine bodyPost_ret (v:=.tuple #[.map none,.bool false]) (by simp [results,Tryz.results24,go_sem]) rfl ⟨by rw [HN.out];rfl,B0⟩
  ·have hkn:Hid (k=n):=by show k=n;omega
   have HR:Hid (M1.regsB rs n=true):=(by rw [←hkn.out];exact hall.out.1:_=_)
   have HU:Hid (M1.uni rs n=some l):=(by rw [←hkn.out];exact hall.out.2:_=_)
   have hs:Hid (M1.setOk l=true):=M1.uni_set HU.out;obtain ⟨Wo,hWo⟩:∃ W,W=wr:=⟨_,rfl⟩
   rw [←hWo] at hB hl ⊢;clear hWo;go_wp2_with fail
   go_loopw [42] (fun i wr=>∃ k:Nat,k≤m∧i=.int .i64 k∧Below Wo.heap.size Wo wr∧Hid (∀ j,j<k→M1.ownB rs n (M1.up l j)=true)) (fun i _=>m-(intOf i).toNat)
   case atStart=>exact ⟨0,Nat.zero_le _,rfl,Below.refl _ _,fun j hj=>absurd hj (Nat.not_lt_zero _)⟩
   case round =>
    obtain ⟨j,hj,rfl,hB2,hown⟩:=hrel;have B2:=hB.trans (hB2.mono hB.size);by_cases hlt2:j<m
    ·have gl:=hl.below hB2
     rcases gl.hlies with h0 | ⟨b,off,rfl,hb,hc⟩
     ·omega
     obtain ⟨c0,c1,c2,c3,c4,c5,c6,c7,c8,c9,c10,c11,c12⟩:=hc j hlt2;clear hc gl;have j0:(0:Int)≤(j:Int):=by omega
     have j1:(j:Int)<(m:Int):=by omega
     obtain ⟨u,hu⟩:∃ u,Hid (M1.up l j=u):=⟨_,rfl⟩
     rw [hu.out] at c0 c1 c2 c3 c4 c5 c6 c7 c8 c9 c10 c11 c12;obtain ⟨ur0,ur1⟩:1≤u.dr∧u.dr≤5:=(by have:=M1.ok_rg (M1.setOk_all hs.out) (j:=j) (by rw [hll.out];exact hlt2);rw [hu.out] at this;exact ⟨this.1,this.2.1⟩)
     have hA:Below wr.heap.size wr (wr.alloc (.cells #[.int .i64 u.dr,.int .i64 u.dn,.int .i64 u.sw,.int .i64 u.sc,.int .i64 u.sr,.int .i64 u.k,.int .i64 u.tr,.int .i64 u.id,.int .i64 u.pa,.string u.s,.int .i64 u.st,.int .i64 u.en,.int .i64 u.lv] 72)):=(Below.refl _ _).alloc (Nat.le_refl _) _;have U0:=uq_new wr u 72;go_upto_region 15 with fail
     obtain ⟨W0,hW0⟩:∃ W,wr.alloc (.cells #[.int .i64 u.dr,.int .i64 u.dn,.int .i64 u.sw,.int .i64 u.sc,.int .i64 u.sr,.int .i64 u.k,.int .i64 u.tr,.int .i64 u.id,.int .i64 u.pa,.string u.s,.int .i64 u.st,.int .i64 u.en,.int .i64 u.lv] 72)=W:=⟨_,rfl⟩
     rw [hW0] at hA U0 ⊢;clear hW0;obtain ⟨p,hp⟩:∃ p,Hid (wr.heap.size=p):=⟨_,rfl⟩
     rw [hp.out] at U0 ⊢;clear c0 c1 c2 c3 c4 c5 c6 c7 c8 c9 c10 c11 c12;obtain ⟨ca0,ca1,ca2,ca3,ca4,ca5,ca6,ca7,ca8,ca9,ca10,ca11,ca12⟩:=uq_cells U0;have ul:=U0.lt;have hB3:=hB2.trans (hA.mono hB2.size);have B3:=hB.trans (hB3.mono hB.size);by_cases hd:u.dr≤(n:Int)
     ·have g1:=h1.below B3
      rcases g1.hlies with h0 | ⟨b1,off1,rfl,hb1,hc1⟩
      ·omega
      obtain ⟨v1,m1,n1,d0,d1,d2,d3,d4,hus⟩:=hc1 (u.dr.toNat-1) (by omega);clear hc1 g1 d0 d1 d2 d3;have e0:(0:Int)≤u.dr-1:=by omega
      have e1:u.dr-1<(n:Int):=by omega
      have hng:¬(n:Int)<u.dr:=by omega
      have hgt:decide ((n:Int)<u.dr)=false:=decide_eq_false hng;obtain ⟨q,hq⟩:∃ q,Hid (M1.inU (M1.rgA rs (u.dr.toNat-1)).us u=q):=⟨_,rfl⟩
      have hE:Hid ((u.dr-1).toNat=u.dr.toNat-1):=by show (u.dr-1).toNat=u.dr.toNat-1;omega
      go_wp2_with fail
      refine wp_region_held_drew (S:=fun w'=>Kp W0 w') (by kernel_rfl) ?_ (fun zH=>?_)
      ·exact kp_zero _
      refine uZ 0 ?_;simp only[pZ,zZ];refine uZ 1 ?_;simp only[pZ,zZ];refine uZ 2 ?_;simp only[pZ,zZ];refine tZ (i:=3) (v:=.bool false) rfl (.inl ⟨by rfl,?_⟩) zH ?_
      ·(intro w hSw;(try dsimp only at hSw);go_simp;skip)
      (try simp only[pZ,zZ]);refine uZ 4 ?_;simp only[pZ,zZ];refine uZ 5 ?_;simp only[pZ,zZ];refine uZ 6 ?_;simp only[pZ,zZ];refine tZ (i:=7) (v:=.int .i64 (u.dr-1)) rfl (.inl ⟨by rfl,?_⟩) zH ?_
      ·(intro w hSw;(try dsimp only at hSw);go_simp;(try exact IntWalk.i64_in _ (by omega)))
      (try simp only[pZ,zZ]);refine uZ 8 ?_;simp only[pZ,zZ];refine uZ 9 ?_;simp only[pZ,zZ];refine uZ 10 ?_;simp only[pZ,zZ];refine uZ 11 ?_;simp only[pZ,zZ];refine sZ 12 fun K hK=>?_;go_simp
      (refine (contains_any _ _ _ _ u _ (hus.below zH.1)).mono ?_;rw [hq.out];rintro e wc ⟨rfl,hbw⟩;go_wp2_with fail)
      refine hK.out _ _ ?_ (fun zH2=>?_)
      ·exact kp_step zH hbw
      clear hK K zH;have zH:=zH2;clear zH2;(try simp only[pZ,zZ]);refine uZ 13 ?_;simp only[pZ,zZ];refine uZ 14 ?_;simp only[pZ,zZ];refine dZ ?_;have hB4:=hB3.trans (zH.1.mono hB3.size);have B4:=hB.trans (hB4.mono hB.size);clear zH
      cases q with
      | true =>
       have HA:Hid (∀ i,i<j+1→M1.ownB rs n (M1.up l i)=true):=fun i hi=>by
        by_cases e:i=j
        ·rw [e,hu.out];unfold M1.ownB;rw [hE.out,hq.out,decide_eq_true hd];rfl
        ·exact hown.out i (by omega)
       go_wp2_with fail
       exact ⟨⟨j+1,by omega,by go_num,hB4,HA⟩,by simp [intOf];omega⟩
      | false =>
       have HN:Hid (M1.wAll rs n=none):=M1.wAll_3 HU.out (M1.ownsB_no (i:=j) (by rw [hll.out];exact hlt2) (by rw [hu.out];unfold M1.ownB;rw [hE.out,hq.out];simp));go_wp2_with fail
       refine bodyPost_ret (v:=.tuple #[.map none,.bool false]) (by simp [results,Tryz.results24,go_sem]) rfl ⟨by rw [HN.out];rfl,B4⟩
     ·have hgt:(n:Int)<u.dr:=by omega
      have HN:Hid (M1.wAll rs n=none):=M1.wAll_3 HU.out (M1.ownsB_no (i:=j) (by rw [hll.out];exact hlt2) (by rw [hu.out];unfold M1.ownB;rw [decide_eq_false hd];rfl));go_wp2_with fail
      refine wp_region_held_drew (S:=fun w'=>Kp W0 w') (by kernel_rfl) ?_ (fun zH=>?_)
      ·exact kp_zero _
      refine uZ 0 ?_;simp only[pZ,zZ];refine uZ 1 ?_;simp only[pZ,zZ];refine uZ 2 ?_;simp only[pZ,zZ];refine tZ (i:=3) (v:=.bool true) rfl (.inl ⟨by rfl,?_⟩) zH ?_
      ·(intro w hSw;(try dsimp only at hSw);go_simp;skip)
      (try simp only[pZ,zZ]);refine uZ 4 ?_;simp only[pZ,zZ];refine vZ 5 ?_;simp only[pZ,zZ];refine vZ 6 ?_;simp only[pZ,zZ];refine vZ 7 ?_;simp only[pZ,zZ];refine vZ 8 ?_;simp only[pZ,zZ];refine vZ 9 ?_;simp only[pZ,zZ];refine vZ 10 ?_;simp only[pZ,zZ];refine vZ 11 ?_;simp only[pZ,zZ];refine vZ 12 ?_;simp only[pZ,zZ];refine vZ 13 ?_;simp only[pZ,zZ];refine uZ 14 ?_;simp only[pZ,zZ];refine dZ ?_;have B4:=B3.trans (zH.1.mono B3.size);clear zH;go_wp2_with fail
      refine bodyPost_ret (v:=.tuple #[.map none,.bool false]) (by simp [results,Tryz.results24,go_sem]) rfl ⟨by rw [HN.out];rfl,B4⟩
    ·have hjm:Hid (j=m):=by show j=m;omega
     have HO:Hid (M1.wAll rs n=some l):=M1.wAll_0 HR.out HU.out (M1.ownsB_yes fun i hi=>hown.out i (by rw [hll.out] at hi;have:=hjm.out;omega));have hap:Hid (M1.apart l):=M1.ok_apart (M1.setOk_all hs.out);go_wp2_with fail
     refine (setFrom_any _ _ _ l _ (hl.below hB2) hap).mono ?_;rintro e w5 ⟨⟨g,rfl,hg,hmap⟩,hb5⟩;have B5:=B2.trans (hb5.mono B2.size);have HG:w.heap.size≤g:=Nat.le_trans B2.size hg;go_wp2_with fail
     refine bodyPost_ret (v:=.tuple #[.map (some g),.bool true]) (by simp [results,Tryz.results24,go_sem]) rfl ⟨by rw [HO.out];exact ⟨g,rfl,HG,hmap⟩,B5⟩
end Go.Proofs.YtgcinolbkllkkaaGreat
