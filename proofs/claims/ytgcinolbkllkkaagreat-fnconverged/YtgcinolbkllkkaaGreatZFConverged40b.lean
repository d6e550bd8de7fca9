/-
  Texts of one proof, joined: Cv7.
-/
import Derived.Test.YtgcinolbkllkkaaGreatZFConverged35
import Derived.Test.YtgcinolbkllkkaaGreatZFConverged39
import Derived.Test.YtgcinolbkllkkaaGreatZFConverged40
set_option linter.unusedSimpArgs false
set_option linter.unusedVariables false
namespace M1
def rsN:List Rg:=[⟨1,0,0,1,[]⟩,⟨2,0,0,2,[]⟩,⟨3,0,0,3,[]⟩]
theorem wOk_new:wOk 0 rsN []=true:=by decide
end M1
namespace Go.Proofs.YtgcinolbkllkkaaGreat
open Go.ChangeShapes Go.WideShapes Go.ChangeAt Go.RowKit
structure WQ (w:World)(S:Nat→Prop)(gR gM:Nat)(f h:Nat→Value)(a:Option Addr)(n c:Nat)(a2:Option Addr)(n2 c2:Nat)(rs:List M1.Rg)(ms:List M1.Ml):Prop where
 ea:a=some ⟨gR,0,none⟩
 lR:¬S gR
 rR:RowAt w gR (n*5) f
 hn:rs.length=n
 p1:n≤c
 p2:c≤maxLen
 x:RgX w S (D0 f) f rs
 f0:F0 w 0 S f rs
 mM:n2=0∨(a2=some ⟨gM,0,none⟩∧¬S gM∧RowAt w gM (n2*5) h)
 hm:ms.length=n2
 p3:n2≤c2
 p4:c2≤maxLen
 m:MlX w S (D0 f) h ms
 d:∀ k,D0 f k→¬k=gR∧(n2=0∨¬k=gM)
theorem WQ.gs {w w':World}{S:Nat→Prop}{gR gM:Nat}{f h:Nat→Value}{a:Option Addr}{n c:Nat}{a2:Option Addr}{n2 c2:Nat}{rs:List M1.Rg}{ms:List M1.Ml}(q:WQ w S gR gM f h a n c a2 n2 c2 rs ms)(hg:Gs S w w'):WQ w' S gR gM f h a n c a2 n2 c2 rs ms :=
 ⟨q.ea,q.lR,q.rR.gs hg q.lR,q.hn,q.p1,q.p2,q.x.gs hg,q.f0.gs hg,q.mM.imp (fun e=>e) fun ⟨e,l,r⟩=>⟨e,l,r.gs hg l⟩,q.hm,q.p3,q.p4,q.m.gs hg,q.d⟩
theorem WQ.both {w:World}{S:Nat→Prop}{gR gM:Nat}{f h:Nat→Value}{a:Option Addr}{n c:Nat}{a2:Option Addr}{n2 c2:Nat}{rs:List M1.Rg}{ms:List M1.Ml}(q:WQ w S gR gM f h a n c a2 n2 c2 rs ms):IsRgs w a n c rs∧IsMls w a2 n2 c2 ms:=by
 refine ⟨?_,?_⟩
 ·rw [q.ea];exact isRgs_row q.rR q.x q.hn q.p1 q.p2
 ·rcases q.mM with e | ⟨e,_,r⟩
  ·exact ⟨q.hm,q.p3,q.p4,Or.inl e⟩
  ·rw [e];exact isMls_row r q.m q.hm q.p3 q.p4
theorem WC.wq {w:World}{lo:Nat}{a:Option Addr}{n c:Nat}{a2:Option Addr}{n2 c2:Nat}{xs ys:List Value}{rs:List M1.Rg}{ms:List M1.Ml}(h:WC w lo (.slice a n c) (.slice a2 n2 c2) xs ys rs ms)(hn0:0<n){S:Nat→Prop}(hS:∀ k,S k→k<lo):∃ gR gM,WQ w S gR gM (fx xs) (fx ys) a n c a2 n2 c2 rs ms:=by
 have hn:rs.length=n:=h.rgs.hlen;have hm:ms.length=n2:=h.mls.hlen;have o1:=h.r.own;have o2:=h.own;rw [hn] at o1;rw [hm] at o2;obtain ⟨av,cc,e1,p1,p2,_,p4⟩:=owns_slice o1;injection e1 with e1 _ e2;subst e1 e2;obtain ⟨av,cc,e1,r1,r2,_,r4⟩:=owns_slice o2;injection e1 with e1 _ e2;subst e1 e2;rcases p4 with ⟨_,e⟩ | ⟨gR,rfl,_,_,rowR⟩
 ·omega
 have hmv:∀ k,k<w.heap.size→S k→SB lo (.slice (some ⟨gR,0,none⟩) n c) (.slice a2 n2 c2) k:=fun k _ e=>Or.inl (hS k e);have hlR:¬S gR:=fun e=>by have:=hS _ e;have:=(h.r.own.lt gR rfl).1;omega
 have hF:F0 w 0 S (fx xs) rs:=fun h0=>by
  obtain ⟨v,k,cc,e,hl,mu,hp⟩:=h.r.f.move hmv h0;exact ⟨v,k,cc,e,hl,mu_wide mu (Nat.zero_le _),hp⟩
 have hd0:∀ k,D0 (fx xs) k→¬SB lo (.slice (some ⟨gR,0,none⟩) n c) (.slice a2 n2 c2) k:=fun k ⟨p,n',c',e,ek⟩ q=>by
  obtain ⟨v,k',cc,e',_,_,_,h4,_,ha⟩:=h.r.x 0 (by omega);have h4':fx xs 4=.slice v k' cc:=h4;rw [e] at h4';injection h4' with e5 _ _;exact (ha p e5.symm).2.1 (by rw [ek];exact q)
 rcases r4 with ⟨e,e0⟩ | ⟨gM,rfl,_,_,rowM⟩
 ·exact ⟨gR,0,rfl,hlR,rowR,hn,p1,p2,h.r.x.move hmv (fun _ _ e=>e),hF,Or.inl e0,hm,r1,r2,h.x.move hmv (fun _ _ e=>e),fun k e=>⟨fun z=>hd0 k e (Or.inr (Or.inl (by rw [z];rfl))),Or.inl e0⟩⟩
 ·exact ⟨gR,gM,rfl,hlR,rowR,hn,p1,p2,h.r.x.move hmv (fun _ _ e=>e),hF,Or.inr ⟨rfl,fun e=>by have:=hS _ e;have:=(h.own.lt gM rfl).1;omega,rowM⟩,hm,r1,r2,h.x.move hmv (fun _ _ e=>e),fun k e=>⟨fun z=>hd0 k e (Or.inr (Or.inl (by rw [z];rfl))),Or.inr fun z=>hd0 k e (Or.inr (Or.inr (by rw [z];rfl)))⟩⟩
theorem new_wq {w:World}{av:Option Addr}{cap lo hi:Nat}(h:MG w av 3 cap lo hi rcell){S:Nat→Prop}(hS:∀ k,lo≤k→k<hi→¬S k):∃ gR,WQ w S gR 0 rcell rcell av 3 cap none 0 0 M1.rsN []:=by
 rcases h.2.2 with ⟨e,_⟩ | ⟨g,rfl,h1,h2,r⟩
 ·omega
 have hx:RgX w S (D0 rcell) rcell M1.rsN:=fun i hi=>by
  have hi3:i<3:=hi;refine ⟨none,0,0,?_,?_,?_,?_,rcell4 i,?_,fun p e=>by cases e⟩
  ·rw [rcell0];match i,hi3 with
   | 0,_=>rfl
   | 1,_=>rfl
   | 2,_=>rfl
  ·rw [rcell1];match i,hi3 with
   | 0,_=>rfl
   | 1,_=>rfl
   | 2,_=>rfl
  ·rw [rcell2];match i,hi3 with
   | 0,_=>rfl
   | 1,_=>rfl
   | 2,_=>rfl
  ·rw [rcell3];match i,hi3 with
   | 0,_=>rfl
   | 1,_=>rfl
   | 2,_=>rfl
  ·have e:(M1.rgA M1.rsN i).us=[]:=by
    match i,hi3 with
    | 0,_=>rfl
    | 1,_=>rfl
    | 2,_=>rfl
   rw [e];exact noUpds0 w
 refine ⟨g,rfl,hS g h1 h2,r,rfl,h.1,h.2.1,hx,fun _=>⟨none,0,0,rcell4 0,rfl,⟨Nat.le_refl _,Nat.zero_le _,Or.inl ⟨rfl,rfl⟩⟩,fun p e=>by cases e⟩,Or.inl rfl,rfl,Nat.le_refl _,Nat.zero_le _,fun i hi=>absurd hi (Nat.not_lt_zero _),fun k ⟨p,n',c',e,_⟩=>?_⟩;have:rcell 4=.slice none 0 0:=rcell4 0;rw [this] at e;cases e
theorem gs_gr {S:Nat→Prop}{g:Nat}{w w':World}(h:Gr g w w')(hS:S g):Gs S w w':=gs_grown (gs_refl _ _) h fun k e=>Or.inl (by injection e with e;rw [←e];exact hS)
theorem WQ.trace {w:World}{S:Nat→Prop}{gR gM:Nat}{f h:Nat→Value}{a:Option Addr}{n c:Nat}{a2:Option Addr}{n2 c2:Nat}{rs:List M1.Rg}{ms:List M1.Ml}(q:WQ w S gR gM f h a n c a2 n2 c2 rs ms)(h0:0<rs.length){d m cc:Nat}(h4:f 4=.slice (some ⟨d,0,none⟩) m cc)(hm:0<m)(v:Int)(ht:∀ i,i<m→(M1.up (M1.rgA rs 0).us i).s.size≤maxLen):∃ rs':List M1.Rg,∀ wz,Gs S (w.setCell ⟨d,6,none⟩ (.int .i64 v)) wz→IsRgs wz a n c rs'∧IsMls wz a2 n2 c2 ms:=by
 obtain ⟨v0,k0,c0,e4,hl,mu,hp⟩:=q.f0 h0;rw [h4] at e4;injection e4 with e5 e6 e7;subst e5 e6 e7;have hD:D0 f d:=⟨_,_,_,h4,rfl⟩
 rcases mu.2.2 with ⟨e,_⟩ | ⟨d',e,_,_,row⟩
 ·omega
 injection e with e;injection e with e _ _;subst e;obtain ⟨u,us,hus⟩:∃ u us,(M1.rgA rs 0).us=u :: us:=by
  cases e:(M1.rgA rs 0).us with
  | nil=>rw [e] at hl;simp at hl;omega
  | cons u us=>exact ⟨u,us,rfl⟩
 have hdS:¬S d:=hp _ rfl;refine ⟨rs.set 0 ⟨(M1.rgA rs 0).id,(M1.rgA rs 0).a,(M1.rgA rs 0).b,(M1.rgA rs 0).c,⟨u.dr,u.dn,u.sw,u.sc,u.sr,u.k,v,u.id,u.pa,u.s,u.st,u.en,u.lv⟩ :: us⟩,fun wz hz=>?_⟩;have hGd:Gs (fun k=>k=d) w (w.setCell ⟨d,6,none⟩ (.int .i64 v)):=gs_one (gs_refl _ _) _ _;have hG:Gs (fun k=>S k∨k=d) w wz:=gs_trans (gs_mono hGd fun k e=>Or.inr e) (gs_mono hz fun k e=>Or.inl e);have row1:RowAt (w.setCell ⟨d,6,none⟩ (.int .i64 v)) d (m*13) (ucell (⟨u.dr,u.dn,u.sw,u.sc,u.sr,u.k,v,u.id,u.pa,u.s,u.st,u.en,u.lv⟩ :: us)):=(row.set (o:=6) (by omega) (.int .i64 v)).same fun o ho=>by
  rw [hus];by_cases e:o<13
  ·match o,e with
   | 0,_=>rfl
   | 1,_=>rfl
   | 2,_=>rfl
   | 3,_=>rfl
   | 4,_=>rfl
   | 5,_=>rfl
   | 6,_=>rfl
   | 7,_=>rfl
   | 8,_=>rfl
   | 9,_=>rfl
   | 10,_=>rfl
   | 11,_=>rfl
   | 12,_=>rfl
  ·rw [if_neg (by omega)]
   unfold ucell;have:∃ k,o / 13=k+1:=⟨o / 13-1,by omega⟩
   obtain ⟨k,hk⟩:=this;rw [hk]
   rfl
 have hU:IsUpds wz (some ⟨d,0,none⟩) m cc (⟨u.dr,u.dn,u.sw,u.sc,u.sr,u.k,v,u.id,u.pa,u.s,u.st,u.en,u.lv⟩ :: us):=by
  have mz:MU wz (some ⟨d,0,none⟩) m cc 0 wz.heap.size (ucell (⟨u.dr,u.dn,u.sw,u.sc,u.sr,u.k,v,u.id,u.pa,u.s,u.st,u.en,u.lv⟩ :: us)):=⟨mu.1,mu.2.1,Or.inr ⟨d,rfl,Nat.zero_le _,(row1.gs hz hdS).lt,row1.gs hz hdS⟩⟩
  refine mz.upds (by rw [←hl,hus];rfl) fun i hi=>?_;have:=ht i hi;rw [hus] at this
  match i with
  | 0=>exact this
  | i+1=>exact this
 have hx:RgX wz (fun _=>False) (fun _=>False) f (rs.set 0 ⟨(M1.rgA rs 0).id,(M1.rgA rs 0).a,(M1.rgA rs 0).b,(M1.rgA rs 0).c,⟨u.dr,u.dn,u.sw,u.sc,u.sr,u.k,v,u.id,u.pa,u.s,u.st,u.en,u.lv⟩ :: us⟩):=fun i hi=>by
  rw [List.length_set] at hi;obtain ⟨v',n',c',x0,x1,x2,x3,x4,hu',ha'⟩:=q.x i hi;by_cases e:i=0
  ·subst e
   rw [M1.rgA_set_same h0];exact ⟨some ⟨d,0,none⟩,m,cc,x0,x1,x2,x3,h4,hU,fun p e=>⟨by injection e with e;rw [←e];exact (row1.gs hz hdS).lt,fun z=>z,fun _ z=>z⟩⟩
  ·rw [M1.rgA_set_other (fun z=>e z.symm)]
   exact ⟨v',n',c',x0,x1,x2,x3,x4,hu'.gs hG (fun p z y=>by
    rcases y with y | y
    ·exact (ha' p z).2.1 y
    ·exact (ha' p z).2.2 e (by rw [y];exact hD)),fun p z=>⟨Nat.lt_of_lt_of_le (ha' p z).1 hG.size,fun y=>y,fun _ y=>y⟩⟩
 have hdd:=q.d d hD;refine ⟨?_,?_⟩
 ·rw [q.ea]
  exact isRgs_row (q.rR.gs hG (fun y=>by
   rcases y with y | y
   ·exact q.lR y
   ·exact hdd.1 y.symm)) hx (by rw [List.length_set];exact q.hn) q.p1 q.p2
 ·by_cases hz2:n2=0
  ·exact ⟨q.hm,q.p3,q.p4,Or.inl hz2⟩
  rcases q.mM with e | ⟨e,l,r⟩
  ·exact absurd e hz2
  ·rw [e]
   refine isMls_row (S:=fun _=>False) (D:=fun _=>False) (r.gs hG (fun y=>?_)) (fun i hi=>?_) q.hm q.p3 q.p4
   ·rcases y with y | y
    ·exact l y
    ·exact (hdd.2.resolve_left hz2) y.symm
   ·obtain ⟨v',n',c',v2',n2',c2',x0,x1,x2,x3,x4,hv',hu',ha',hb'⟩:=q.m i hi
    exact ⟨v',n',c',v2',n2',c2',x0,x1,x2,x3,x4,hv'.gs hG (fun p z y=>by
     rcases y with y | y
     ·exact (ha' p z).2.1 y
     ·exact (ha' p z).2.2 (by rw [y];exact hD)),hu'.gs hG (fun p z y=>by
     rcases y with y | y
     ·exact (hb' p z).2.1 y
     ·exact (hb' p z).2.2 (by rw [y];exact hD)),fun p z=>⟨Nat.lt_of_lt_of_le (ha' p z).1 hG.size,fun y=>y,fun y=>y⟩,fun p z=>⟨Nat.lt_of_lt_of_le (hb' p z).1 hG.size,fun y=>y,fun y=>y⟩⟩
end Go.Proofs.YtgcinolbkllkkaaGreat
