/-
  Texts of one proof, joined: Cv2.
-/
import Derived.Test.YtgcinolbkllkkaaGreatZFConverged11
import Derived.Test.YtgcinolbkllkkaaGreatZFConverged19
set_option linter.unusedSimpArgs false
set_option linter.unusedVariables false
namespace Go.Proofs.YtgcinolbkllkkaaGreat
open Go.ChangeShapes Go.WideShapes Go.ChangeAt Go.RowKit
def OB (rv mv:Value)(k:Nat):Prop:=rv.ownBlock=some k∨mv.ownBlock=some k
def SB (lo:Nat)(rv mv:Value)(k:Nat):Prop:=k<lo∨OB rv mv k
def D0 (f:Nat→Value)(k:Nat):Prop:=∃ p n c,f 4=.slice (some p) n c∧p.block=k
theorem MU.gs {S:Nat→Prop}{w w':World}{av:Option Addr}{n cap lo hi hi':Nat}{f:Nat→Value}(h:MU w av n cap lo hi f)(hg:Gs S w w')(hn:∀ p,av=some p→¬S p.block)(hh:hi≤hi'):MU w' av n cap lo hi' f :=
 ⟨h.1,h.2.1,h.2.2.imp id fun ⟨k,e,h1,h2,r⟩=>⟨k,e,h1,by omega,r.gs hg (hn _ e)⟩⟩
def F0 (w:World)(lo:Nat)(S:Nat→Prop)(f:Nat→Value)(rs:List M1.Rg):Prop:=0<rs.length→∃ (v:Option Addr) (n c:Nat),f 4=.slice v n c∧(M1.rgA rs 0).us.length=n∧MU w v n c lo w.heap.size (ucell (M1.rgA rs 0).us)∧∀ p,v=some p→¬S p.block
theorem F0.gs {w w':World}{lo:Nat}{S:Nat→Prop}{f:Nat→Value}{rs:List M1.Rg}(h:F0 w lo S f rs)(hg:Gs S w w'):F0 w' lo S f rs:=fun h0=>by
 obtain ⟨v,n,c,e,hl,m,hn⟩:=h h0;exact ⟨v,n,c,e,hl,m.gs hg hn hg.size,hn⟩
theorem F0.move {w:World}{lo:Nat}{S S':Nat→Prop}{f:Nat→Value}{rs:List M1.Rg}(h:F0 w lo S f rs)(hS:∀ k,k<w.heap.size→S' k→S k):F0 w lo S' f rs:=fun h0=>by
 obtain ⟨v,n,c,e,hl,m,hn⟩:=h h0;refine ⟨v,n,c,e,hl,m,fun p hp q=>hn p hp (hS _ ?_ q)⟩;rcases m.2.2 with ⟨_,e2⟩ | ⟨k,e2,_,h2,_⟩
 ·rw [hp] at e2;cases e2
 ·rw [hp] at e2;cases e2;exact h2
theorem F0.turn {w w':World}{lo:Nat}{S S':Nat→Prop}{f:Nat→Value}{rs:List M1.Rg}(h:F0 w lo S f rs)(hg:Gs S w w')(hS:∀ k,k<w.heap.size→S' k→S k):F0 w' lo S' f rs:=fun h0=>by
 obtain ⟨v,n,c,e,hl,m,hn⟩:=h h0;refine ⟨v,n,c,e,hl,m.gs hg hn hg.size,fun p hp q=>hn p hp (hS _ ?_ q)⟩;rcases m.2.2 with ⟨_,e2⟩ | ⟨k,e2,_,h2,_⟩
 ·rw [hp] at e2;cases e2
 ·rw [hp] at e2;cases e2;exact h2
theorem mu_wide {w:World}{av:Option Addr}{n cap lo lo' hi:Nat}{f:Nat→Value}(h:MU w av n cap lo hi f)(hl:lo'≤lo):MU w av n cap lo' hi f :=
 ⟨h.1,h.2.1,h.2.2.imp (fun h=>h) fun ⟨g,e,h1,h2,r⟩=>⟨g,e,by omega,h2,r⟩⟩
theorem mu_upto {w:World}{av:Option Addr}{n cap lo hi hi':Nat}{f:Nat→Value}(h:MU w av n cap lo hi f)(hl:hi≤hi'):MU w av n cap lo hi' f :=
 ⟨h.1,h.2.1,h.2.2.imp (fun h=>h) fun ⟨g,e,h1,h2,r⟩=>⟨g,e,h1,by omega,r⟩⟩
structure WR (w:World)(lo:Nat)(rv mv:Value)(xs:List Value)(rs:List M1.Rg):Prop where
 own:w.ownsRow lo 34 5 rv rs.length xs
 x:RgX w (SB lo rv mv) (D0 (fx xs)) (fx xs) rs
 f:F0 w lo (SB lo rv mv) (fx xs) rs
theorem WR.nil (w:World)(lo:Nat)(mv:Value):WR w lo (.slice none 0 0) mv [] []:=⟨World.ownsRow_nil _ _ _ _,RgX.nil _ _ _ _,fun h=>absurd h (Nat.lt_irrefl _)⟩
theorem WR.gs {w w':World}{lo:Nat}{rv mv:Value}{xs:List Value}{rs:List M1.Rg}(h:WR w lo rv mv xs rs)(hg:Gs (SB lo rv mv) w w')(hn:∀ k,rv.ownBlock=some k→w'.heap[k]?=w.heap[k]?):WR w' lo rv mv xs rs:=by
 refine ⟨⟨h.own.1,h.own.2.imp id fun ⟨k,cap,cur,hv,hk,hh,r⟩=>⟨k,cap,cur,hv,hk,?_,r⟩⟩,h.x.gs hg,h.f.gs hg⟩;rw [hn k (by rw [hv];rfl)];exact hh
theorem WR.below {w w':World}{lo:Nat}{rv mv:Value}{xs:List Value}{rs:List M1.Rg}(h:WR w lo rv mv xs rs)(hb:Below w.heap.size w w'):WR w' lo rv mv xs rs :=
 h.gs (gs_below hb) fun k hk=>hb.block k (h.own.lt k hk).2
theorem WR.set {w:World}{lo:Nat}{rv mv:Value}{xs:List Value}{rs:List M1.Rg}(h:WR w lo rv mv xs rs){p:Addr}(hp:p.block<lo)(v:Value):WR (w.setCell p v) lo rv mv xs rs :=
 h.gs (gs_set (gs_refl _ _) p (Or.inl (Or.inl hp)) v) fun k hk=>Below.heap_setCell _ _ _ _ (by have:=(h.own.lt k hk).1;omega)
theorem d0_app {xs ys:List Value}(h:5≤xs.length):D0 (fx (xs ++ ys))=D0 (fx xs):=by
 unfold D0;rw [fx_app (by omega)]
theorem WR.push {w w':World}{lo:Nat}{v:Option Addr}{k c:Nat}{xs:List Value}{rs:List M1.Rg}(hk:rs.length=k)(h:WR w lo (.slice v k c) (.slice none 0 0) xs rs)(r:M1.Rg)(v2:Option Addr)(n c2 lo2:Nat)(mu:MU w v2 n c2 lo2 w.heap.size (ucell r.us))(hl:r.us.length=n)(hlo:lo≤lo2)(ht:∀ i,i<n→(M1.up r.us i).s.size≤maxLen)(hbl:∀ b,(Value.slice v k c).ownBlock=some b→b<lo2)(hx:∀ b,D0 (fx xs) b→0<k→b<lo2){g cap:Nat}
  (own':w'.ownsRow lo 34 5 (.slice (some ⟨g,0,none⟩) (k+1) cap) (k+1) (xs ++ [.int .i64 r.id,.int .i64 r.a,.int .i64 r.b,.int .i64 r.c,.slice v2 n c2])) (hg:w.grownBy w' (Value.slice v k c).ownBlock) (hat:(Value.slice v k c).ownBlock=some g∨g=w.heap.size) :
  WR w' lo (.slice (some ⟨g,0,none⟩) (k+1) cap) (.slice none 0 0) (xs ++ [.int .i64 r.id,.int .i64 r.a,.int .i64 r.b,.int .i64 r.c,.slice v2 n c2]) (rs ++ [r]):=by
 subst hk;have hG:Gs (SB lo (.slice v rs.length c) (.slice none 0 0)) w w':=gs_grown (gs_refl _ _) hg fun b e=>Or.inl (Or.inr (Or.inl e));have hlen:=h.own.1;have mlt:∀ p,v2=some p→lo2≤p.block∧p.block<w.heap.size:=fun p e=>by
  rcases mu.2.2 with ⟨_,e2⟩ | ⟨q,e2,h1,h2,_⟩
  ·rw [e] at e2;cases e2
  ·rw [e] at e2;cases e2;exact ⟨h1,h2⟩
 have ap2:∀ p,v2=some p→¬SB lo (.slice v rs.length c) (.slice none 0 0) p.block:=fun p e q=>by
  have:=(mlt p e).1;rcases q with q | q | q
  ·omega
  ·have:=hbl _ q;omega
  ·cases q
 have hS:∀ b,b<w.heap.size→SB lo (.slice (some ⟨g,0,none⟩) (rs.length+1) cap) (.slice none 0 0) b→SB lo (.slice v rs.length c) (.slice none 0 0) b:=fun b hb e=>by
  rcases e with e | e | e
  ·exact Or.inl e
  ·have e2:g=b:=by simpa [Value.ownBlock] using e
   subst e2;rcases hat with h1 | h1
   ·exact Or.inr (Or.inl h1)
   ·omega
  ·exact Or.inr (Or.inr e)
 have hu:IsUpds w v2 n c2 r.us:=mu.upds hl ht;have hX:RgX w (SB lo (.slice v rs.length c) (.slice none 0 0)) (D0 (fx (xs ++ [.int .i64 r.id,.int .i64 r.a,.int .i64 r.b,.int .i64 r.c,.slice v2 n c2]))) (fx (xs ++ [.int .i64 r.id,.int .i64 r.a,.int .i64 r.b,.int .i64 r.c,.slice v2 n c2])) (rs ++ [r]):=by
  by_cases h0:rs.length=0
  ·have:=List.eq_nil_of_length_eq_zero h0
   subst this;exact (RgX.nil w _ _ (fx xs)).snoc hlen r v2 n c2 hu fun p e=>⟨(mlt p e).2,ap2 p e,fun z=>absurd rfl z⟩
  ·rw [d0_app (by omega)]
   exact h.x.snoc hlen r v2 n c2 hu fun p e=>⟨(mlt p e).2,ap2 p e,fun _ q=>by have:=hx _ q (by omega);have:=(mlt p e).1;omega⟩
 have hF:F0 w lo (SB lo (.slice v rs.length c) (.slice none 0 0)) (fx (xs ++ [.int .i64 r.id,.int .i64 r.a,.int .i64 r.b,.int .i64 r.c,.slice v2 n c2])) (rs ++ [r]):=fun _=>by
  by_cases h0:rs.length=0
  ·have:=List.eq_nil_of_length_eq_zero h0
   subst this;have hx0:xs=[]:=List.eq_nil_of_length_eq_zero (by simpa using hlen);subst hx0;exact ⟨v2,n,c2,rfl,hl,mu_wide mu hlo,ap2⟩
  ·rw [fx_app (by omega),M1.rgA_app (by omega)]
   exact h.f (by omega)
 refine ⟨by rw [List.length_append];exact own',hX.turn hG hS,hF.turn hG hS⟩
theorem d0_lt {w:World}{S D:Nat→Prop}{f:Nat→Value}{rs:List M1.Rg}(h:RgX w S D f rs)(h0:0<rs.length){b:Nat}(hb:D0 f b):b<w.heap.size:=by
 obtain ⟨p,n,c,e,rfl⟩:=hb;obtain ⟨v,n',c',_,_,_,_,h4,_,ha⟩:=h 0 h0;have h4':f 4=.slice v n' c':=h4;rw [e] at h4';injection h4' with e1 _ _;exact (ha p e1.symm).1
abbrev Kx (lo:Nat)(W w':World):Prop:=Below lo W w'∧(∀ b o,b<lo→w'.cell? ⟨b,o,none⟩=W.cell? ⟨b,o,none⟩)
theorem kx_of {lo:Nat}{W w':World}(h:Below lo W w'):Kx lo W w':=⟨h,fun b o hb=>h.cell (p:=⟨b,o,none⟩) hb⟩
theorem kx_step {lo:Nat}{W w1 w2:World}(h:Kx lo W w1)(hb:Below w1.heap.size w1 w2)(hl:lo≤w1.heap.size):Kx lo W w2:=kx_of (h.1.trans (hb.mono hl))
structure WC (w:World)(lo:Nat)(rv mv:Value)(xs ys:List Value)(rs:List M1.Rg)(ms:List M1.Ml):Prop where
 r:WR w lo rv mv xs rs
 own:w.ownsRow lo 62 5 mv ms.length ys
 x:MlX w (SB lo rv mv) (D0 (fx xs)) (fx ys) ms
 ap:∀ k,rv.ownBlock=some k→¬mv.ownBlock=some k
theorem WC.gs {w w':World}{lo:Nat}{rv mv:Value}{xs ys:List Value}{rs:List M1.Rg}{ms:List M1.Ml}(h:WC w lo rv mv xs ys rs ms)(hg:Gs (SB lo rv mv) w w')(hn:∀ k,OB rv mv k→w'.heap[k]?=w.heap[k]?):WC w' lo rv mv xs ys rs ms:=by
 refine ⟨h.r.gs hg fun k hk=>hn k (Or.inl hk),⟨h.own.1,h.own.2.imp id fun ⟨k,cap,cur,hv,hk,hh,r⟩=>⟨k,cap,cur,hv,hk,?_,r⟩⟩,h.x.gs hg,h.ap⟩;rw [hn k (Or.inr (by rw [hv];rfl))];exact hh
theorem WC.lt {w:World}{lo:Nat}{rv mv:Value}{xs ys:List Value}{rs:List M1.Rg}{ms:List M1.Ml}(h:WC w lo rv mv xs ys rs ms){k:Nat}(hk:OB rv mv k):lo≤k∧k<w.heap.size:=by
 rcases hk with e | e
 ·exact h.r.own.lt k e
 ·exact h.own.lt k e
theorem WC.below {w w':World}{lo:Nat}{rv mv:Value}{xs ys:List Value}{rs:List M1.Rg}{ms:List M1.Ml}(h:WC w lo rv mv xs ys rs ms)(hb:Below w.heap.size w w'):WC w' lo rv mv xs ys rs ms :=
 h.gs (gs_below hb) fun k hk=>hb.block k (h.lt hk).2
theorem WC.set {w:World}{lo:Nat}{rv mv:Value}{xs ys:List Value}{rs:List M1.Rg}{ms:List M1.Ml}(h:WC w lo rv mv xs ys rs ms){p:Addr}(hp:p.block<lo)(v:Value):WC (w.setCell p v) lo rv mv xs ys rs ms :=
 h.gs (gs_set (gs_refl _ _) p (Or.inl (Or.inl hp)) v) fun k hk=>Below.heap_setCell _ _ _ _ (by have:=(h.lt hk).1;omega)
theorem WC.rgs {w:World}{lo:Nat}{a:Option Addr}{n c:Nat}{mv:Value}{xs ys:List Value}{rs:List M1.Rg}{ms:List M1.Ml}(h:WC w lo (.slice a n c) mv xs ys rs ms):IsRgs w a n c rs:=by
 obtain ⟨av,c',e,_⟩:=owns_slice h.r.own;injection e with e1 e2 e3;have hn:rs.length=n:=by omega
 have o:=h.r.own;rw [hn] at o;exact isRgs_own o h.r.x hn
theorem WC.mls {w:World}{lo:Nat}{a:Option Addr}{n c:Nat}{rv:Value}{xs ys:List Value}{rs:List M1.Rg}{ms:List M1.Ml}(h:WC w lo rv (.slice a n c) xs ys rs ms):IsMls w a n c ms:=by
 obtain ⟨av,c',e,_⟩:=owns_slice h.own;injection e with e1 e2 e3;have hn:ms.length=n:=by omega
 have o:=h.own;rw [hn] at o;exact isMls_own o h.x hn
theorem WC.fresh {w:World}{lo:Nat}{rv mv:Value}{xs ys:List Value}{rs:List M1.Rg}{ms:List M1.Ml}(h:WC w lo rv mv xs ys rs ms)(hl:lo≤w.heap.size){b:Nat}(hb:w.heap.size≤b):¬SB lo rv mv b∧¬D0 (fx xs) b:=by
 refine ⟨fun q=>?_,fun q=>?_⟩
 ·rcases q with q | q
  ·omega
  ·have:=(h.lt q).2;omega
 ·by_cases h0:rs.length=0
  ·have hx:xs=[]:=List.eq_nil_of_length_eq_zero (by rw [h.r.own.1,h0])
   subst hx;obtain ⟨p,n,c,e,_⟩:=q;cases e
  ·have:=d0_lt h.r.x (by omega) q;omega
theorem WC.lower {w:World}{lo lo':Nat}{rv mv:Value}{xs ys:List Value}{rs:List M1.Rg}{ms:List M1.Ml}(h:WC w lo rv mv xs ys rs ms)(hl:lo'≤lo):WC w lo' rv mv xs ys rs ms:=by
 have lw:∀ {e:TypeId} {n:Nat} {v:Value} {zs:List Value},w.ownsRow lo e 5 v n zs→w.ownsRow lo' e 5 v n zs:=fun q=>⟨q.1,q.2.imp id fun ⟨g,cap,cur,hv,hg,r⟩=>⟨g,cap,cur,hv,by omega,r⟩⟩;have hS:∀ k,k<w.heap.size→SB lo' rv mv k→SB lo rv mv k:=fun k _ q=>by
  rcases q with q | q
  ·exact Or.inl (by omega)
  ·exact Or.inr q
 refine ⟨⟨lw h.r.own,h.r.x.move hS (fun _ _ q=>q),fun h0=>?_⟩,lw h.own,h.x.move hS (fun _ _ q=>q),h.ap⟩;obtain ⟨v,n,c,e,hl2,m,hn⟩:=h.r.f.move hS h0;exact ⟨v,n,c,e,hl2,mu_wide m hl,hn⟩
theorem gs_one {q:Nat}{a b:World}(h:Gs (fun k=>k=q) a b)(o:Nat)(v:Value):Gs (fun k=>k=q) a (b.setCell ⟨q,o,none⟩ v):=gs_set h ⟨q,o,none⟩ (Or.inl rfl) v
theorem ownsD0 (w:World)(e:TypeId):(w.alloc (.cells #[] e)).ownsRow w.heap.size e 2 (.slice (some ⟨w.heap.size,0,none⟩) 0 0) 0 (dcs []):=by
 refine ⟨rfl,Or.inr ⟨w.heap.size,0,#[],rfl,Nat.le_refl _,?_,Nat.le_refl _,by unfold maxLen;omega,rfl,rfl⟩⟩;show (w.heap.push (.cells #[] e))[w.heap.size]?=_
 simp
theorem owns_at {w:World}{base:Nat}{e:TypeId}{size n c:Nat}{a:Option Addr}{xs:List Value}(h:w.ownsRow base e size (.slice a n c) n xs):∀ p,a=some p→base≤p.block∧p.block<w.heap.size:=fun p e=>h.lt p.block (by rw [e];rfl)
theorem owns_dots {w:World}{base:Nat}{e:TypeId}{n c:Nat}{a:Option Addr}{ds:List (Int × Int)}(hl:ds.length=n)(h:w.ownsRow base e 2 (.slice a n c) n (dcs ds)):IsVec w a n c ds:=by
 rw [←hl] at h;obtain ⟨av,cap,e1,m⟩:=MV.of_owns h;injection e1 with e1 _ e2;subst e1 e2;rw [←hl];exact m.vec rfl
theorem owns_upds {w:World}{base:Nat}{e:TypeId}{n c:Nat}{a:Option Addr}{us:List M1.Upd}(hl:us.length=n)(ht:∀ i,i<n→(M1.up us i).s.size≤maxLen)(h:w.ownsRow base e 13 (.slice a n c) n (ucL us)):IsUpds w a n c us:=by
 rw [←hl] at h;obtain ⟨av,cap,e1,m⟩:=MU.of_owns h;injection e1 with e1 _ e2;subst e1 e2;rw [←hl] at ht ⊢;exact m.upds rfl ht
theorem WC.push {w w':World}{lo:Nat}{rv:Value}{v:Option Addr}{k c:Nat}{xs ys:List Value}{rs:List M1.Rg}{ms:List M1.Ml}(hk:ms.length=k)(h:WC w lo rv (.slice v k c) xs ys rs ms)(m:M1.Ml)(v1:Option Addr)(n1 c1:Nat)(v2:Option Addr)(n2 c2:Nat)(hv:IsVec w v1 n1 c1 m.vec)(hu:IsUpds w v2 n2 c2 m.del)(h1:∀ p,v1=some p→p.block<w.heap.size∧¬SB lo rv (.slice v k c) p.block∧¬D0 (fx xs) p.block)(h2:∀ p,v2=some p→p.block<w.heap.size∧¬SB lo rv (.slice v k c) p.block∧¬D0 (fx xs) p.block){g cap:Nat}
  (own':w'.ownsRow lo 62 5 (.slice (some ⟨g,0,none⟩) (k+1) cap) (k+1) (ys ++ [.int .i64 m.fr,.int .i64 m.tt,.bool m.ask,.slice v1 n1 c1,.slice v2 n2 c2])) (hg:w.grownBy w' (Value.slice v k c).ownBlock) (hat:(Value.slice v k c).ownBlock=some g∨g=w.heap.size) :
  WC w' lo rv (.slice (some ⟨g,0,none⟩) (k+1) cap) xs (ys ++ [.int .i64 m.fr,.int .i64 m.tt,.bool m.ask,.slice v1 n1 c1,.slice v2 n2 c2]) rs (ms ++ [m]):=by
 subst hk;have hG:Gs (SB lo rv (.slice v ms.length c)) w w':=gs_grown (gs_refl _ _) hg fun b e=>Or.inl (Or.inr (Or.inr e));have hS:∀ b,b<w.heap.size→SB lo rv (.slice (some ⟨g,0,none⟩) (ms.length+1) cap) b→SB lo rv (.slice v ms.length c) b:=fun b hb e=>by
  rcases e with e | e | e
  ·exact Or.inl e
  ·exact Or.inr (Or.inl e)
  ·have e2:g=b:=by simpa [Value.ownBlock] using e
   subst e2;rcases hat with h1 | h1
   ·exact Or.inr (Or.inr h1)
   ·omega
 have hrl:∀ b,rv.ownBlock=some b→b<w.heap.size:=fun b e=>(h.r.own.lt b e).2;refine ⟨⟨?_,h.r.x.turn hG hS,h.r.f.turn hG hS⟩,by rw [List.length_append];exact own',(h.x.snoc h.own.1 m v1 n1 c1 v2 n2 c2 hv hu h1 h2).turn hG hS,fun b e e2=>?_⟩
 ·refine ⟨h.r.own.1,h.r.own.2.imp id fun ⟨q,cap,cur,hq,hk,hh,r⟩=>⟨q,cap,cur,hq,hk,?_,r⟩⟩
  have e:rv.ownBlock=some q:=by rw [hq];rfl
  rw [hg.block q (hrl q e) (fun z=>h.ap q e z.symm)];exact hh
 ·have e3:g=b:=by simpa [Value.ownBlock] using e2
  subst e3;rcases hat with h1 | h1
  ·exact h.ap _ e h1
  ·have:=hrl _ e;omega
set_option maxHeartbeats 32000000 in
set_option maxRecDepth 100000 in
theorem l6Copy_any (now:Int)(v:Option Addr)(n c:Nat)(rs:List M1.Rg)(v2:Option Addr)(n2 c2:Nat)(ms:List M1.Ml)(w:World)(hr:IsRgs w v n c rs)(hm:IsMls w v2 n2 c2 ms)(hn:n≤1000)(hn2:n2≤1000)(hus:Hid (∀ i,i<n→(M1.rgA rs i).us.length≤1000))(hms:Hid (∀ i,i<n2→(M1.mlA ms i).vec.length≤1000∧(M1.mlA ms i).del.length≤1000)) :
  Calls Tryz.prog 112 #[.agg #[.int .i64 now,.slice v n c,.slice v2 n2 c2]] w fun e w'=>(∃ a c3 a2 c4 xs ys,e=.returned (.agg #[.int .i64 now,.slice a n c3,.slice a2 n2 c4])∧WC w' w.heap.size (.slice a n c3) (.slice a2 n2 c4) xs ys rs ms)∧Below w.heap.size w w':=by
 have hl1:Hid (rs.length=n):=hr.hlen;have hl2:Hid (ms.length=n2):=hm.hlen;have hA:Below w.heap.size w (((w.alloc (.cells #[.int .i64 now,.slice v n c,.slice v2 n2 c2] 27)).alloc (.cells #[.int .i64 0,.slice none 0 0,.slice none 0 0] 27)).alloc (.cells #[.int .i64 now,.slice none 0 0,.slice none 0 0] 27)):=(((Below.refl _ _).alloc (Nat.le_refl _) _).alloc (by simp) _).alloc (by simp <;> omega) _;have A0:R3 (((w.alloc (.cells #[.int .i64 now,.slice v n c,.slice v2 n2 c2] 27)).alloc (.cells #[.int .i64 0,.slice none 0 0,.slice none 0 0] 27)).alloc (.cells #[.int .i64 now,.slice none 0 0,.slice none 0 0] 27)) w.heap.size (.int .i64 now) (.slice v n c) (.slice v2 n2 c2):=((r3_new w (.int .i64 now) (.slice v n c) (.slice v2 n2 c2) 27).alloc _).alloc _;have Z0:R3 (((w.alloc (.cells #[.int .i64 now,.slice v n c,.slice v2 n2 c2] 27)).alloc (.cells #[.int .i64 0,.slice none 0 0,.slice none 0 0] 27)).alloc (.cells #[.int .i64 now,.slice none 0 0,.slice none 0 0] 27)) (w.alloc (.cells #[.int .i64 now,.slice v n c,.slice v2 n2 c2] 27)).heap.size (.int .i64 0) (.slice none 0 0) (.slice none 0 0):=(r3_new (w.alloc (.cells #[.int .i64 now,.slice v n c,.slice v2 n2 c2] 27)) (.int .i64 0) (.slice none 0 0) (.slice none 0 0) 27).alloc _;have Y0:R3 (((w.alloc (.cells #[.int .i64 now,.slice v n c,.slice v2 n2 c2] 27)).alloc (.cells #[.int .i64 0,.slice none 0 0,.slice none 0 0] 27)).alloc (.cells #[.int .i64 now,.slice none 0 0,.slice none 0 0] 27)) ((w.alloc (.cells #[.int .i64 now,.slice v n c,.slice v2 n2 c2] 27)).alloc (.cells #[.int .i64 0,.slice none 0 0,.slice none 0 0] 27)).heap.size (.int .i64 now) (.slice none 0 0) (.slice none 0 0):=r3_new ((w.alloc (.cells #[.int .i64 now,.slice v n c,.slice v2 n2 c2] 27)).alloc (.cells #[.int .i64 0,.slice none 0 0,.slice none 0 0] 27)) (.int .i64 now) (.slice none 0 0) (.slice none 0 0) 27;rw [show (w.alloc (.cells #[.int .i64 now,.slice v n c,.slice v2 n2 c2] 27)).heap.size=w.heap.size+1 by simp] at Z0;rw [show ((w.alloc (.cells #[.int .i64 now,.slice v n c,.slice v2 n2 c2] 27)).alloc (.cells #[.int .i64 0,.slice none 0 0,.slice none 0 0] 27)).heap.size=w.heap.size+1+1 by simp] at Y0;go_enter Tryz.func112,Tryz.ntmps112
 go_upto_region 2 with fail
 obtain ⟨w1,hw1⟩:∃ W,(((w.alloc (.cells #[.int .i64 now,.slice v n c,.slice v2 n2 c2] 27)).alloc (.cells #[.int .i64 0,.slice none 0 0,.slice none 0 0] 27)).alloc (.cells #[.int .i64 now,.slice none 0 0,.slice none 0 0] 27))=W:=⟨_,rfl⟩
 rw [hw1] at hA A0 Z0 Y0 ⊢;clear hw1;obtain ⟨p3,hp3⟩:∃ z,Hid (w.heap.size+1+1=z):=⟨_,rfl⟩
 obtain ⟨p2,hp2⟩:∃ z,Hid (w.heap.size+1=z):=⟨_,rfl⟩
 obtain ⟨p1,hp1⟩:∃ z,Hid (w.heap.size=z):=⟨_,rfl⟩
 rw [hp3.out] at Y0 ⊢;rw [hp2.out] at Z0 ⊢;rw [hp1.out] at A0 ⊢;have hp13:p1<p3:=by have:=hp1.out;have:=hp3.out;omega
 have hp23:p2<p3:=by have:=hp2.out;have:=hp3.out;omega
 have hp12:¬p1=p2:=by have:=hp2.out;have:=hp1.out;omega
 have hp1w:w.heap.size≤p1:=by have:=hp1.out;omega
 have hp2w:w.heap.size≤p2:=by have:=hp2.out;omega
 have hp3w:w.heap.size≤p3:=by have:=hp3.out;omega
 go_wp2_with fail
 go_loopw [4] (fun i wr=>∃ (k:Nat) (xv:Option Addr) (xc:Nat) (xs:List Value),k≤n∧i=.int .i64 k∧R3 wr p1 (.int .i64 now) (.slice v n c) (.slice v2 n2 c2)∧R3 wr p2 (.int .i64 0) (.slice none 0 0) (.slice none 0 0)∧R3 wr p3 (.int .i64 now) (.slice xv k xc) (.slice none 0 0)∧WR wr (p3+1) (.slice xv k xc) (.slice none 0 0) xs (rs.take k)∧Below w.heap.size w wr) (fun i _=>n-(intOf i).toNat)
 case atStart=>exact ⟨0,none,0,[],Nat.zero_le _,rfl,A0,Z0,Y0,WR.nil _ _ _,hA⟩
 case round =>
  clear hA A0 Z0 Y0;obtain ⟨k,xv,xc,xs,hk,rfl,P1,P2,P3,HW,hB⟩:=hrel;obtain ⟨d0,d1,d2⟩:=r3_cells P1;obtain ⟨e0,e1,e2⟩:=r3_cells P3;have pl1:=P1.lt;have pl3:=P3.lt;by_cases hlt:k<n
  ·have g1:=hr.below hB
   have hsrc:=hr.hlies;rcases hsrc with h0 | ⟨b,off,rfl,hb0,_⟩
   ·omega
   rcases g1.hlies with h0 | ⟨b',off',e',hb,hc⟩
   ·omega
   injection e' with e';injection e' with e1' e2' _;subst e1' e2';obtain ⟨v1,m1,n1,c0,c1,c2',c3',c4',hu⟩:=hc k hlt;clear hc g1;have hbp:b<p3:=by omega
   have i0:(0:Int)≤(k:Int):=by omega
   have i1:(k:Int)<(n:Int):=by omega
   have hrl0:(M1.rgA rs k).us.length=m1:=hu.hlen;have hm1:m1≤1000:=by have:=hus.out k hlt;omega
   have htx:Hid (∀ i,i<m1→(M1.up (M1.rgA rs k).us i).s.size≤maxLen):=hu.htxt;have HT:Hid (rs.take (k+1)=rs.take k ++ [M1.rgA rs k]):=M1.take_snocR (by rw [hl1.out];exact hlt);have htk:Hid ((rs.take k).length=k):=(by rw [List.length_take,hl1.out];omega:_=_)
   obtain ⟨r,hr'⟩:∃ r,Hid (M1.rgA rs k=r):=⟨_,rfl⟩
   rw [hr'.out] at c0 c1 c2' c3' hu hrl0 htx HT;have hrl:Hid (r.us.length=m1):=hrl0;clear hrl0;have htx':∀ i,i<m1→(M1.up r.us i).s.size≤maxLen:=htx.out;go_wp2_with fail
   refine wp_region_held_drew (S:=fun w'=>Kx p3 wr w') (by kernel_rfl) ?_ (fun zH=>?_)
   ·exact kx_of (Below.refl _ _).drew
   refine uZ 0 ?_;simp only[pZ,zZ];refine uZ 2 ?_;simp only[pZ,zZ];refine uZ 3 ?_;simp only[pZ,zZ];refine uZ 4 ?_;simp only[pZ,zZ];refine uZ 5 ?_;simp only[pZ,zZ];refine uZ 6 ?_;simp only[pZ,zZ];refine rZ [1,7] (.cons rfl (fun K hK=>?_) (.cons rfl (fun K hK=>?_) .nil))
   ·go_simp
    refine hK.out _ _ zH (fun zH2=>?_);clear hK K zH;have zH:=zH2;clear zH2;(try simp only[pZ,zZ]);refine sZ 7 fun K hK=>?_;go_simp
    (refine (l5Copy_any _ _ _ _ r.us _ _ _ _ ((hu.below (Below.refl _ _).drew)) (by omega)).mono ?_;rintro e w4 ⟨⟨v4,c4,rfl,mu⟩,hb4⟩;go_wp2_with fail)
    refine hK.out _ _ ?_ (fun zH2=>?_)
    ·exact kx_step zH hb4 (by show p3≤wr.heap.size;omega)
    clear hK K zH;have zH:=zH2;clear zH2;(try simp only[pZ,zZ]);have hb4':Below wr.heap.size wr w4:=(Below.refl _ _).drew.trans hb4;have A4:=P1.below hb4';have Z4:=P2.below hb4';have Y4:=P3.below hb4';have W4:=HW.below hb4';have B4:=hB.trans (hb4'.mono hB.size);have hs4:=hb4'.size;obtain ⟨_,y4,_⟩:=r3_cells Y4;have yl4:=Y4.lt;refine sZ 8 fun K hK=>?_;go_simp
    skip
    refine hK.out _ _ ?_ (fun zH2=>?_)
    ·exact kx_of (zH.1.alloc (by omega) _)
    clear hK K zH;have zH:=zH2;clear zH2;(try simp only[pZ,zZ]);have hA5:Below w4.heap.size w4 (w4.alloc (.cells #[.int .i64 r.id,.int .i64 r.a,.int .i64 r.b,.int .i64 r.c,.slice v4 m1 c4] 34)):=(Below.refl _ _).alloc (Nat.le_refl _) _;have q5:=r5_new w4 (.int .i64 r.id) (.int .i64 r.a) (.int .i64 r.b) (.int .i64 r.c) (.slice v4 m1 c4) 34;have A5:=A4.below hA5;have Z5:=Z4.below hA5;have Y5:=Y4.below hA5;have W5:=W4.below hA5;have B5:=B4.trans (hA5.mono B4.size);have mu5:=mu_upto (mu.below hA5) hA5.size;have hs5:=hA5.size;obtain ⟨w5,hw5⟩:∃ W,w4.alloc (.cells #[.int .i64 r.id,.int .i64 r.a,.int .i64 r.b,.int .i64 r.c,.slice v4 m1 c4] 34)=W:=⟨_,rfl⟩
    rw [hw5] at zH q5 A5 Z5 Y5 W5 B5 mu5 hs5 hA5 ⊢;clear hw5;refine sZ 9 fun K hK=>?_;refine step_appR rfl _ _ rfl (p3+1) xv xc k xs rfl (by have:=W5.own;rwa [htk.out] at this) w4.heap.size 1 _ _ _ _ _ (one5R r v4 m1 c4) rfl q5 (by omega) (by have:=Y5.lt;omega) ?_;intro g6 cap6 w6 own6 hgrow6 hat6;have hb6:∀ j,(Value.slice xv k xc).ownBlock=some j→p3+1≤j:=owns_base W5.own;have W6:=W5.push htk.out r v4 m1 c4 wr.heap.size mu5 hrl.out (by omega) htx (fun b e=>by have:=(HW.own.lt b e).2;omega) (fun b e h0=>d0_lt HW.x (by rw [htk.out];exact h0) e) own6 hgrow6 hat6;have G6:∀ j,j<w5.heap.size→j≤p3→w6.heap[j]?=w5.heap[j]?:=fun j hj hl=>hgrow6.block j hj (fun e=>by have:=hb6 j e.symm;omega);have A6:=row_blockA A5 (G6 p1 A5.lt (by omega)) hgrow6.size;have Z6:=row_blockA Z5 (G6 p2 Z5.lt (by omega)) hgrow6.size;have Y6:=row_blockA Y5 (G6 p3 Y5.lt (by omega)) hgrow6.size;have B6:Below w.heap.size w w6:=B5.grown hgrow6 B5.size (fun j e=>by have:=hb6 j e;omega);have S6:Kx p3 wr w6:=kx_of (zH.1.grown hgrow6 (by have:=Y5.lt;omega) (fun j e=>by have:=hb6 j e;omega));refine hK.out _ _ S6 (fun zH2=>?_);clear hK K zH;have zH:=zH2;clear zH2;(try simp only[pZ,zZ]);obtain ⟨_,k6,_⟩:=r3_cells Y6;obtain ⟨_,f6,_⟩:=r3_free Y6;have yl6:=Y6.lt;have Y7:=r3_set1 Y6 (.slice (some ⟨g6,0,none⟩) (k+1) cap6);have A7:=A6.far (p:=⟨p3,1,none⟩) (by show p3≠p1;omega) (.slice (some ⟨g6,0,none⟩) (k+1) cap6);have Z7:=Z6.far (p:=⟨p3,1,none⟩) (by show p3≠p2;omega) (.slice (some ⟨g6,0,none⟩) (k+1) cap6);have W7:=W6.set (p:=⟨p3,1,none⟩) (by show p3<p3+1;omega) (.slice (some ⟨g6,0,none⟩) (k+1) cap6);have B7:Below w.heap.size w (w6.setCell ⟨p3,1,none⟩ (.slice (some ⟨g6,0,none⟩) (k+1) cap6)):=B6.setCell (p:=⟨p3,1,none⟩) hp3w _;have S7:Kx p3 wr (w6.setCell ⟨p3,1,none⟩ (.slice (some ⟨g6,0,none⟩) (k+1) cap6)):=kx_of (S6.1.setCell (p:=⟨p3,1,none⟩) (Nat.le_refl _) _);refine uZ 10 ?_;simp only[pZ,zZ];refine sZ 11 fun K hK=>?_;go_simp
    skip
    refine hK.out _ _ ?_ (fun zH2=>?_)
    ·exact S7
    clear hK K zH;have zH:=zH2;clear zH2;(try simp only[pZ,zZ]);refine dZ ?_;generalize w6.setCell ⟨p3,1,none⟩ (.slice (some ⟨g6,0,none⟩) (k+1) cap6)=W8 at Y7 A7 Z7 W7 B7 ⊢;rw [←HT.out] at W7;go_wp2_with fail
    exact ⟨⟨k+1,some ⟨g6,0,none⟩,cap6,_,by omega,by go_num,A7,Z7,Y7,W7,B7⟩,by simp [intOf];omega⟩
   ·go_simp
    refine (l5Copy_any _ _ _ _ r.us _ _ _ _ ((hu.below (Below.refl _ _).drew)) (by omega)).mono ?_;rintro e w4 ⟨⟨v4,c4,rfl,mu⟩,hb4⟩;go_wp2_with fail
    refine hK.out _ _ (kx_step zH hb4 (by show p3≤wr.heap.size;omega)) (fun zH2=>?_);clear hK K zH;have zH:=zH2;clear zH2;(try simp only[pZ,zZ]);have hb4':Below wr.heap.size wr w4:=(Below.refl _ _).drew.trans hb4;have A4:=P1.below hb4';have Z4:=P2.below hb4';have Y4:=P3.below hb4';have W4:=HW.below hb4';have B4:=hB.trans (hb4'.mono hB.size);have hs4:=hb4'.size;obtain ⟨_,y4,_⟩:=r3_cells Y4;have yl4:=Y4.lt;refine rZ [1,8] (.cons rfl (fun K hK=>?_) (.cons rfl (fun K hK=>?_) .nil))
    ·go_simp
     refine hK.out _ _ zH (fun zH2=>?_);clear hK K zH;have zH:=zH2;clear zH2;(try simp only[pZ,zZ]);refine sZ 8 fun K hK=>?_;go_simp
     skip
     refine hK.out _ _ ?_ (fun zH2=>?_)
     ·exact kx_of (zH.1.alloc (by omega) _)
     clear hK K zH;have zH:=zH2;clear zH2;(try simp only[pZ,zZ]);have hA5:Below w4.heap.size w4 (w4.alloc (.cells #[.int .i64 r.id,.int .i64 r.a,.int .i64 r.b,.int .i64 r.c,.slice v4 m1 c4] 34)):=(Below.refl _ _).alloc (Nat.le_refl _) _;have q5:=r5_new w4 (.int .i64 r.id) (.int .i64 r.a) (.int .i64 r.b) (.int .i64 r.c) (.slice v4 m1 c4) 34;have A5:=A4.below hA5;have Z5:=Z4.below hA5;have Y5:=Y4.below hA5;have W5:=W4.below hA5;have B5:=B4.trans (hA5.mono B4.size);have mu5:=mu_upto (mu.below hA5) hA5.size;have hs5:=hA5.size;obtain ⟨w5,hw5⟩:∃ W,w4.alloc (.cells #[.int .i64 r.id,.int .i64 r.a,.int .i64 r.b,.int .i64 r.c,.slice v4 m1 c4] 34)=W:=⟨_,rfl⟩
     rw [hw5] at zH q5 A5 Z5 Y5 W5 B5 mu5 hs5 hA5 ⊢;clear hw5;refine sZ 9 fun K hK=>?_;refine step_appR rfl _ _ rfl (p3+1) xv xc k xs rfl (by have:=W5.own;rwa [htk.out] at this) w4.heap.size 1 _ _ _ _ _ (one5R r v4 m1 c4) rfl q5 (by omega) (by have:=Y5.lt;omega) ?_;intro g6 cap6 w6 own6 hgrow6 hat6;have hb6:∀ j,(Value.slice xv k xc).ownBlock=some j→p3+1≤j:=owns_base W5.own;have W6:=W5.push htk.out r v4 m1 c4 wr.heap.size mu5 hrl.out (by omega) htx (fun b e=>by have:=(HW.own.lt b e).2;omega) (fun b e h0=>d0_lt HW.x (by rw [htk.out];exact h0) e) own6 hgrow6 hat6;have G6:∀ j,j<w5.heap.size→j≤p3→w6.heap[j]?=w5.heap[j]?:=fun j hj hl=>hgrow6.block j hj (fun e=>by have:=hb6 j e.symm;omega);have A6:=row_blockA A5 (G6 p1 A5.lt (by omega)) hgrow6.size;have Z6:=row_blockA Z5 (G6 p2 Z5.lt (by omega)) hgrow6.size;have Y6:=row_blockA Y5 (G6 p3 Y5.lt (by omega)) hgrow6.size;have B6:Below w.heap.size w w6:=B5.grown hgrow6 B5.size (fun j e=>by have:=hb6 j e;omega);have S6:Kx p3 wr w6:=kx_of (zH.1.grown hgrow6 (by have:=Y5.lt;omega) (fun j e=>by have:=hb6 j e;omega));refine hK.out _ _ S6 (fun zH2=>?_);clear hK K zH;have zH:=zH2;clear zH2;(try simp only[pZ,zZ]);obtain ⟨_,k6,_⟩:=r3_cells Y6;obtain ⟨_,f6,_⟩:=r3_free Y6;have yl6:=Y6.lt;have Y7:=r3_set1 Y6 (.slice (some ⟨g6,0,none⟩) (k+1) cap6);have A7:=A6.far (p:=⟨p3,1,none⟩) (by show p3≠p1;omega) (.slice (some ⟨g6,0,none⟩) (k+1) cap6);have Z7:=Z6.far (p:=⟨p3,1,none⟩) (by show p3≠p2;omega) (.slice (some ⟨g6,0,none⟩) (k+1) cap6);have W7:=W6.set (p:=⟨p3,1,none⟩) (by show p3<p3+1;omega) (.slice (some ⟨g6,0,none⟩) (k+1) cap6);have B7:Below w.heap.size w (w6.setCell ⟨p3,1,none⟩ (.slice (some ⟨g6,0,none⟩) (k+1) cap6)):=B6.setCell (p:=⟨p3,1,none⟩) hp3w _;have S7:Kx p3 wr (w6.setCell ⟨p3,1,none⟩ (.slice (some ⟨g6,0,none⟩) (k+1) cap6)):=kx_of (S6.1.setCell (p:=⟨p3,1,none⟩) (Nat.le_refl _) _);refine uZ 10 ?_;simp only[pZ,zZ];refine sZ 11 fun K hK=>?_;go_simp
     skip
     refine hK.out _ _ ?_ (fun zH2=>?_)
     ·exact S7
     clear hK K zH;have zH:=zH2;clear zH2;(try simp only[pZ,zZ]);refine dZ ?_;generalize w6.setCell ⟨p3,1,none⟩ (.slice (some ⟨g6,0,none⟩) (k+1) cap6)=W8 at Y7 A7 Z7 W7 B7 ⊢;rw [←HT.out] at W7;go_wp2_with fail
     exact ⟨⟨k+1,some ⟨g6,0,none⟩,cap6,_,by omega,by go_num,A7,Z7,Y7,W7,B7⟩,by simp [intOf];omega⟩
    ·go_simp
     refine hK.out _ _ (kx_of (zH.1.alloc (by omega) _)) (fun zH2=>?_);clear hK K zH;have zH:=zH2;clear zH2;(try simp only[pZ,zZ]);have Y4b:=Y4.below ((Below.refl _ _).alloc (Nat.le_refl _) (.cells #[.int .i64 r.id,.int .i64 r.a,.int .i64 r.b,.int .i64 r.c,.slice v4 m1 c4] 34));obtain ⟨_,y4b,_⟩:=r3_cells Y4b;have yl4b:=Y4b.lt;refine sZ 1 fun K hK=>?_;go_simp
     skip
     refine hK.out _ _ ?_ (fun zH2=>?_)
     ·exact zH
     clear hK K zH;have zH:=zH2;clear zH2;(try simp only[pZ,zZ]);have hA5:Below w4.heap.size w4 (w4.alloc (.cells #[.int .i64 r.id,.int .i64 r.a,.int .i64 r.b,.int .i64 r.c,.slice v4 m1 c4] 34)):=(Below.refl _ _).alloc (Nat.le_refl _) _;have q5:=r5_new w4 (.int .i64 r.id) (.int .i64 r.a) (.int .i64 r.b) (.int .i64 r.c) (.slice v4 m1 c4) 34;have A5:=A4.below hA5;have Z5:=Z4.below hA5;have Y5:=Y4.below hA5;have W5:=W4.below hA5;have B5:=B4.trans (hA5.mono B4.size);have mu5:=mu_upto (mu.below hA5) hA5.size;have hs5:=hA5.size;obtain ⟨w5,hw5⟩:∃ W,w4.alloc (.cells #[.int .i64 r.id,.int .i64 r.a,.int .i64 r.b,.int .i64 r.c,.slice v4 m1 c4] 34)=W:=⟨_,rfl⟩
     rw [hw5] at zH q5 A5 Z5 Y5 W5 B5 mu5 hs5 hA5 ⊢;clear hw5;refine sZ 9 fun K hK=>?_;refine step_appR rfl _ _ rfl (p3+1) xv xc k xs rfl (by have:=W5.own;rwa [htk.out] at this) w4.heap.size 1 _ _ _ _ _ (one5R r v4 m1 c4) rfl q5 (by omega) (by have:=Y5.lt;omega) ?_;intro g6 cap6 w6 own6 hgrow6 hat6;have hb6:∀ j,(Value.slice xv k xc).ownBlock=some j→p3+1≤j:=owns_base W5.own;have W6:=W5.push htk.out r v4 m1 c4 wr.heap.size mu5 hrl.out (by omega) htx (fun b e=>by have:=(HW.own.lt b e).2;omega) (fun b e h0=>d0_lt HW.x (by rw [htk.out];exact h0) e) own6 hgrow6 hat6;have G6:∀ j,j<w5.heap.size→j≤p3→w6.heap[j]?=w5.heap[j]?:=fun j hj hl=>hgrow6.block j hj (fun e=>by have:=hb6 j e.symm;omega);have A6:=row_blockA A5 (G6 p1 A5.lt (by omega)) hgrow6.size;have Z6:=row_blockA Z5 (G6 p2 Z5.lt (by omega)) hgrow6.size;have Y6:=row_blockA Y5 (G6 p3 Y5.lt (by omega)) hgrow6.size;have B6:Below w.heap.size w w6:=B5.grown hgrow6 B5.size (fun j e=>by have:=hb6 j e;omega);have S6:Kx p3 wr w6:=kx_of (zH.1.grown hgrow6 (by have:=Y5.lt;omega) (fun j e=>by have:=hb6 j e;omega));refine hK.out _ _ S6 (fun zH2=>?_);clear hK K zH;have zH:=zH2;clear zH2;(try simp only[pZ,zZ]);obtain ⟨_,k6,_⟩:=r3_cells Y6;obtain ⟨_,f6,_⟩:=r3_free Y6;have yl6:=Y6.lt;have Y7:=r3_set1 Y6 (.slice (some ⟨g6,0,none⟩) (k+1) cap6);have A7:=A6.far (p:=⟨p3,1,none⟩) (by show p3≠p1;omega) (.slice (some ⟨g6,0,none⟩) (k+1) cap6);have Z7:=Z6.far (p:=⟨p3,1,none⟩) (by show p3≠p2;omega) (.slice (some ⟨g6,0,none⟩) (k+1) cap6);have W7:=W6.set (p:=⟨p3,1,none⟩) (by show p3<p3+1;omega) (.slice (some ⟨g6,0,none⟩) (k+1) cap6);have B7:Below w.heap.size w (w6.setCell ⟨p3,1,none⟩ (.slice (some ⟨g6,0,none⟩) (k+1) cap6)):=B6.setCell (p:=⟨p3,1,none⟩) hp3w _;have S7:Kx p3 wr (w6.setCell ⟨p3,1,none⟩ (.slice (some ⟨g6,0,none⟩) (k+1) cap6)):=kx_of (S6.1.setCell (p:=⟨p3,1,none⟩) (Nat.le_refl _) _);refine uZ 10 ?_;simp only[pZ,zZ];refine sZ 11 fun K hK=>?_;go_simp
     skip
     refine hK.out _ _ ?_ (fun zH2=>?_)
     ·exact S7
     clear hK K zH;have zH:=zH2;clear zH2;(try simp only[pZ,zZ]);refine dZ ?_;generalize w6.setCell ⟨p3,1,none⟩ (.slice (some ⟨g6,0,none⟩) (k+1) cap6)=W8 at Y7 A7 Z7 W7 B7 ⊢;rw [←HT.out] at W7;go_wp2_with fail
     exact ⟨⟨k+1,some ⟨g6,0,none⟩,cap6,_,by omega,by go_num,A7,Z7,Y7,W7,B7⟩,by simp [intOf];omega⟩
  ·have hkn:Hid (k=n):=by show k=n;omega
   have HWn:WR wr (p3+1) (.slice xv n xc) (.slice none 0 0) xs rs:=by
    have:=HW;rw [hkn.out,List.take_of_length_le (by rw [hl1.out];exact Nat.le_refl _)] at this;exact this
   have WW:WC wr (p3+1) (.slice xv n xc) (.slice none 0 0) xs [] rs []:=⟨HWn,World.ownsRow_nil _ _ _ _,MlX.nil _ _ _ _,fun _ _ e=>by cases e⟩
   have P3n:R3 wr p3 (.int .i64 now) (.slice xv n xc) (.slice none 0 0):=by
    have:=P3;rw [hkn.out] at this;exact this
   obtain ⟨W0,hW0⟩:∃ W,W=wr:=⟨_,rfl⟩
   rw [←hW0] at P1 P2 P3n WW hB d0 d1 d2 e0 e1 e2 pl1 pl3 ⊢;clear hW0 HW HWn P3;go_wp2_with fail
   go_loopw [5] (fun i wr=>∃ (k:Nat) (yv:Option Addr) (yc:Nat) (ys:List Value),k≤n2∧i=.int .i64 k∧R3 wr p1 (.int .i64 now) (.slice v n c) (.slice v2 n2 c2)∧R3 wr p2 (.int .i64 0) (.slice none 0 0) (.slice none 0 0)∧R3 wr p3 (.int .i64 now) (.slice xv n xc) (.slice yv k yc)∧WC wr (p3+1) (.slice xv n xc) (.slice yv k yc) xs ys rs (ms.take k)∧Below w.heap.size w wr) (fun i _=>n2-(intOf i).toNat)
   case atStart=>exact ⟨0,none,0,[],Nat.zero_le _,rfl,P1,P2,P3n,WW,hB⟩
   case round =>
    clear P1 P2 P3n WW hB d0 d1 d2 e0 e1 e2 pl1 pl3;obtain ⟨j,yv,yc,ys,hj,rfl,P1,P2,P3,HW,hB⟩:=hrel;obtain ⟨d0,d1,d2⟩:=r3_cells P1;obtain ⟨e0,e1,e2⟩:=r3_cells P3;have pl1:=P1.lt;have pl3:=P3.lt;by_cases hlt:j<n2
    ·have g1:=hm.below hB
     rcases g1.hlies with h0 | ⟨b,off,rfl,hb,hc⟩
     ·omega
     obtain ⟨v5,n5,c5,v6,n6,c6,c0,c1,c2',c3',c4',hv,hu⟩:=hc j hlt;clear hc g1;have i0:(0:Int)≤(j:Int):=by omega
     have i1:(j:Int)<(n2:Int):=by omega
     have hml:=hms.out j hlt;have HT:Hid (ms.take (j+1)=ms.take j ++ [M1.mlA ms j]):=M1.take_snocM (by rw [hl2.out];exact hlt);have htk:Hid ((ms.take j).length=j):=(by rw [List.length_take,hl2.out];omega:_=_)
     obtain ⟨m,hm'⟩:∃ r,Hid (M1.mlA ms j=r):=⟨_,rfl⟩
     rw [hm'.out] at c0 c1 c2' hv hu HT hml;have hv5:Hid (m.vec.length=n5):=hv.hlen;have hu0:=hu;have hu6:Hid (m.del.length=n6):=hu.hlen;have ht6:Hid (∀ i,i<n6→(M1.up m.del i).s.size≤maxLen):=hu.htxt;have h5:n5≤1000:=by have:=hv.hlen;omega
     have h6:n6≤1000:=by have:=hu.hlen;omega
     clear hml;have hA2:Below wr.heap.size wr (wr.alloc (.cells #[.int .i64 m.fr,.int .i64 m.tt,.bool m.ask,.slice v5 n5 c5,.slice v6 n6 c6] 62)):=(Below.refl _ _).alloc (Nat.le_refl _) _;have Q2:=r5_new wr (.int .i64 m.fr) (.int .i64 m.tt) (.bool m.ask) (.slice v5 n5 c5) (.slice v6 n6 c6) 62;go_upto_region 10 with fail
     obtain ⟨W2,hW2⟩:∃ W,wr.alloc (.cells #[.int .i64 m.fr,.int .i64 m.tt,.bool m.ask,.slice v5 n5 c5,.slice v6 n6 c6] 62)=W:=⟨_,rfl⟩
     rw [hW2] at hA2 Q2 ⊢;clear hW2 c0 c1 c2' c3' c4' d0 d1 d2 e0 e1 e2 pl1 pl3;have hqw:=P3.lt;obtain ⟨q,hq⟩:∃ z,Hid (wr.heap.size=z):=⟨_,rfl⟩
     rw [hq.out] at Q2 ⊢;have hq3:p3<q:=by have:=hq.out;omega
     have hwq:w.heap.size≤q:=by omega
     have hv2:=hv.below hA2;have hu2:=hu.below hA2;clear hv hu;obtain ⟨q0,q1,q2,q3,q4⟩:=r5_cells Q2;have ql:=Q2.lt;have ownD:=ownsD0 W2 68;have hA3:Below W2.heap.size W2 (W2.alloc (.cells #[] 68)):=(Below.refl _ _).alloc (Nat.le_refl _) _;have hv3:=hv2.below hA3;go_upto_region 11 with (at_builtin;refine wpList_appD (by rfl) _ _ rfl W2.heap.size _ _ rfl ownD _ n5 c5 m.vec rfl hv3 (by omega) (by simp) ?_;intro a3 c3 w3 own3 hb3;have B23:Below W2.heap.size W2 w3:=hA3.trans hb3;have Q3:=Q2.below B23;obtain ⟨f0,f1,f2,f3,f4⟩:=r5_free Q3;obtain ⟨x0,x1,x2,x3,x4⟩:=r5_cells Q3;have ql3:=Q3.lt)
     have Q4:=r5_set3 Q3 (.slice a3 n5 c3);have hat3:=owns_at own3;have hv4:IsVec (w3.setCell ⟨q,3,none⟩ (.slice a3 n5 c3)) a3 n5 c3 m.vec:=(owns_dots hv5.out own3).gs (gs_one (gs_refl _ _) 3 _) (fun p e=>by have:=(hat3 p e).1;omega);have hBq:Below wr.heap.size wr (w3.setCell ⟨q,3,none⟩ (.slice a3 n5 c3)):=(hA2.trans (B23.mono hA2.size)).setCell (p:=⟨q,3,none⟩) (by show wr.heap.size≤q;have:=hq.out;omega) _;have hu4:IsUpds (w3.setCell ⟨q,3,none⟩ (.slice a3 n5 c3)) v6 n6 c6 m.del:=hu0.below hBq;have hs4:Hid ((w3.setCell ⟨q,3,none⟩ (.slice a3 n5 c3)).heap.size=w3.heap.size):=(by simp [World.setCell]:_=_)
     obtain ⟨W4,hW4⟩:∃ W,w3.setCell ⟨q,3,none⟩ (.slice a3 n5 c3)=W:=⟨_,rfl⟩
     rw [hW4] at Q4 hv4 hBq hu4 hs4 ⊢;clear hW4 f0 f1 f2 f3 f4 x0 x1 x2 x3 x4 q0 q1 q2 q3 q4 Q3 hv3 ownD hb3;obtain ⟨q0,q1,q2,q3,q4⟩:=r5_cells Q4;have ql4:=Q4.lt;have ownU:=ownsU_empty W4 72;have hA5:Below W4.heap.size W4 (W4.alloc (.cells #[] 72)):=(Below.refl _ _).alloc (Nat.le_refl _) _;have hu5:=hu4.below hA5;go_upto_region 12 with (at_builtin;refine wpList_appU (by rfl) _ _ rfl W4.heap.size _ _ 0 [] rfl rfl ownU _ n6 c6 m.del rfl hu5 (by omega) (by simp) ?_;intro a5 c5' w5 own5 hb5;have B45:Below W4.heap.size W4 w5:=hA5.trans hb5;have Q5:=Q4.below B45;obtain ⟨f0,f1,f2,f3,f4⟩:=r5_free Q5;obtain ⟨x0,x1,x2,x3,x4⟩:=r5_cells Q5;have ql5:=Q5.lt)
     rw [Nat.zero_add,List.nil_append] at own5;have Q6:=r5_set4 Q5 (.slice a5 n6 c5');have hat5:=owns_at own5;have hu6':IsUpds (w5.setCell ⟨q,4,none⟩ (.slice a5 n6 c5')) a5 n6 c5' m.del:=(owns_upds hu6.out ht6.out own5).gs (gs_one (gs_refl _ _) 4 _) (fun p e=>by have:=(hat5 p e).1;omega);have hv6:IsVec (w5.setCell ⟨q,4,none⟩ (.slice a5 n6 c5')) a3 n5 c3 m.vec:=(hv4.below B45).gs (gs_one (gs_refl _ _) 4 _) (fun p e=>by have:=(hat3 p e).1;omega);have hBq6:Below wr.heap.size wr (w5.setCell ⟨q,4,none⟩ (.slice a5 n6 c5')):=(hBq.trans (B45.mono hBq.size)).setCell (p:=⟨q,4,none⟩) (by show wr.heap.size≤q;have:=hq.out;omega) _;have hs6:Hid ((w5.setCell ⟨q,4,none⟩ (.slice a5 n6 c5')).heap.size=w5.heap.size):=(by simp [World.setCell]:_=_)
     have hs2:=hA2.size;have hs45:=B45.size;obtain ⟨W6,hW6⟩:∃ W,w5.setCell ⟨q,4,none⟩ (.slice a5 n6 c5')=W:=⟨_,rfl⟩
     rw [hW6] at Q6 hv6 hu6' hBq6 hs6 ⊢;clear hW6 f0 f1 f2 f3 f4 x0 x1 x2 x3 x4 q0 q1 q2 q3 q4 Q5 Q4 hv4 hu4 hu5 ownU hb5 hBq;have A6:=P1.below hBq6;have Z6:=P2.below hBq6;have Y6:=P3.below hBq6;have HW6:=HW.below hBq6;have B6:=hB.trans (hBq6.mono hB.size);have hlo:p3+1≤wr.heap.size:=by have:=P3.lt;omega
     have hf3:∀ p,a3=some p→p.block<W6.heap.size∧¬SB (p3+1) (.slice xv n xc) (.slice yv j yc) p.block∧¬D0 (fx xs) p.block:=fun p e=>⟨by have:=(hat3 p e).2;have:=hs4.out;have:=hs6.out;omega,HW.fresh hlo (by have:=(hat3 p e).1;omega)⟩;have hf5:∀ p,a5=some p→p.block<W6.heap.size∧¬SB (p3+1) (.slice xv n xc) (.slice yv j yc) p.block∧¬D0 (fx xs) p.block:=fun p e=>⟨by have:=(hat5 p e).2;have:=hs6.out;omega,HW.fresh hlo (by have:=(hat5 p e).1;have:=hs4.out;have:=B23.size;omega)⟩;clear P1 P2 P3 HW hB;obtain ⟨q0,q1,q2,q3,q4⟩:=r5_cells Q6;have ql6:=Q6.lt;obtain ⟨y0,y1,y2⟩:=r3_cells Y6;have yl6:=Y6.lt;have hA7:Below W6.heap.size W6 (W6.alloc (.cells #[.int .i64 m.fr,.int .i64 m.tt,.bool m.ask,.slice a3 n5 c3,.slice a5 n6 c5'] 62)):=(Below.refl _ _).alloc (Nat.le_refl _) _;have E7:=r5_new W6 (.int .i64 m.fr) (.int .i64 m.tt) (.bool m.ask) (.slice a3 n5 c3) (.slice a5 n6 c5') 62;have HW7:=HW6.below hA7;have own7:(W6.alloc (.cells #[.int .i64 m.fr,.int .i64 m.tt,.bool m.ask,.slice a3 n5 c3,.slice a5 n6 c5'] 62)).ownsRow (p3+1) 62 5 (.slice yv j yc) j ys:=by have:=HW7.own;rwa [htk.out] at this
     have hb7:=owns_base own7;go_wp2_with (at_builtin;refine wpList_appM (by rfl) _ _ rfl (p3+1) yv yc j ys rfl own7 W6.heap.size 1 _ _ _ _ _ (one5M m a3 n5 c3 a5 n6 c5') rfl E7 (by omega) (by simp;omega) ?_;intro g8 cap8 w8 own8 hgrow8 hat8;have Y8:=row_blockA (Y6.below hA7) (hgrow8.block p3 (by simp;omega) (fun e=>by have:=hb7 p3 e.symm;omega)) hgrow8.size;obtain ⟨y80,y81,y82⟩:=r3_cells Y8;obtain ⟨f80,f81,f82⟩:=r3_free Y8;have yl8:=Y8.lt)
     have Y9:=r3_set2 Y8 (.slice (some ⟨g8,0,none⟩) (j+1) cap8);have A9:=(row_blockA (A6.below hA7) (hgrow8.block p1 (by have:=A6.lt;simp;omega) (fun e=>by have:=hb7 p1 e.symm;omega)) hgrow8.size).far (p:=⟨p3,2,none⟩) (by show p3≠p1;omega) (.slice (some ⟨g8,0,none⟩) (j+1) cap8);have Z9:=(row_blockA (Z6.below hA7) (hgrow8.block p2 (by have:=Z6.lt;simp;omega) (fun e=>by have:=hb7 p2 e.symm;omega)) hgrow8.size).far (p:=⟨p3,2,none⟩) (by show p3≠p2;omega) (.slice (some ⟨g8,0,none⟩) (j+1) cap8);have HW9:=(HW7.push htk.out m a3 n5 c3 a5 n6 c5' (hv6.below hA7) (hu6'.below hA7) (fun p e=>⟨Nat.lt_of_lt_of_le (hf3 p e).1 hA7.size,(hf3 p e).2⟩) (fun p e=>⟨Nat.lt_of_lt_of_le (hf5 p e).1 hA7.size,(hf5 p e).2⟩) own8 hgrow8 hat8).set (p:=⟨p3,2,none⟩) (by show p3<p3+1;omega) (.slice (some ⟨g8,0,none⟩) (j+1) cap8);have B9:Below w.heap.size w (w8.setCell ⟨p3,2,none⟩ (.slice (some ⟨g8,0,none⟩) (j+1) cap8)):=((B6.trans (hA7.mono B6.size)).grown hgrow8 (by have:=B6.size;simp;omega) (fun k e=>by have:=hb7 k e;omega)).setCell (p:=⟨p3,2,none⟩) hp3w _;rw [←HT.out] at HW9;exact ⟨⟨j+1,some ⟨g8,0,none⟩,cap8,_,by omega,by go_num,A9,Z9,Y9,HW9,B9⟩,by simp [intOf];omega⟩
    ·have hjn:Hid (j=n2):=by show j=n2;omega
     obtain ⟨z0,z1,z2⟩:=r3_cells P2;obtain ⟨f0,f1,f2⟩:=r3_free P2;have pl2:=P2.lt;have Z9:=r3_set2 (r3_set1 (r3_set0 P2 (.int .i64 now)) (.slice xv n xc)) (.slice yv j yc);have HW9:=((HW.set (p:=⟨p2,0,none⟩) (by show p2<p3+1;omega) (.int .i64 now)).set (p:=⟨p2,1,none⟩) (by show p2<p3+1;omega) (.slice xv n xc)).set (p:=⟨p2,2,none⟩) (by show p2<p3+1;omega) (.slice yv j yc);have B9:=((hB.setCell (p:=⟨p2,0,none⟩) hp2w (.int .i64 now)).setCell (p:=⟨p2,1,none⟩) hp2w (.slice xv n xc)).setCell (p:=⟨p2,2,none⟩) hp2w (.slice yv j yc);go_wp2_with fail
     obtain ⟨Wz,hWz⟩:∃ W,((wr.setCell ⟨p2,0,none⟩ (.int .i64 now)).setCell ⟨p2,1,none⟩ (.slice xv n xc)).setCell ⟨p2,2,none⟩ (.slice yv j yc)=W:=⟨_,rfl⟩
     rw [hWz] at Z9 HW9 B9 ⊢;clear hWz z0 z1 z2 f0 f1 f2;obtain ⟨z0,z1,z2⟩:=r3_cells Z9;refine bodyPost_ret (v:=.agg #[.int .i64 now,.slice xv n xc,.slice yv j yc]) (by simp [results,Tryz.results112,go_sem,z0,z1,z2]) rfl ?_;refine ⟨⟨xv,xc,yv,yc,xs,ys,by rw [hjn.out],?_⟩,B9⟩;have:=HW9.lower (lo':=w.heap.size) (by omega);rw [hjn.out,List.take_of_length_le (by rw [hl2.out];exact Nat.le_refl _)] at this;exact this
end Go.Proofs.YtgcinolbkllkkaaGreat
