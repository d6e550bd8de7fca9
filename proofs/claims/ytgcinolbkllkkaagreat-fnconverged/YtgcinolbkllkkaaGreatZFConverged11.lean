/-
  Texts of one proof, joined: Cv1.
-/
import Derived.Test.YtgcinolbkllkkaaGreatZFConverged10
set_option linter.unusedSimpArgs false
set_option linter.unusedVariables false
namespace M1
theorem rgA_app {rs:List Rg}{r:Rg}{i:Nat}(h:i<rs.length):rgA (rs ++ [r]) i=rgA rs i:=by
 unfold rgA;simp [List.getD,List.getElem?_append_left h]
theorem rgA_last {rs:List Rg}{r:Rg}:rgA (rs ++ [r]) rs.length=r:=by
 unfold rgA;simp [List.getD]
theorem mlA_app {ms:List Ml}{m:Ml}{i:Nat}(h:i<ms.length):mlA (ms ++ [m]) i=mlA ms i:=by
 unfold mlA;simp [List.getD,List.getElem?_append_left h]
theorem mlA_last {ms:List Ml}{m:Ml}:mlA (ms ++ [m]) ms.length=m:=by
 unfold mlA;simp [List.getD]
theorem rgA_set_same {rs:List Rg}{r:Rg}{i:Nat}(h:i<rs.length):rgA (rs.set i r) i=r:=by
 unfold rgA;simp [List.getD,h]
theorem rgA_set_other {rs:List Rg}{r:Rg}{i j:Nat}(h:¬i=j):rgA (rs.set i r) j=rgA rs j:=by
 unfold rgA;simp [List.getD,List.getElem?_set_ne h]
theorem take_snocR {rs:List Rg}{k:Nat}(h:k<rs.length):rs.take (k+1)=rs.take k ++ [rgA rs k]:=by
 rw [List.take_add_one];simp [rgA,List.getD,h]
theorem take_snocM {ms:List Ml}{k:Nat}(h:k<ms.length):ms.take (k+1)=ms.take k ++ [mlA ms k]:=by
 rw [List.take_add_one];simp [mlA,List.getD,h]
end M1
namespace Go.Proofs.YtgcinolbkllkkaaGreat
open Go.ChangeShapes Go.WideShapes Go.ChangeAt Go.RowKit
structure Gs (S:Nat→Prop)(w w':World):Prop where
 os:w'.os=w.os
 tape:w'.tape=w.tape
 output:w'.output=w.output
 size:w.heap.size≤w'.heap.size
 block:∀ k,k<w.heap.size→¬S k→w'.heap[k]?=w.heap[k]?
theorem gs_refl (S:Nat→Prop)(w:World):Gs S w w:=⟨rfl,rfl,rfl,Nat.le_refl _,fun _ _ _=>rfl⟩
theorem gs_trans {S:Nat→Prop}{a b c:World}(h:Gs S a b)(k:Gs S b c):Gs S a c :=
 ⟨k.os.trans h.os,k.tape.trans h.tape,k.output.trans h.output,Nat.le_trans h.size k.size,fun i hi hn=>(k.block i (Nat.lt_of_lt_of_le hi h.size) hn).trans (h.block i hi hn)⟩
theorem gs_below {S:Nat→Prop}{a b:World}(h:Below a.heap.size a b):Gs S a b:=⟨h.os,h.tape,h.output,h.size,fun i hi _=>h.block i hi⟩
theorem gs_set {S:Nat→Prop}{a b:World}(h:Gs S a b)(p:Addr)(hp:S p.block∨a.heap.size≤p.block)(v:Value):Gs S a (b.setCell p v):=by
 refine ⟨h.os,h.tape,h.output,Nat.le_trans h.size (by simp [World.setCell]),fun k hk hn=>?_⟩;have ne:¬k=p.block:=fun e=>by
  rcases hp with hp | hp
  ·rw [←e] at hp;exact hn hp
  ·omega
 exact (Below.heap_setCell _ _ _ _ ne).trans (h.block k hk hn)
theorem gs_alloc {S:Nat→Prop}{a b:World}(h:Gs S a b)(o:Obj):Gs S a (b.alloc o):=gs_trans h (gs_below ((Below.refl _ _).alloc (Nat.le_refl _) o))
theorem gs_grown {S:Nat→Prop}{a b c:World}{row:Option Nat}(h:Gs S a b)(hg:b.grownBy c row)(hr:∀ k,row=some k→S k∨a.heap.size≤k):Gs S a c:=by
 refine ⟨hg.os.trans h.os,hg.tape.trans h.tape,hg.output.trans h.output,Nat.le_trans h.size hg.size,fun k hk hn=>?_⟩;have ne:some k≠row:=fun e=>by
  rcases hr k e.symm with h1 | h1
  ·exact hn h1
  ·omega
 exact (hg.block k (Nat.lt_of_lt_of_le hk h.size) ne).trans (h.block k hk hn)
theorem gs_to {S:Nat→Prop}{B:Nat}{a b:World}(h:Gs S a b)(hB:B≤a.heap.size)(hS:∀ k,S k→B≤k):Below B a b :=
 ⟨h.os,h.tape,h.output,h.size,fun k hk=>h.block k (by omega) (fun e=>by have:=hS k e;omega)⟩
theorem gs_mono {S T:Nat→Prop}{a b:World}(h:Gs S a b)(hST:∀ k,S k→T k):Gs T a b :=
 ⟨h.os,h.tape,h.output,h.size,fun k hk hn=>h.block k hk (fun e=>hn (hST k e))⟩
theorem RowAt.gs {S:Nat→Prop}{w w':World}{k m:Nat}{f:Nat→Value}(h:RowAt w k m f)(hg:Gs S w w')(hn:¬S k):RowAt w' k m f :=
 ⟨Nat.lt_of_lt_of_le h.1 hg.size,fun o ho=>⟨(World.cell?_of_block (w:=w) (a:=⟨k,o,none⟩) (hg.block k h.1 hn)).trans (h.2 o ho).1,(World.frozen?_of_block (w:=w) (a:=⟨k,o,none⟩) (hg.block k h.1 hn)).trans (h.2 o ho).2⟩⟩
theorem owns_gs {S:Nat→Prop}{w w':World}{base:Nat}{e:TypeId}{size n:Nat}{v:Value}{xs:List Value}(h:w.ownsRow base e size v n xs)(hG:Gs S w w')(hn:∀ k,v.ownBlock=some k→¬S k):w'.ownsRow base e size v n xs :=
 ⟨h.1,h.2.imp id fun ⟨k,cap,cur,hv,hk,hh,r⟩=>⟨k,cap,cur,hv,hk,by
  have hlt:k<w.heap.size:=by
   rcases Nat.lt_or_ge k w.heap.size with h | h
   ·exact h
   ·rw [Array.getElem?_eq_none h] at hh;cases hh
  rw [hG.block k hlt (hn k (by rw [hv];rfl))];exact hh,r⟩⟩
theorem IsUpds.gs {S:Nat→Prop}{w w':World}{v:Option Addr}{n c:Nat}{us:List M1.Upd}(h:IsUpds w v n c us)(hg:Gs S w w')(hn:∀ p,v=some p→¬S p.block):IsUpds w' v n c us :=
 ⟨h.hlen,h.hcap,h.hmost,h.htxt,h.hlies.imp (fun h=>h) fun ⟨b,off,e,hlt,hc⟩=>⟨b,off,e,Nat.lt_of_lt_of_le hlt hg.size,fun i hi=>by
  have hb:=hg.block b hlt (hn _ e);have q:∀ o,w'.cell? ⟨b,o,none⟩=w.cell? ⟨b,o,none⟩:=fun o=>World.cell?_of_block (w:=w) (a:=⟨b,o,none⟩) hb;obtain ⟨c0,c1,c2,c3,c4,c5,c6,c7,c8,c9,c10,c11,c12⟩:=hc i hi;exact ⟨(q _).trans c0,(q _).trans c1,(q _).trans c2,(q _).trans c3,(q _).trans c4,(q _).trans c5,(q _).trans c6,(q _).trans c7,(q _).trans c8,(q _).trans c9,(q _).trans c10,(q _).trans c11,(q _).trans c12⟩⟩⟩
theorem IsVec.gs {S:Nat→Prop}{w w':World}{v:Option Addr}{n c:Nat}{ds:List (Int × Int)}(h:IsVec w v n c ds)(hg:Gs S w w')(hn:∀ p,v=some p→¬S p.block):IsVec w' v n c ds :=
 ⟨h.hlen,h.hcap,h.hmost,h.hlies.imp (fun h=>h) fun ⟨b,off,e,hlt,hc⟩=>⟨b,off,e,Nat.lt_of_lt_of_le hlt hg.size,fun i hi=>by
  have hb:=hg.block b hlt (hn _ e);have q:∀ o,w'.cell? ⟨b,o,none⟩=w.cell? ⟨b,o,none⟩:=fun o=>World.cell?_of_block (w:=w) (a:=⟨b,o,none⟩) hb;obtain ⟨c0,c1⟩:=hc i hi;exact ⟨(q _).trans c0,(q _).trans c1⟩⟩⟩
def fx (xs:List Value)(o:Nat):Value:=xs.getD o undef
theorem fx_app {xs ys:List Value}{o:Nat}(h:o<xs.length):fx (xs ++ ys) o=fx xs o:=by
 unfold fx;simp [List.getD,List.getElem?_append_left h]
theorem fx_new {xs:List Value}{k:Nat}(h:xs.length=k)(ys:List Value)(j:Nat):fx (xs ++ ys) (k+j)=fx ys j:=by
 subst h;unfold fx;simp [List.getD,List.getElem?_append_right (Nat.le_add_right _ _)]
def RgX (w:World)(S D:Nat→Prop)(f:Nat→Value)(rs:List M1.Rg):Prop:=∀ i,i<rs.length→∃ (v:Option Addr) (n c:Nat),f (i*5)=.int .i64 (M1.rgA rs i).id∧f (i*5+1)=.int .i64 (M1.rgA rs i).a∧f (i*5+2)=.int .i64 (M1.rgA rs i).b∧f (i*5+3)=.int .i64 (M1.rgA rs i).c∧f (i*5+4)=.slice v n c∧IsUpds w v n c (M1.rgA rs i).us∧∀ p,v=some p→p.block<w.heap.size∧¬S p.block∧(¬i=0→¬D p.block)
def MlX (w:World)(S D:Nat→Prop)(f:Nat→Value)(ms:List M1.Ml):Prop:=∀ i,i<ms.length→∃ (v:Option Addr) (n c:Nat) (v2:Option Addr) (n2 c2:Nat),f (i*5)=.int .i64 (M1.mlA ms i).fr∧f (i*5+1)=.int .i64 (M1.mlA ms i).tt∧f (i*5+2)=.bool (M1.mlA ms i).ask∧f (i*5+3)=.slice v n c∧f (i*5+4)=.slice v2 n2 c2∧IsVec w v n c (M1.mlA ms i).vec∧IsUpds w v2 n2 c2 (M1.mlA ms i).del∧(∀ p,v=some p→p.block<w.heap.size∧¬S p.block∧¬D p.block)∧∀ p,v2=some p→p.block<w.heap.size∧¬S p.block∧¬D p.block
theorem RgX.gs {w w':World}{S D:Nat→Prop}{f:Nat→Value}{rs:List M1.Rg}(h:RgX w S D f rs)(hg:Gs S w w'):RgX w' S D f rs:=fun i hi=>by
 obtain ⟨v,n,c,h0,h1,h2,h3,h4,hu,ha⟩:=h i hi;exact ⟨v,n,c,h0,h1,h2,h3,h4,hu.gs hg (fun p e=>(ha p e).2.1),fun p e=>⟨Nat.lt_of_lt_of_le (ha p e).1 hg.size,(ha p e).2⟩⟩
theorem MlX.gs {w w':World}{S D:Nat→Prop}{f:Nat→Value}{ms:List M1.Ml}(h:MlX w S D f ms)(hg:Gs S w w'):MlX w' S D f ms:=fun i hi=>by
 obtain ⟨v,n,c,v2,n2,c2,h0,h1,h2,h3,h4,hv,hu,ha,hb⟩:=h i hi;exact ⟨v,n,c,v2,n2,c2,h0,h1,h2,h3,h4,hv.gs hg (fun p e=>(ha p e).2.1),hu.gs hg (fun p e=>(hb p e).2.1),fun p e=>⟨Nat.lt_of_lt_of_le (ha p e).1 hg.size,(ha p e).2⟩,fun p e=>⟨Nat.lt_of_lt_of_le (hb p e).1 hg.size,(hb p e).2⟩⟩
theorem RgX.below {w w':World}{S D:Nat→Prop}{f:Nat→Value}{rs:List M1.Rg}(h:RgX w S D f rs)(hb:Below w.heap.size w w'):RgX w' S D f rs:=h.gs (gs_below hb)
theorem MlX.below {w w':World}{S D:Nat→Prop}{f:Nat→Value}{ms:List M1.Ml}(h:MlX w S D f ms)(hb:Below w.heap.size w w'):MlX w' S D f ms:=h.gs (gs_below hb)
theorem RgX.nil (w:World)(S D:Nat→Prop)(f:Nat→Value):RgX w S D f []:=fun i hi=>absurd hi (Nat.not_lt_zero _)
theorem MlX.nil (w:World)(S D:Nat→Prop)(f:Nat→Value):MlX w S D f []:=fun i hi=>absurd hi (Nat.not_lt_zero _)
theorem RgX.snoc {w:World}{S D:Nat→Prop}{xs:List Value}{rs:List M1.Rg}(h:RgX w S D (fx xs) rs)(hl:xs.length=rs.length*5)(r:M1.Rg)(v:Option Addr)(n c:Nat)(hu:IsUpds w v n c r.us)(ha:∀ p,v=some p→p.block<w.heap.size∧¬S p.block∧(¬rs.length=0→¬D p.block)):RgX w S D (fx (xs ++ [.int .i64 r.id,.int .i64 r.a,.int .i64 r.b,.int .i64 r.c,.slice v n c])) (rs ++ [r]):=fun i hi=>by
 simp at hi
 by_cases e:i<rs.length
 ·obtain ⟨v',n',c',h0,h1,h2,h3,h4,hu',ha'⟩:=h i e
  rw [M1.rgA_app e,fx_app (by omega),fx_app (by omega),fx_app (by omega),fx_app (by omega),fx_app (by omega)];exact ⟨v',n',c',h0,h1,h2,h3,h4,hu',ha'⟩
 ·obtain rfl:i=rs.length:=by omega
  rw [M1.rgA_last];refine ⟨v,n,c,?_,?_,?_,?_,?_,hu,ha⟩
  ·exact fx_new hl _ 0
  ·exact fx_new hl _ 1
  ·exact fx_new hl _ 2
  ·exact fx_new hl _ 3
  ·exact fx_new hl _ 4
theorem MlX.snoc {w:World}{S D:Nat→Prop}{ys:List Value}{ms:List M1.Ml}(h:MlX w S D (fx ys) ms)(hl:ys.length=ms.length*5)(m:M1.Ml)(v:Option Addr)(n c:Nat)(v2:Option Addr)(n2 c2:Nat)(hv:IsVec w v n c m.vec)(hu:IsUpds w v2 n2 c2 m.del)(ha:∀ p,v=some p→p.block<w.heap.size∧¬S p.block∧¬D p.block)(hb:∀ p,v2=some p→p.block<w.heap.size∧¬S p.block∧¬D p.block):MlX w S D (fx (ys ++ [.int .i64 m.fr,.int .i64 m.tt,.bool m.ask,.slice v n c,.slice v2 n2 c2])) (ms ++ [m]):=fun i hi=>by
 simp at hi
 by_cases e:i<ms.length
 ·obtain ⟨v',n',c',v2',n2',c2',h0,h1,h2,h3,h4,hv',hu',ha',hb'⟩:=h i e
  rw [M1.mlA_app e,fx_app (by omega),fx_app (by omega),fx_app (by omega),fx_app (by omega),fx_app (by omega)];exact ⟨v',n',c',v2',n2',c2',h0,h1,h2,h3,h4,hv',hu',ha',hb'⟩
 ·obtain rfl:i=ms.length:=by omega
  rw [M1.mlA_last];refine ⟨v,n,c,v2,n2,c2,?_,?_,?_,?_,?_,hv,hu,ha,hb⟩
  ·exact fx_new hl _ 0
  ·exact fx_new hl _ 1
  ·exact fx_new hl _ 2
  ·exact fx_new hl _ 3
  ·exact fx_new hl _ 4
theorem RgX.move {w:World}{S S' D D':Nat→Prop}{f:Nat→Value}{rs:List M1.Rg}(h:RgX w S D f rs)(hS:∀ k,k<w.heap.size→S' k→S k)(hD:∀ k,k<w.heap.size→D' k→D k):RgX w S' D' f rs:=fun i hi=>by
 obtain ⟨v,n,c,h0,h1,h2,h3,h4,hu,ha⟩:=h i hi;exact ⟨v,n,c,h0,h1,h2,h3,h4,hu,fun p e=>⟨(ha p e).1,fun q=>(ha p e).2.1 (hS _ (ha p e).1 q),fun q z=>(ha p e).2.2 q (hD _ (ha p e).1 z)⟩⟩
theorem MlX.move {w:World}{S S' D D':Nat→Prop}{f:Nat→Value}{ms:List M1.Ml}(h:MlX w S D f ms)(hS:∀ k,k<w.heap.size→S' k→S k)(hD:∀ k,k<w.heap.size→D' k→D k):MlX w S' D' f ms:=fun i hi=>by
 obtain ⟨v,n,c,v2,n2,c2,h0,h1,h2,h3,h4,hv,hu,ha,hb⟩:=h i hi;exact ⟨v,n,c,v2,n2,c2,h0,h1,h2,h3,h4,hv,hu,fun p e=>⟨(ha p e).1,fun q=>(ha p e).2.1 (hS _ (ha p e).1 q),fun z=>(ha p e).2.2 (hD _ (ha p e).1 z)⟩,fun p e=>⟨(hb p e).1,fun q=>(hb p e).2.1 (hS _ (hb p e).1 q),fun z=>(hb p e).2.2 (hD _ (hb p e).1 z)⟩⟩
theorem RgX.turn {w w':World}{S S' D:Nat→Prop}{f:Nat→Value}{rs:List M1.Rg}(h:RgX w S D f rs)(hg:Gs S w w')(hS:∀ k,k<w.heap.size→S' k→S k):RgX w' S' D f rs:=fun i hi=>by
 obtain ⟨v,n,c,h0,h1,h2,h3,h4,hu,ha⟩:=h i hi;exact ⟨v,n,c,h0,h1,h2,h3,h4,hu.gs hg (fun p e=>(ha p e).2.1),fun p e=>⟨Nat.lt_of_lt_of_le (ha p e).1 hg.size,fun q=>(ha p e).2.1 (hS _ (ha p e).1 q),(ha p e).2.2⟩⟩
theorem MlX.turn {w w':World}{S S' D:Nat→Prop}{f:Nat→Value}{ms:List M1.Ml}(h:MlX w S D f ms)(hg:Gs S w w')(hS:∀ k,k<w.heap.size→S' k→S k):MlX w' S' D f ms:=fun i hi=>by
 obtain ⟨v,n,c,v2,n2,c2,h0,h1,h2,h3,h4,hv,hu,ha,hb⟩:=h i hi;exact ⟨v,n,c,v2,n2,c2,h0,h1,h2,h3,h4,hv.gs hg (fun p e=>(ha p e).2.1),hu.gs hg (fun p e=>(hb p e).2.1),fun p e=>⟨Nat.lt_of_lt_of_le (ha p e).1 hg.size,fun q=>(ha p e).2.1 (hS _ (ha p e).1 q),(ha p e).2.2⟩,fun p e=>⟨Nat.lt_of_lt_of_le (hb p e).1 hg.size,fun q=>(hb p e).2.1 (hS _ (hb p e).1 q),(hb p e).2.2⟩⟩
theorem RgX.same {w:World}{S D:Nat→Prop}{f f':Nat→Value}{rs:List M1.Rg}(h:RgX w S D f rs)(he:∀ o,o<rs.length*5→f o=f' o):RgX w S D f' rs:=fun i hi=>by
 obtain ⟨v,n,c,h0,h1,h2,h3,h4,hu,ha⟩:=h i hi;exact ⟨v,n,c,(he (i*5) (by omega)).symm.trans h0,(he (i*5+1) (by omega)).symm.trans h1,(he (i*5+2) (by omega)).symm.trans h2,(he (i*5+3) (by omega)).symm.trans h3,(he (i*5+4) (by omega)).symm.trans h4,hu,ha⟩
theorem isRgs_row {w:World}{S D:Nat→Prop}{g n c:Nat}{f:Nat→Value}{rs:List M1.Rg}(hr:RowAt w g (n*5) f)(h:RgX w S D f rs)(hl:rs.length=n)(hc:n≤c)(hm:c≤maxLen):IsRgs w (some ⟨g,0,none⟩) n c rs :=
 ⟨hl,hc,hm,Or.inr ⟨g,0,rfl,hr.lt,fun i hi=>by
  obtain ⟨v,n',c',h0,h1,h2,h3,h4,hu,_⟩:=h i (by omega);have e:0+i*5=i*5:=by omega
  rw [e];exact ⟨v,n',c',(hr.cell (o:=i*5) (by omega)).trans (congrArg some h0),(hr.cell (o:=i*5+1) (by omega)).trans (congrArg some h1),(hr.cell (o:=i*5+2) (by omega)).trans (congrArg some h2),(hr.cell (o:=i*5+3) (by omega)).trans (congrArg some h3),(hr.cell (o:=i*5+4) (by omega)).trans (congrArg some h4),hu⟩⟩⟩
theorem isMls_row {w:World}{S D:Nat→Prop}{g n c:Nat}{f:Nat→Value}{ms:List M1.Ml}(hr:RowAt w g (n*5) f)(h:MlX w S D f ms)(hl:ms.length=n)(hc:n≤c)(hm:c≤maxLen):IsMls w (some ⟨g,0,none⟩) n c ms :=
 ⟨hl,hc,hm,Or.inr ⟨g,0,rfl,hr.lt,fun i hi=>by
  obtain ⟨v,n',c',v2,n2,c2,h0,h1,h2,h3,h4,hv,hu,_⟩:=h i (by omega);have e:0+i*5=i*5:=by omega
  rw [e];exact ⟨v,n',c',v2,n2,c2,(hr.cell (o:=i*5) (by omega)).trans (congrArg some h0),(hr.cell (o:=i*5+1) (by omega)).trans (congrArg some h1),(hr.cell (o:=i*5+2) (by omega)).trans (congrArg some h2),(hr.cell (o:=i*5+3) (by omega)).trans (congrArg some h3),(hr.cell (o:=i*5+4) (by omega)).trans (congrArg some h4),hv,hu⟩⟩⟩
theorem owns_slice {w:World}{base:Nat}{e:TypeId}{size n:Nat}{v:Value}{xs:List Value}(h:w.ownsRow base e size v n xs):∃ av c,v=.slice av n c∧n≤c∧c≤maxLen∧xs.length=n*size∧((av=none∧n=0)∨∃ g,av=some ⟨g,0,none⟩∧base≤g∧g<w.heap.size∧RowAt w g (n*size) (fx xs)):=by
 rcases h.2 with ⟨rfl,rfl⟩ | ⟨g,cap,cur,rfl,hg,hh,hn,hm,hr⟩
 ·exact ⟨none,0,rfl,Nat.le_refl _,Nat.zero_le _,h.1,Or.inl ⟨rfl,rfl⟩⟩
 ·have r:=RowAt.of_owns h
  exact ⟨some ⟨g,0,none⟩,cap,rfl,hn,hm,h.1,Or.inr ⟨g,rfl,hg,r.lt,r⟩⟩
theorem isRgs_own {w:World}{S D:Nat→Prop}{base:Nat}{e:TypeId}{av:Option Addr}{n c:Nat}{xs:List Value}{rs:List M1.Rg}(h:w.ownsRow base e 5 (.slice av n c) n xs)(hx:RgX w S D (fx xs) rs)(hl:rs.length=n):IsRgs w av n c rs:=by
 obtain ⟨av',c',e1,h1,h2,h3,h4⟩:=owns_slice h;injection e1 with e1 _ e2;subst e1 e2;rcases h4 with ⟨rfl,rfl⟩ | ⟨g,rfl,_,_,r⟩
 ·exact ⟨hl,h1,h2,Or.inl rfl⟩
 ·exact isRgs_row r hx hl h1 h2
theorem isMls_own {w:World}{S D:Nat→Prop}{base:Nat}{e:TypeId}{av:Option Addr}{n c:Nat}{ys:List Value}{ms:List M1.Ml}(h:w.ownsRow base e 5 (.slice av n c) n ys)(hx:MlX w S D (fx ys) ms)(hl:ms.length=n):IsMls w av n c ms:=by
 obtain ⟨av',c',e1,h1,h2,h3,h4⟩:=owns_slice h;injection e1 with e1 _ e2;subst e1 e2;rcases h4 with ⟨rfl,rfl⟩ | ⟨g,rfl,_,_,r⟩
 ·exact ⟨hl,h1,h2,Or.inl rfl⟩
 ·exact isMls_row r hx hl h1 h2
theorem one5R (r:M1.Rg)(v:Option Addr)(n c:Nat):∀ u∈[Value.int .i64 r.id,.int .i64 r.a,.int .i64 r.b,.int .i64 r.c,.slice v n c],u.oneCell'=true:=by
 intro u hu;simp at hu
 rcases hu with rfl | rfl | rfl | rfl | rfl <;> rfl
theorem one5M (m:M1.Ml)(v:Option Addr)(n c:Nat)(v2:Option Addr)(n2 c2:Nat):∀ u∈[Value.int .i64 m.fr,.int .i64 m.tt,.bool m.ask,.slice v n c,.slice v2 n2 c2],u.oneCell'=true:=by
 intro u hu;simp at hu
 rcases hu with rfl | rfl | rfl | rfl | rfl <;> rfl
theorem news5 {w:World}{b:Nat}{x0 x1 x2 x3 x4:Value}(h:R5 w b x0 x1 x2 x3 x4):∀ j u,[x0,x1,x2,x3,x4][j]?=some u→w.cell? ((⟨b,0,none⟩:Addr).add j)=some u:=by
 obtain ⟨c0,c1,c2,c3,c4⟩:=r5_cells h;intro j u hj
 match j,hj with
 | 0,e=>simp at e;subst e;exact c0
 | 1,e=>simp at e;subst e;exact c1
 | 2,e=>simp at e;subst e;exact c2
 | 3,e=>simp at e;subst e;exact c3
 | 4,e=>simp at e;subst e;exact c4
theorem step_appR {ops:Array Oper}{o:Oper}{a:Act}{w:World}{K:Act→World→Prop}{Q:Exit→Act→World→Prop}{E:Prop}(hg:o.guard=none)(s x:Operand)
  (ho:o.op=.call { callee:=.builtin .append,args:=#[s,x],argTypes:=#[24,24] })
  (base:Nat) (xv:Option Addr) (xc n:Nat) (xs:List Value) (hs:a.eval s=.slice xv n xc) (hown:w.ownsRow base 34 5 (.slice xv n xc) n xs)
  (b yc:Nat) (x0 x1 x2 x3 x4:Value) (h1:∀ u∈[x0,x1,x2,x3,x4],u.oneCell'=true) (hx:a.eval x=.slice (some ⟨b,0,none⟩) 1 yc) (hc:R5 w b x0 x1 x2 x3 x4) (hlen:n+1≤100000000) (hbase:base≤w.heap.size)
  (h:∀ g cap w',w'.ownsRow base 34 5 (.slice (some ⟨g,0,none⟩) (n+1) cap) (n+1) (xs ++ [x0,x1,x2,x3,x4])→w.grownBy w' (Value.slice xv n xc).ownBlock→((Value.slice xv n xc).ownBlock=some g∨g=w.heap.size)→K (a.put o.dst (.slice (some ⟨g,0,none⟩) (n+1) cap)) w') :
  if Region.wanted o (yielded ops a.tmps)=true then Oper.wp Tryz.prog o a w K Q else E:=by
 have hw:Region.wanted o (yielded ops a.tmps)=true:=by simp [Region.wanted,hg]
 rw [if_pos hw];obtain ⟨ti,hi1,hi2,hi3,hi4⟩:=infoRegA;refine wp_append_lies w s x 24 ho base 34 ti _ 5 56 Tryz.underlying24 hi1 hi2 hi3 hi4 rfl (by omega) (.slice xv n xc) n xs hs hown ⟨b,0,none⟩ 1 yc [x0,x1,x2,x3,x4] hx rfl (news5 hc) h1 (by omega) (by unfold maxLen;omega) (by omega) hbase _ rfl ?_;intro g cap w' hown' hgrow hat hlt;exact h g cap w' hown' hgrow hat
theorem step_appM {ops:Array Oper}{o:Oper}{a:Act}{w:World}{K:Act→World→Prop}{Q:Exit→Act→World→Prop}{E:Prop}(hg:o.guard=none)(s x:Operand)
  (ho:o.op=.call { callee:=.builtin .append,args:=#[s,x],argTypes:=#[25,25] })
  (base:Nat) (xv:Option Addr) (xc n:Nat) (xs:List Value) (hs:a.eval s=.slice xv n xc) (hown:w.ownsRow base 62 5 (.slice xv n xc) n xs)
  (b yc:Nat) (x0 x1 x2 x3 x4:Value) (h1:∀ u∈[x0,x1,x2,x3,x4],u.oneCell'=true) (hx:a.eval x=.slice (some ⟨b,0,none⟩) 1 yc) (hc:R5 w b x0 x1 x2 x3 x4) (hlen:n+1≤100000000) (hbase:base≤w.heap.size)
  (h:∀ g cap w',w'.ownsRow base 62 5 (.slice (some ⟨g,0,none⟩) (n+1) cap) (n+1) (xs ++ [x0,x1,x2,x3,x4])→w.grownBy w' (Value.slice xv n xc).ownBlock→((Value.slice xv n xc).ownBlock=some g∨g=w.heap.size)→K (a.put o.dst (.slice (some ⟨g,0,none⟩) (n+1) cap)) w') :
  if Region.wanted o (yielded ops a.tmps)=true then Oper.wp Tryz.prog o a w K Q else E:=by
 have hw:Region.wanted o (yielded ops a.tmps)=true:=by simp [Region.wanted,hg]
 rw [if_pos hw];obtain ⟨ti,hi1,hi2,hi3,hi4⟩:=infoMail;refine wp_append_lies w s x 25 ho base 62 ti _ 5 72 Tryz.underlying25 hi1 hi2 hi3 hi4 rfl (by omega) (.slice xv n xc) n xs hs hown ⟨b,0,none⟩ 1 yc [x0,x1,x2,x3,x4] hx rfl (news5 hc) h1 (by omega) (by unfold maxLen;omega) (by omega) hbase _ rfl ?_;intro g cap w' hown' hgrow hat hlt;exact h g cap w' hown' hgrow hat
theorem wpList_appM {w:World}{ops:Array Oper}{rest:List Oper}{o:Oper}{a:Act}{Q:Exit→Act→World→Prop}(hw:Region.wanted o (yielded ops a.tmps)=true)(s x:Operand)
  (ho:o.op=.call { callee:=.builtin .append,args:=#[s,x],argTypes:=#[25,25] })
  (base:Nat) (xv:Option Addr) (xc n:Nat) (xs:List Value) (hs:a.eval s=.slice xv n xc) (hown:w.ownsRow base 62 5 (.slice xv n xc) n xs)
  (b yc:Nat) (x0 x1 x2 x3 x4:Value) (h1:∀ u∈[x0,x1,x2,x3,x4],u.oneCell'=true) (hx:a.eval x=.slice (some ⟨b,0,none⟩) 1 yc) (hc:R5 w b x0 x1 x2 x3 x4) (hlen:n+1≤100000000) (hbase:base≤w.heap.size)
  (h:∀ g cap w',w'.ownsRow base 62 5 (.slice (some ⟨g,0,none⟩) (n+1) cap) (n+1) (xs ++ [x0,x1,x2,x3,x4])→w.grownBy w' (Value.slice xv n xc).ownBlock→((Value.slice xv n xc).ownBlock=some g∨g=w.heap.size)→wpList Tryz.prog ops Q rest (a.put o.dst (.slice (some ⟨g,0,none⟩) (n+1) cap)) w'):wpList Tryz.prog ops Q (o :: rest) a w:=by
 obtain ⟨ti,hi1,hi2,hi3,hi4⟩:=infoMail;refine wpList_step fun K hK=>?_;rw [if_pos hw];refine wp_append_lies w s x 25 ho base 62 ti _ 5 72 Tryz.underlying25 hi1 hi2 hi3 hi4 rfl (by omega) (.slice xv n xc) n xs hs hown ⟨b,0,none⟩ 1 yc [x0,x1,x2,x3,x4] hx rfl (news5 hc) h1 (by omega) (by unfold maxLen;omega) (by omega) hbase _ rfl ?_;intro g cap w' hown' hgrow hat hlt;exact hK _ _ (h g cap w' hown' hgrow hat)
theorem wpList_appD {w:World}{ops:Array Oper}{rest:List Oper}{o:Oper}{a:Act}{Q:Exit→Act→World→Prop}(hw:Region.wanted o (yielded ops a.tmps)=true)(s x:Operand)
  (ho:o.op=.call { callee:=.builtin .append,args:=#[s,x],argTypes:=#[37,37] })
  (base:Nat) (xv:Option Addr) (xc:Nat) (hs:a.eval s=.slice xv 0 xc) (hown:w.ownsRow base 68 2 (.slice xv 0 xc) 0 (dcs []))
  (yv:Option Addr) (m yc:Nat) (ys:List (Int × Int)) (hx:a.eval x=.slice yv m yc) (hy:IsVec w yv m yc ys) (hlen:m≤1000000) (hbase:base≤w.heap.size)
  (h:∀ av cap w',w'.ownsRow base 68 2 (.slice av m cap) m (dcs ys)→Below base w w'→wpList Tryz.prog ops Q rest (a.put o.dst (.slice av m cap)) w'):wpList Tryz.prog ops Q (o :: rest) a w:=by
 obtain ⟨ti,hi1,hi2,hi3,hi4⟩:=infoDot;refine wpList_step fun K hK=>?_;rw [if_pos hw];by_cases hm0:m=0
 ·subst hm0
  have hys:ys=[]:=List.eq_nil_of_length_eq_zero hy.hlen;subst hys;have hrun:=run_append_zero (P:=Tryz.prog) (w:=w) base 37 o.type 68 ti 2 Tryz.underlying37 hi1 (.slice xv 0 xc) 0 (dcs []) hown yv yc;unfold Oper.wp;simp [execOp,ho,resolve,invoke,builtin,hs,hx,hrun,Result.andThen]
  exact hK _ _ (h xv xc w hown (Below.refl _ _))
 ·rcases hy.hlies with h0 | ⟨b,off,rfl,hb,hc⟩
  ·exact absurd h0 hm0
  have hnews:∀ j u,(dcs ys)[j]?=some u→w.cell? ((⟨b,off,none⟩:Addr).add j)=some u:=by
   intro j u hu;have hj:j<ys.length*2:=by
    have:=(List.getElem?_eq_some_iff.1 hu).1
    rwa [dcs_len] at this
   have e:u=dcell ys j:=by
    rw [←dcs_get ys j hj];simp [List.getD,hu]
   have hi:j / 2<m:=by have:=hy.hlen;omega
   obtain ⟨c0,c1⟩:=hc (j / 2) hi;rw [e];unfold dcell;by_cases e2:j % 2=0
   ·rw [if_pos e2]
    have e3:((⟨b,off,none⟩:Addr).add j)=⟨b,off+j / 2*2,none⟩:=by
     rw [Go.WideShapes.add_plain,show off+j=off+j / 2*2 by omega]
    rw [e3];exact c0
   ·rw [if_neg e2]
    have e3:((⟨b,off,none⟩:Addr).add j)=⟨b,off+j / 2*2+1,none⟩:=by
     rw [Go.WideShapes.add_plain,show off+j=off+j / 2*2+1 by omega]
    rw [e3];exact c1
  have h1:∀ u∈dcs ys,u.oneCell'=true:=by
   intro u hu;unfold dcs at hu;simp at hu
   obtain ⟨a,b,_,rfl | rfl⟩:=hu <;> rfl
  refine wp_append_lies w s x 37 ho base 68 ti _ 2 16 Tryz.underlying37 hi1 hi2 hi3 hi4 rfl (by omega) (.slice xv 0 xc) 0 (dcs []) hs hown ⟨b,off,none⟩ m yc (dcs ys) hx (by rw [dcs_len,hy.hlen]) hnews h1 (by omega) (by unfold maxLen;omega) (by omega) hbase _ rfl ?_;intro g cap w' hown' hgrow hat hlt;rw [Nat.zero_add] at hown' ⊢;refine hK _ _ (h _ _ _ ?_ ?_)
  ·exact hown'
  ·exact (Below.refl base w).grown hgrow hbase (owns_base hown)
end Go.Proofs.YtgcinolbkllkkaaGreat
