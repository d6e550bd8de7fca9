/-
  Texts of one proof, joined: Cv3.
-/
import Derived.Test.YtgcinolbkllkkaaGreatZFConverged20
import Derived.Test.YtgcinolbkllkkaaGreatZFConverged21
import Derived.Test.YtgcinolbkllkkaaGreatZFConverged23
set_option linter.unusedSimpArgs false
set_option linter.unusedVariables false
namespace M1
theorem rc_set {r:Rg}(ys:List Upd)(now:Int)(h:rOk r=true):setOk (rcR r ys now).us=true:=by
 unfold rcR;rw [if_pos h];by_cases h2:rcF ys now=true
 ·rw [if_pos h2];exact rOk_set h
 rw [if_neg h2];by_cases h3:tOk r.us ys=true
 ·rw [if_pos h3]
  by_cases h4:(mt r ys now).ok=true
  ·rw [if_pos h4];exact (tOk_true h3).2.2.1
  ·rw [if_neg h4];exact rOk_set h
 ·rw [if_neg h3];exact rOk_set h
def Bd (rs:List Rg)(ms:List Ml):Prop:=rs.length≤1000∧ms.length≤1000∧(∀ i,i<rs.length→(rgA rs i).us.length≤1000)∧∀ i,i<ms.length→(mlA ms i).vec.length≤1000∧(mlA ms i).del.length≤1000
theorem Bd.set {rs:List Rg}{ms:List Ml}(h:Bd rs ms)(j:Nat)(r:Rg)(hr:r.us.length≤1000):Bd (rs.set j r) ms:=by
 refine ⟨by simpa using h.1,h.2.1,fun i hi=>?_,h.2.2.2⟩;rw [List.length_set] at hi;by_cases e:j=i
 ·subst e;rw [rgA_set_same hi];exact hr
 ·rw [rgA_set_other e];exact h.2.2.1 i hi
theorem Bd.snoc {rs:List Rg}{ms:List Ml}(h:Bd rs ms)(m:Ml)(hl:ms.length≤999)(hm:m.vec.length≤1000∧m.del.length≤1000):Bd rs (ms ++ [m]):=by
 refine ⟨h.1,by simp;omega,h.2.2.1,fun i hi=>?_⟩;simp at hi
 by_cases e:i<ms.length
 ·rw [mlA_app e];exact h.2.2.2 i e
 ·obtain rfl:i=ms.length:=by omega
  rw [mlA_last];exact hm
end M1
namespace Go.Proofs.YtgcinolbkllkkaaGreat
open Go.ChangeShapes Go.WideShapes Go.ChangeAt Go.RowKit
structure WT (w:World)(lo:Nat)(rv mv:Value)(xs ys:List Value)(rs:List M1.Rg)(ms:List M1.Ml)(T:Nat→Prop):Prop where
 c:WC w lo rv mv xs ys rs ms
 x:RgX w (fun k=>SB lo rv mv k∨T k) (D0 (fx xs)) (fx xs) rs
 m:MlX w (fun k=>SB lo rv mv k∨T k) (D0 (fx xs)) (fx ys) ms
 t:∀ k,T k→¬OB rv mv k
theorem WT.below {w w':World}{lo:Nat}{rv mv:Value}{xs ys:List Value}{rs:List M1.Rg}{ms:List M1.Ml}{T:Nat→Prop}(h:WT w lo rv mv xs ys rs ms T)(hb:Below w.heap.size w w'):WT w' lo rv mv xs ys rs ms T:=⟨h.c.below hb,h.x.below hb,h.m.below hb,h.t⟩
theorem WT.add {w:World}{lo:Nat}{rv mv:Value}{xs ys:List Value}{rs:List M1.Rg}{ms:List M1.Ml}{T:Nat→Prop}(h:WT w lo rv mv xs ys rs ms T){T':Nat→Prop}(hT:∀ k,T' k→w.heap.size≤k):WT w lo rv mv xs ys rs ms (fun k=>T k∨T' k):=by
 have q:∀ k,k<w.heap.size→(SB lo rv mv k∨T k∨T' k)→(SB lo rv mv k∨T k):=fun k hk e=>by
  rcases e with e | e | e
  ·exact Or.inl e
  ·exact Or.inr e
  ·have:=hT k e;omega
 exact ⟨h.c,h.x.move q (fun _ _ e=>e),h.m.move q (fun _ _ e=>e),fun k e z=>by
  rcases e with e | e
  ·exact h.t k e z
  ·have:=hT k e;have:=(h.c.lt z).2;omega⟩
theorem WC.wt {w:World}{lo:Nat}{rv mv:Value}{xs ys:List Value}{rs:List M1.Rg}{ms:List M1.Ml}(h:WC w lo rv mv xs ys rs ms){T:Nat→Prop}(hT:∀ k,T k→(k<lo∨w.heap.size≤k)):WT w lo rv mv xs ys rs ms T:=by
 have q:∀ k,k<w.heap.size→(SB lo rv mv k∨T k)→SB lo rv mv k:=fun k hk e=>by
  rcases e with e | e
  ·exact e
  ·rcases hT k e with z | z
   ·exact Or.inl z
   ·omega
 exact ⟨h,h.r.x.move q (fun _ _ e=>e),h.x.move q (fun _ _ e=>e),fun k e z=>by
  have:=h.lt z;rcases hT k e with q | q <;> omega⟩
theorem WT.still {w wz:World}{lo:Nat}{a:Option Addr}{n c:Nat}{av:Option Addr}{n2 c2:Nat}{xs ys:List Value}{rs:List M1.Rg}{ms:List M1.Ml}{T:Nat→Prop}(h:WT w lo (.slice a n c) (.slice av n2 c2) xs ys rs ms T)(hG:Gs T w wz):IsRgs wz a n c rs∧IsMls wz av n2 c2 ms:=by
 have hn:rs.length=n:=h.c.rgs.hlen;have hm:ms.length=n2:=h.c.mls.hlen;have o:=h.c.r.own;rw [hn] at o;have o2:=h.c.own;rw [hm] at o2;exact ⟨isRgs_own (owns_gs o hG (fun k e q=>h.t k q (Or.inl e))) (h.x.gs (gs_mono hG fun k e=>Or.inr e)) hn,isMls_own (owns_gs o2 hG (fun k e q=>h.t k q (Or.inr e))) (h.m.gs (gs_mono hG fun k e=>Or.inr e)) hm⟩
def WA (w w':World)(S T:Nat→Prop)(e:Ending)(now:Int):Prop:=∃ (v:Option Addr) (n c:Nat) (v2:Option Addr) (n2 c2:Nat) (rs:List M1.Rg) (ms:List M1.Ml) (code:Int),e=.returned (.tuple #[.agg #[.int .i64 now,.slice v n c,.slice v2 n2 c2],.int .i64 code])∧(∀ wz,Gs T w' wz→IsRgs wz v n c rs∧IsMls wz v2 n2 c2 ms)∧M1.Bd rs ms∧Gs S w w'
theorem short_s {us:List M1.Upd}(h:M1.setOk us=true):∀ i,i<us.length→(M1.up us i).s.size≤maxLen:=fun i hi=>by
 have:=M1.ok_txt (M1.okAt_ok (M1.setOk_all h i hi));unfold maxLen;omega
def put5 (f:Nat→Value)(j:Nat)(r:M1.Rg)(v:Option Addr)(n c:Nat)(o:Nat):Value:=if o=j*5+4 then .slice v n c else if o=j*5+3 then .int .i64 r.c else if o=j*5+2 then .int .i64 r.b else if o=j*5+1 then .int .i64 r.a else if o=j*5 then .int .i64 r.id else f o
theorem row_put5 {w:World}{g m:Nat}{f:Nat→Value}(h:RowAt w g m f){j:Nat}(hj:j*5+5≤m)(r:M1.Rg)(v:Option Addr)(n c:Nat):RowAt (((((w.setCell ⟨g,j*5,none⟩ (.int .i64 r.id)).setCell ⟨g,j*5+1,none⟩ (.int .i64 r.a)).setCell ⟨g,j*5+2,none⟩ (.int .i64 r.b)).setCell ⟨g,j*5+3,none⟩ (.int .i64 r.c)).setCell ⟨g,j*5+4,none⟩ (.slice v n c)) g m (put5 f j r v n c) :=
 ((((h.set (o:=j*5) (by omega) _).set (o:=j*5+1) (by omega) _).set (o:=j*5+2) (by omega) _).set (o:=j*5+3) (by omega) _).set (o:=j*5+4) (by omega) _
theorem put5_far {f:Nat→Value}{j i:Nat}{r:M1.Rg}{v:Option Addr}{n c t:Nat}(h:¬i=j)(ht:t<5):put5 f j r v n c (i*5+t)=f (i*5+t):=by
 unfold put5;rw [if_neg (by omega),if_neg (by omega),if_neg (by omega),if_neg (by omega),if_neg (by omega)]
theorem rgX_put5 {w:World}{S D:Nat→Prop}{f:Nat→Value}{rs:List M1.Rg}(h:RgX w S D f rs){j:Nat}(hj:j<rs.length)(r:M1.Rg)(v:Option Addr)(n c:Nat)(hu:IsUpds w v n c r.us)(ha:∀ p,v=some p→p.block<w.heap.size∧¬S p.block):RgX w S (fun _=>False) (put5 f j r v n c) (rs.set j r):=fun i hi=>by
 rw [List.length_set] at hi;by_cases e:i=j
 ·subst e
  rw [M1.rgA_set_same hj];refine ⟨v,n,c,?_,?_,?_,?_,?_,hu,fun p q=>⟨(ha p q).1,(ha p q).2,fun _ z=>z⟩⟩
  ·unfold put5;rw [if_neg (by omega),if_neg (by omega),if_neg (by omega),if_neg (by omega),if_pos rfl]
  ·unfold put5;rw [if_neg (by omega),if_neg (by omega),if_neg (by omega),if_pos rfl]
  ·unfold put5;rw [if_neg (by omega),if_neg (by omega),if_pos rfl]
  ·unfold put5;rw [if_neg (by omega),if_pos rfl]
  ·unfold put5;rw [if_pos rfl]
 ·obtain ⟨v',n',c',h0,h1,h2,h3,h4,hu',ha'⟩:=h i hi
  rw [M1.rgA_set_other (fun q=>e q.symm)];exact ⟨v',n',c',(put5_far (t:=0) e (by omega)).trans h0,(put5_far (t:=1) e (by omega)).trans h1,(put5_far (t:=2) e (by omega)).trans h2,(put5_far (t:=3) e (by omega)).trans h3,(put5_far (t:=4) e (by omega)).trans h4,hu',fun p q=>⟨(ha' p q).1,(ha' p q).2.1,fun _ z=>z⟩⟩
theorem WT.put {w w4 w5 wz:World}{lo:Nat}{g n c:Nat}{av:Option Addr}{n2 c2:Nat}{xs ys:List Value}{rs:List M1.Rg}{ms:List M1.Ml}{T:Nat→Prop}(h:WT w lo (.slice (some ⟨g,0,none⟩) n c) (.slice av n2 c2) xs ys rs ms T)(hlo:lo≤w.heap.size)(hb:Below w.heap.size w w4){j:Nat}(hj:j<n)(r:M1.Rg)(v:Option Addr)(m c3:Nat)(hu:IsUpds w4 v m c3 r.us)(ha:∀ p,v=some p→p.block<w4.heap.size∧w.heap.size≤p.block∧¬T p.block)
  (hw5:w5=((((w4.setCell ⟨g,j*5,none⟩ (.int .i64 r.id)).setCell ⟨g,j*5+1,none⟩ (.int .i64 r.a)).setCell ⟨g,j*5+2,none⟩ (.int .i64 r.b)).setCell ⟨g,j*5+3,none⟩ (.int .i64 r.c)).setCell ⟨g,j*5+4,none⟩ (.slice v m c3)) (hz:Gs T w5 wz) :
  IsRgs wz (some ⟨g,0,none⟩) n c (rs.set j r)∧IsMls wz av n2 c2 ms:=by
 have hgl:g<w.heap.size:=(h.c.r.own.lt g rfl).2;obtain ⟨av',c',e1,h1,h2,h3,h4⟩:=owns_slice (h.c.below hb).r.own;injection e1 with e1 e2 e3;have hn:rs.length=n:=by omega
 rcases h4 with ⟨e4,_⟩ | ⟨g',e4,_,_,r5⟩
 ·rw [e4] at e1;cases e1
 rw [e4] at e1;injection e1 with e1;injection e1 with e1 _ _;subst e1;have hgT:¬T g:=fun q=>h.t g q (Or.inl rfl);have hG2:Gs (fun k=>k=g) w4 w5:=by
  rw [hw5];exact gs_one (gs_one (gs_one (gs_one (gs_one (gs_refl _ _) _ _) _ _) _ _) _ _) _ _
 have hG:Gs (fun k=>k=g∨T k) w wz:=gs_trans (gs_below hb) (gs_trans (gs_mono hG2 fun k q=>Or.inl q) (gs_mono hz fun k q=>Or.inr q));have hGS:Gs (fun k=>SB lo (.slice (some ⟨g,0,none⟩) n c) (.slice av n2 c2) k∨T k) w4 wz:=gs_trans (gs_mono hG2 fun k q=>Or.inl (Or.inr (Or.inl (by rw [q];rfl)))) (gs_mono hz fun k q=>Or.inr q);have hrow:RowAt wz g (n*5) (put5 (fx xs) j r v m c3):=by
  have q:RowAt w5 g (n*5) (put5 (fx xs) j r v m c3):=by
   rw [hw5];rw [hn] at r5;exact row_put5 r5 (by omega) r v m c3
  exact q.gs hz hgT
 have hx:=(rgX_put5 (j:=j) (h.x.below hb) (by omega) r v m c3 hu (fun p e=>⟨(ha p e).1,fun q=>by
  rcases q with q | q
  ·exact (h.c.fresh hlo (ha p e).2.1).1 q
  ·exact (ha p e).2.2 q⟩)).gs hGS
 refine ⟨isRgs_row (c:=c) hrow hx (by rw [List.length_set];exact hn) (by omega) (by omega),?_⟩;have hml:=h.c.mls;have hmn:ms.length=n2:=hml.hlen;have o:=h.c.own;rw [hmn] at o;exact isMls_own (owns_gs o hG (fun k e q=>by
  rcases q with q | q
  ·exact h.c.ap g rfl (by rw [←q];exact e)
  ·exact h.t k q (Or.inr e))) ((h.m.below hb).gs hGS) hmn
theorem WT.mailed {w wz:World}{lo:Nat}{a:Option Addr}{n c:Nat}{av:Option Addr}{n2 c2:Nat}{xs ys:List Value}{rs:List M1.Rg}{ms:List M1.Ml}{T:Nat→Prop}(h:WT w lo (.slice a n c) (.slice av n2 c2) xs ys rs ms T)(hG:Gs (fun k=>(Value.slice av n2 c2).ownBlock=some k∨T k) w wz)(m:M1.Ml)(v1:Option Addr)(n1 c1:Nat)(v2:Option Addr)(n3 c3:Nat)(hv:IsVec wz v1 n1 c1 m.vec)(hu:IsUpds wz v2 n3 c3 m.del)(h1:∀ p,v1=some p→p.block<wz.heap.size)(h2:∀ p,v2=some p→p.block<wz.heap.size){g cap:Nat}
  (own:wz.ownsRow lo 62 5 (.slice (some ⟨g,0,none⟩) (n2+1) cap) (n2+1) (ys ++ [.int .i64 m.fr,.int .i64 m.tt,.bool m.ask,.slice v1 n1 c1,.slice v2 n3 c3])) :
  IsRgs wz a n c rs∧IsMls wz (some ⟨g,0,none⟩) (n2+1) cap (ms ++ [m]):=by
 have hn:rs.length=n:=h.c.rgs.hlen;have hm:ms.length=n2:=h.c.mls.hlen;have hG':Gs (fun k=>SB lo (.slice a n c) (.slice av n2 c2) k∨T k) w wz:=gs_mono hG fun k e=>e.imp (fun e=>Or.inr (Or.inr e)) (fun e=>e);have o:=h.c.r.own;rw [hn] at o;have o2:=h.c.own;rw [hm] at o2;refine ⟨isRgs_own (owns_gs o hG (fun k e q=>by
  rcases q with q | q
  ·exact h.c.ap k e q
  ·exact h.t k q (Or.inl e))) (h.x.gs hG') hn,?_⟩
 have hx:=((h.m.gs hG').move (S':=fun _=>False) (D':=fun _=>False) (fun _ _ q=>q.elim) (fun _ _ q=>q.elim)).snoc (by rw [hm];exact o2.1) m v1 n1 c1 v2 n3 c3 hv hu (fun p e=>⟨h1 p e,fun q=>q,fun q=>q⟩) (fun p e=>⟨h2 p e,fun q=>q,fun q=>q⟩);exact isMls_own own hx (by rw [List.length_append,hm];rfl)
theorem ownB {g n c k:Nat}(e:(Value.slice (some ⟨g,0,none⟩) n c).ownBlock=some k):g=k:=by simpa [Value.ownBlock] using e
theorem noVec (w:World):IsVec w none 0 0 []:=⟨rfl,Nat.le_refl _,Nat.zero_le _,Or.inl rfl⟩
set_option maxHeartbeats 32000000 in
set_option maxRecDepth 100000 in
theorem l6Deliver_any (now:Int)(a:Option Addr)(n c3:Nat)(a2:Option Addr)(n2 c4:Nat)(xs ys:List Value)(rs:List M1.Rg)(ms:List M1.Ml)(lo:Nat)(m:M1.Ml)(v5:Option Addr)(n5 c5:Nat)(v6:Option Addr)(n6 c6:Nat)(w:World){T:Nat→Prop}(HT:WT w lo (.slice a n c3) (.slice a2 n2 c4) xs ys rs ms T)(hTl:∀ k,T k→k<w.heap.size)(hlo:lo≤w.heap.size)(hv:IsVec w v5 n5 c5 m.vec)(hu:IsUpds w v6 n6 c6 m.del)(hvo:Hid (M1.vecOk m.vec=true))(ht0:1≤m.tt)(ht1:m.tt≤(n:Int))(hok:Hid (∀ i,i<n→M1.rOk (M1.rgA rs i)=true))(hbd:Hid (M1.Bd rs ms))(hn2:n2≤900) :
  Calls Tryz.prog 138 #[.agg #[.int .i64 now,.slice a n c3,.slice a2 n2 c4],.agg #[.int .i64 m.fr,.int .i64 m.tt,.bool m.ask,.slice v5 n5 c5,.slice v6 n6 c6]] w fun e w'=>WA w w' (OB (.slice a n c3) (.slice a2 n2 c4)) T e now:=by
 have HW:=HT.c;have hrg:=HW.rgs;have hm1:=hrg.hcap;have hm2:=hrg.hmost;unfold maxLen at hm2;have hl1:Hid (rs.length=n):=hrg.hlen;have hl2:Hid (ms.length=n2):=HW.mls.hlen;have hA:Below w.heap.size w (((w.alloc (.cells #[.int .i64 now,.slice a n c3,.slice a2 n2 c4] 27)).alloc (.cells #[.int .i64 m.fr,.int .i64 m.tt,.bool m.ask,.slice v5 n5 c5,.slice v6 n6 c6] 62)).alloc (.cells #[.int .i64 0,.slice none 0 0,.slice none 0 0] 27)):=(((Below.refl _ _).alloc (Nat.le_refl _) _).alloc (by simp) _).alloc (by simp <;> omega) _;have A0:R3 (((w.alloc (.cells #[.int .i64 now,.slice a n c3,.slice a2 n2 c4] 27)).alloc (.cells #[.int .i64 m.fr,.int .i64 m.tt,.bool m.ask,.slice v5 n5 c5,.slice v6 n6 c6] 62)).alloc (.cells #[.int .i64 0,.slice none 0 0,.slice none 0 0] 27)) w.heap.size (.int .i64 now) (.slice a n c3) (.slice a2 n2 c4):=((r3_new w (.int .i64 now) (.slice a n c3) (.slice a2 n2 c4) 27).alloc _).alloc _;have M0:R5 (((w.alloc (.cells #[.int .i64 now,.slice a n c3,.slice a2 n2 c4] 27)).alloc (.cells #[.int .i64 m.fr,.int .i64 m.tt,.bool m.ask,.slice v5 n5 c5,.slice v6 n6 c6] 62)).alloc (.cells #[.int .i64 0,.slice none 0 0,.slice none 0 0] 27)) (w.alloc (.cells #[.int .i64 now,.slice a n c3,.slice a2 n2 c4] 27)).heap.size (.int .i64 m.fr) (.int .i64 m.tt) (.bool m.ask) (.slice v5 n5 c5) (.slice v6 n6 c6):=(r5_new (w.alloc (.cells #[.int .i64 now,.slice a n c3,.slice a2 n2 c4] 27)) (.int .i64 m.fr) (.int .i64 m.tt) (.bool m.ask) (.slice v5 n5 c5) (.slice v6 n6 c6) 62).alloc _;have Z0:R3 (((w.alloc (.cells #[.int .i64 now,.slice a n c3,.slice a2 n2 c4] 27)).alloc (.cells #[.int .i64 m.fr,.int .i64 m.tt,.bool m.ask,.slice v5 n5 c5,.slice v6 n6 c6] 62)).alloc (.cells #[.int .i64 0,.slice none 0 0,.slice none 0 0] 27)) ((w.alloc (.cells #[.int .i64 now,.slice a n c3,.slice a2 n2 c4] 27)).alloc (.cells #[.int .i64 m.fr,.int .i64 m.tt,.bool m.ask,.slice v5 n5 c5,.slice v6 n6 c6] 62)).heap.size (.int .i64 0) (.slice none 0 0) (.slice none 0 0):=r3_new ((w.alloc (.cells #[.int .i64 now,.slice a n c3,.slice a2 n2 c4] 27)).alloc (.cells #[.int .i64 m.fr,.int .i64 m.tt,.bool m.ask,.slice v5 n5 c5,.slice v6 n6 c6] 62)) (.int .i64 0) (.slice none 0 0) (.slice none 0 0) 27;rw [show (w.alloc (.cells #[.int .i64 now,.slice a n c3,.slice a2 n2 c4] 27)).heap.size=w.heap.size+1 by simp] at M0;rw [show ((w.alloc (.cells #[.int .i64 now,.slice a n c3,.slice a2 n2 c4] 27)).alloc (.cells #[.int .i64 m.fr,.int .i64 m.tt,.bool m.ask,.slice v5 n5 c5,.slice v6 n6 c6] 62)).heap.size=w.heap.size+1+1 by simp] at Z0;go_enter Tryz.func138,Tryz.ntmps138
 go_upto_region 1 with fail
 obtain ⟨w1,hw1⟩:∃ W,(((w.alloc (.cells #[.int .i64 now,.slice a n c3,.slice a2 n2 c4] 27)).alloc (.cells #[.int .i64 m.fr,.int .i64 m.tt,.bool m.ask,.slice v5 n5 c5,.slice v6 n6 c6] 62)).alloc (.cells #[.int .i64 0,.slice none 0 0,.slice none 0 0] 27))=W:=⟨_,rfl⟩
 rw [hw1] at hA A0 M0 Z0 ⊢;clear hw1;obtain ⟨pz,hpz⟩:∃ z,Hid (w.heap.size+1+1=z):=⟨_,rfl⟩
 obtain ⟨pm,hpm⟩:∃ z,Hid (w.heap.size+1=z):=⟨_,rfl⟩
 obtain ⟨pw,hpw⟩:∃ z,Hid (w.heap.size=z):=⟨_,rfl⟩
 rw [hpz.out] at Z0 ⊢;rw [hpm.out] at M0 ⊢;rw [hpw.out] at A0 ⊢;have k1:w.heap.size≤pw:=by have:=hpw.out;omega
 have k2:w.heap.size≤pm:=by have:=hpm.out;omega
 have k3:w.heap.size≤pz:=by have:=hpz.out;omega
 have k4:¬pw=pz:=by have:=hpw.out;have:=hpz.out;omega
 have k5:¬pm=pz:=by have:=hpm.out;have:=hpz.out;omega
 have HW1:=HW.below hA;have hv1:=hv.below hA;have hu1:=hu.below hA;rcases hrg.hlies with h0 | ⟨gR,off,rfl,hgl,hc⟩
 ·omega
 rcases HW1.rgs.hlies with h0 | ⟨gR',off',e',_,hc'⟩
 ·omega
 injection e' with e';injection e' with e1' e2' _;subst e1' e2';obtain ⟨v7,n7,c7,x0,x1,x2,x3,x4,hus⟩:=hc' (m.tt.toNat-1) (by omega);clear hc hc';have hrO:Hid (M1.rOk (M1.rgA rs (m.tt.toNat-1))=true):=hok.out _ (by omega);obtain ⟨r,hr⟩:∃ r,Hid (M1.rgA rs (m.tt.toNat-1)=r):=⟨_,rfl⟩
 rw [hr.out] at x0 x1 x2 x3 hus hrO;have i0:(0:Int)≤m.tt-1:=by omega
 have i1:m.tt-1<(n:Int):=by omega
 have hgl1:gR<w1.heap.size:=Nat.lt_of_lt_of_le hgl hA.size;have hA2:Below w1.heap.size w1 (w1.alloc (.cells #[.int .i64 r.id,.int .i64 r.a,.int .i64 r.b,.int .i64 r.c,.slice v7 n7 c7] 34)):=(Below.refl _ _).alloc (Nat.le_refl _) _;have G2:=r5_new w1 (.int .i64 r.id) (.int .i64 r.a) (.int .i64 r.b) (.int .i64 r.c) (.slice v7 n7 c7) 34;obtain ⟨d0,d1,d2⟩:=r3_cells A0;obtain ⟨e0,e1,e2,e3,e4⟩:=r5_cells M0;have dl:=A0.lt;have el:=M0.lt;go_upto_region 2 with fail
 obtain ⟨w2,hw2⟩:∃ W,w1.alloc (.cells #[.int .i64 r.id,.int .i64 r.a,.int .i64 r.b,.int .i64 r.c,.slice v7 n7 c7] 34)=W:=⟨_,rfl⟩
 rw [hw2] at hA2 G2 ⊢;clear hw2;obtain ⟨pr,hpr⟩:∃ z,Hid (w1.heap.size=z):=⟨_,rfl⟩
 rw [hpr.out] at G2 ⊢;have B2:=hA.trans (hA2.mono hA.size);have HW2:=HW.below B2;have hv2:=hv.below B2;have hu2:=hu.below B2;have A2:=A0.below hA2;have M2:=M0.below hA2;have Z2:=Z0.below hA2;have hus2:=hus.below hA2;have hsz2:=B2.size;have hpw2:pw<w2.heap.size:=A2.lt;have hpz2:pz<w2.heap.size:=Z2.lt;have hn7:n7≤60:=by have:=(rOk_short hrO.out).2;have:=hus.hlen;omega
 clear d0 d1 d2 e0 e1 e2 e3 e4 dl el x0 x1 x2 x3 x4 A0 M0 Z0 HW1 hv1 hu1 hus;obtain ⟨d0,d1,d2⟩:=r3_cells A2;obtain ⟨e0,e1,e2,e3,e4⟩:=r5_cells M2;obtain ⟨g0,g1,g2,g3,g4⟩:=r5_cells G2;have dl:=A2.lt;have el:=M2.lt;have gl:=G2.lt;obtain ⟨ask,hask⟩:∃ ask,Hid (m.ask=ask):=⟨_,rfl⟩
 rw [hask.out] at e2
 cases ask with
 | true =>
  go_wp2_with fail
  refine (l3Since_any _ _ _ _ _ _ r.us m.vec 3 _ hus2 hv2 hvo (by omega) (by omega) (by omega)).mono ?_;rintro e w3 ⟨⟨y,rfl,hown⟩,hb3⟩;obtain ⟨L,hL⟩:∃ L,Hid (M1.sinceTo r.us m.vec 3 n7=L):=⟨_,rfl⟩
  have hLl:L.length≤60:=by have:=M1.since_len r.us m.vec 3 n7;rw [hL.out] at this;omega
  have hsh:∀ i,i<L.length→(M1.up L i).s.size≤maxLen:=fun i hi=>by
   have e1:M1.up L i=L[i]:=by simp [M1.up,List.getD,hi]
   have hmem:M1.up L i∈M1.sinceTo r.us m.vec 3 n7:=by rw [hL.out,e1];exact List.getElem_mem hi
   obtain ⟨j,hj,e2⟩:=M1.since_mem n7 _ hmem;rw [e2];exact short_s (M1.rOk_set hrO.out) j (by rw [hus2.hlen];exact hj)
  rw [hL.out] at hown;obtain ⟨dv,dc,rfl,mu⟩:=MU.of_owns hown;have hd3:IsUpds w3 dv L.length dc L:=mu.upds rfl hsh;have B3:=B2.trans (hb3.mono B2.size);have HW3:=HW2.below hb3;have A3:=A2.below hb3;have M3:=M2.below hb3;have Z3:=Z2.below hb3;clear d0 d1 d2 e0 e1 e2 e3 e4 dl el A2 M2 Z2 HW2 hv2 hu2 hus2;obtain ⟨d0,d1,d2⟩:=r3_cells A3;obtain ⟨e0,e1,e2,e3,e4⟩:=r5_cells M3;have dl:=A3.lt;have el:=M3.lt;obtain ⟨z0,z1,z2⟩:=r3_cells Z3;obtain ⟨f0,f1,f2⟩:=r3_free Z3;have zl:=Z3.lt;obtain ⟨ll,hll⟩:∃ k,Hid (L.length=k):=⟨_,rfl⟩
  rw [hll.out] at hd3 mu ⊢;by_cases h0:0<ll
  ·have j0:(0:Int)<(ll:Int):=by omega
   have hA4:Below w3.heap.size w3 (w3.alloc (.cells #[.int .i64 m.tt,.int .i64 m.fr,.bool false,.slice none 0 0,.slice dv ll dc] 62)):=(Below.refl _ _).alloc (Nat.le_refl _) _;have E4:=r5_new w3 (.int .i64 m.tt) (.int .i64 m.fr) (.bool false) (.slice none 0 0) (.slice dv ll dc) 62;have HW4:=HW3.below hA4;have own4:(w3.alloc (.cells #[.int .i64 m.tt,.int .i64 m.fr,.bool false,.slice none 0 0,.slice dv ll dc] 62)).ownsRow lo 62 5 (.slice a2 n2 c4) n2 ys:=by have:=HW4.own;rwa [hl2.out] at this
   have hb4:=owns_base own4;have hb4':∀ k,(Value.slice a2 n2 c4).ownBlock=some k→k<w.heap.size:=fun k e=>(HW.own.lt k e).2;have hs3:=B3.size;go_upto_region 6 with (at_builtin;refine wpList_appM (by rfl) _ _ rfl lo a2 c4 n2 ys rfl own4 w3.heap.size 1 _ _ _ _ _ (one5M ⟨m.tt,m.fr,false,[],L⟩ none 0 0 dv ll dc) rfl E4 (by omega) (by simp;omega) ?_;intro g8 cap8 w8 own8 hgrow8 hat8;have A8:=row_blockA (A3.below hA4) (hgrow8.block pw (by simp;omega) (fun e=>by have:=hb4' pw e.symm;omega)) hgrow8.size;obtain ⟨y80,y81,y82⟩:=r3_cells A8;obtain ⟨f80,f81,f82⟩:=r3_free A8;have yl8:=A8.lt)
   have A9:=r3_set2 A8 (.slice (some ⟨g8,0,none⟩) (n2+1) cap8);have Z9:=(row_blockA (Z3.below hA4) (hgrow8.block pz (by simp;omega) (fun e=>by have:=hb4' pz e.symm;omega)) hgrow8.size).far (p:=⟨pw,2,none⟩) k4 (.slice (some ⟨g8,0,none⟩) (n2+1) cap8);have hd4:∀ p,dv=some p→w2.heap.size≤p.block∧p.block<w3.heap.size:=fun p e=>by
    rcases mu.2.2 with ⟨_,q⟩ | ⟨k,q,h1,h2,_⟩
    ·rw [e] at q;cases q
    ·rw [e] at q;cases q;exact ⟨h1,h2⟩
   have hG9:Gs (fun k=>(Value.slice a2 n2 c4).ownBlock=some k) w (w8.setCell ⟨pw,2,none⟩ (.slice (some ⟨g8,0,none⟩) (n2+1) cap8)):=gs_set (gs_grown (gs_alloc (gs_below B3) _) hgrow8 (fun k e=>Or.inl e)) ⟨pw,2,none⟩ (Or.inr k1) _;have hg8:¬g8=pw∧¬g8=pz∧g8<w8.heap.size:=by
    refine ⟨fun e=>?_,fun e=>?_,(own8.lt g8 rfl).2⟩
    ·rcases hat8 with q | q
     ·have:=hb4' _ q;omega
     ·simp at q;omega
    ·rcases hat8 with q | q
     ·have:=hb4' _ q;omega
     ·simp at q;omega
   have own9:=owns_gs own8 (gs_one (q:=pw) (gs_refl _ _) 2 (.slice (some ⟨g8,0,none⟩) (n2+1) cap8)) (fun k e q=>hg8.1 ((ownB e).trans q));have hd9:IsUpds (w8.setCell ⟨pw,2,none⟩ (.slice (some ⟨g8,0,none⟩) (n2+1) cap8)) dv ll dc L:=(hd3.below hA4).gs (S:=fun k=>k=pw∨(Value.slice a2 n2 c4).ownBlock=some k) (gs_set (S:=fun k=>k=pw∨(Value.slice a2 n2 c4).ownBlock=some k) (gs_grown (gs_refl _ _) hgrow8 (fun k e=>Or.inl (Or.inr e))) ⟨pw,2,none⟩ (Or.inl (show pw=pw∨(Value.slice a2 n2 c4).ownBlock=some pw from Or.inl rfl)) _) (fun p e q=>by
    have:=hd4 p e;rcases q with q | q
    ·omega
    ·have:=hb4' _ q;omega)
   have hbd8:M1.Bd rs (ms ++ [⟨m.tt,m.fr,false,[],L⟩]):=hbd.out.snoc _ (by rw [hl2.out];omega) ⟨by simp,by show L.length≤1000;omega⟩;have hs8:=hgrow8.size;have hs9:Hid ((w8.setCell ⟨pw,2,none⟩ (.slice (some ⟨g8,0,none⟩) (n2+1) cap8)).heap.size=w8.heap.size):=(by simp [World.setCell]:_=_)
   have hd9l:∀ p,dv=some p→p.block<(w8.setCell ⟨pw,2,none⟩ (.slice (some ⟨g8,0,none⟩) (n2+1) cap8)).heap.size:=fun p e=>by have:=(hd4 p e).2;have:=hs9.out;simp at hs8;omega
   obtain ⟨w9,hw9⟩:∃ W,w8.setCell ⟨pw,2,none⟩ (.slice (some ⟨g8,0,none⟩) (n2+1) cap8)=W:=⟨_,rfl⟩
   rw [hw9] at A9 Z9 hG9 own9 hd9 hd9l hs9 ⊢;clear hw9 y80 y81 y82 f80 f81 f82 d0 d1 d2 e0 e1 e2 e3 e4 dl el z0 z1 z2 f0 f1 f2 zl own8 A8 yl8;obtain ⟨d0,d1,d2⟩:=r3_cells A9;have dl:=A9.lt;obtain ⟨z0,z1,z2⟩:=r3_cells Z9;obtain ⟨f0,f1,f2⟩:=r3_free Z9;have zl:=Z9.lt;have Za:=r3_set2 (r3_set1 (r3_set0 Z9 (.int .i64 now)) (.slice (some ⟨gR,off,none⟩) n c3)) (.slice (some ⟨g8,0,none⟩) (n2+1) cap8);have hGa:Gs (fun k=>k=pz) w9 (((w9.setCell ⟨pz,0,none⟩ (.int .i64 now)).setCell ⟨pz,1,none⟩ (.slice (some ⟨gR,off,none⟩) n c3)).setCell ⟨pz,2,none⟩ (.slice (some ⟨g8,0,none⟩) (n2+1) cap8)):=gs_one (gs_one (gs_one (gs_refl _ _) _ _) _ _) _ _;have hGb:=gs_set (gs_set (gs_set hG9 ⟨pz,0,none⟩ (Or.inr k3) (.int .i64 now)) ⟨pz,1,none⟩ (Or.inr k3) (.slice (some ⟨gR,off,none⟩) n c3)) ⟨pz,2,none⟩ (Or.inr k3) (.slice (some ⟨g8,0,none⟩) (n2+1) cap8);go_wp2_with fail
   obtain ⟨Wz,hWz⟩:∃ W,((w9.setCell ⟨pz,0,none⟩ (.int .i64 now)).setCell ⟨pz,1,none⟩ (.slice (some ⟨gR,off,none⟩) n c3)).setCell ⟨pz,2,none⟩ (.slice (some ⟨g8,0,none⟩) (n2+1) cap8)=W:=⟨_,rfl⟩
   rw [hWz] at Za hGa hGb ⊢;clear hWz z0 z1 z2 f0 f1 f2;obtain ⟨z0,z1,z2⟩:=r3_cells Za;have hgT:¬T g8:=fun q=>by
    rcases hat8 with z | z
    ·exact HT.t g8 q (Or.inr z)
    ·have:=hTl g8 q;simp at z;omega
   have RM:∀ wz,Gs T Wz wz→IsRgs wz (some ⟨gR,off,none⟩) n c3 rs∧IsMls wz (some ⟨g8,0,none⟩) (n2+1) cap8 (ms ++ [⟨m.tt,m.fr,false,[],L⟩]):=fun wz hz =>
    HT.mailed (gs_trans (gs_mono hGb (fun k e=>Or.inl e)) (gs_mono hz (fun k e=>Or.inr e))) ⟨m.tt,m.fr,false,[],L⟩ none 0 0 dv ll dc (noVec _) ((hd9.gs hGa (fun p e=>by have:=hd4 p e;omega)).gs hz (fun p e q=>by have:=hd4 p e;have:=hTl _ q;omega)) (fun p e=>by cases e) (fun p e=>Nat.lt_of_lt_of_le (Nat.lt_of_lt_of_le (hd9l p e) hGa.size) hz.size) (owns_gs (owns_gs own9 hGa (fun k e q=>hg8.2.1 ((ownB e).trans q))) hz (fun k e q=>hgT (by rw [ownB e];exact q)))
   refine bodyPost_ret (v:=.tuple #[.agg #[.int .i64 now,.slice (some ⟨gR,off,none⟩) n c3,.slice (some ⟨g8,0,none⟩) (n2+1) cap8],.int .i64 0]) (by simp [results,Tryz.results138,go_sem,z0,z1,z2]) rfl ?_;exact ⟨_,_,_,_,_,_,rs,_,0,rfl,RM,hbd8,gs_mono hGb (fun k e=>Or.inr e)⟩
  ·have j0:¬(0:Int)<(ll:Int):=by omega
   have Z9:=r3_set2 (r3_set1 (r3_set0 Z3 (.int .i64 now)) (.slice (some ⟨gR,off,none⟩) n c3)) (.slice a2 n2 c4);have HW9:=HW.below (((B3.setCell (p:=⟨pz,0,none⟩) k3 (.int .i64 now)).setCell (p:=⟨pz,1,none⟩) k3 (.slice (some ⟨gR,off,none⟩) n c3)).setCell (p:=⟨pz,2,none⟩) k3 (.slice a2 n2 c4));have B9:=((B3.setCell (p:=⟨pz,0,none⟩) k3 (.int .i64 now)).setCell (p:=⟨pz,1,none⟩) k3 (.slice (some ⟨gR,off,none⟩) n c3)).setCell (p:=⟨pz,2,none⟩) k3 (.slice a2 n2 c4);go_wp2_with fail
   obtain ⟨Wz,hWz⟩:∃ W,((w3.setCell ⟨pz,0,none⟩ (.int .i64 now)).setCell ⟨pz,1,none⟩ (.slice (some ⟨gR,off,none⟩) n c3)).setCell ⟨pz,2,none⟩ (.slice a2 n2 c4)=W:=⟨_,rfl⟩
   rw [hWz] at Z9 HW9 B9 ⊢;clear hWz z0 z1 z2 f0 f1 f2;obtain ⟨z0,z1,z2⟩:=r3_cells Z9;refine bodyPost_ret (v:=.tuple #[.agg #[.int .i64 now,.slice (some ⟨gR,off,none⟩) n c3,.slice a2 n2 c4],.int .i64 0]) (by simp [results,Tryz.results138,go_sem,z0,z1,z2]) rfl ?_;exact ⟨_,_,_,_,_,_,rs,ms,0,rfl,fun wz hz=>HT.still (gs_trans (gs_below B9) hz),hbd.out,gs_below B9⟩
 | false =>
  go_wp2_with fail
  refine (l5Received_any r _ _ _ _ _ _ m.del now _ hus2 hu2 hrO).mono ?_;rintro e w3 ⟨⟨v,rfl,⟨rv,rc,rfl,mu⟩⟩,hb3⟩;obtain ⟨r2,hr2⟩:∃ q,Hid (M1.rcR r m.del now=q):=⟨_,rfl⟩
  obtain ⟨code,hcode⟩:∃ q,Hid (M1.rcC r m.del now=q):=⟨_,rfl⟩
  have hset:Hid (M1.setOk r2.us=true):=(by rw [←hr2.out];exact M1.rc_set m.del now hrO.out:_=_)
  rw [hr2.out] at mu ⊢;rw [hcode.out];have B3:=B2.trans (hb3.mono B2.size);have A3:=A2.below hb3;have M3:=M2.below hb3;have Z3:=Z2.below hb3;have hr2l:r2.us.length≤60:=M1.setOk_len hset.out;have hA4:Below w3.heap.size w3 (w3.alloc (.cells #[.int .i64 r2.id,.int .i64 r2.a,.int .i64 r2.b,.int .i64 r2.c,.slice rv r2.us.length rc] 34)):=(Below.refl _ _).alloc (Nat.le_refl _) _;have G4:=r5_new w3 (.int .i64 r2.id) (.int .i64 r2.a) (.int .i64 r2.b) (.int .i64 r2.c) (.slice rv r2.us.length rc) 34;go_upto_region 8 with fail
  obtain ⟨w4,hw4⟩:∃ W,w3.alloc (.cells #[.int .i64 r2.id,.int .i64 r2.a,.int .i64 r2.b,.int .i64 r2.c,.slice rv r2.us.length rc] 34)=W:=⟨_,rfl⟩
  rw [hw4] at hA4 G4 ⊢;clear hw4;obtain ⟨pq,hpq⟩:∃ z,Hid (w3.heap.size=z):=⟨_,rfl⟩
  rw [hpq.out] at G4 ⊢;have B4:=B3.trans (hA4.mono B3.size);have A4:=A3.below hA4;have M4:=M3.below hA4;have Z4:=Z3.below hA4;have HW4:=HW.below B4;have hU4:IsUpds w4 rv r2.us.length rc r2.us:=(mu.below hA4).upds rfl (short_s hset.out);have hrv:∀ p,rv=some p→w2.heap.size≤p.block∧p.block<w3.heap.size:=fun p e=>by
   rcases mu.2.2 with ⟨_,q⟩ | ⟨k,q,h1,h2,_⟩
   ·rw [e] at q;cases q
   ·rw [e] at q;cases q;exact ⟨h1,h2⟩
  have hs4:=hA4.size;clear d0 d1 d2 e0 e1 e2 e3 e4 g0 g1 g2 g3 g4 dl el gl A2 M2 Z2 HW2 hv2 hu2 hus2 A3 M3 Z3;obtain ⟨d0,d1,d2⟩:=r3_cells A4;obtain ⟨e0,e1,e2,e3,e4⟩:=r5_cells M4;obtain ⟨g0,g1,g2,g3,g4⟩:=r5_cells G4;have dl:=A4.lt;have el:=M4.lt;have gl:=G4.lt;by_cases hc0:code=0
  ·have hcb:(code != 0)=false:=by simp [hc0]
   clear hc0;have i0':(0:Int)≤m.tt-1:=by omega
   obtain ⟨hoff,hrow⟩:off=0∧RowAt w4 gR (n*5) (fx xs):=by
    obtain ⟨av',c',q1,_,_,_,q4⟩:=owns_slice HW4.r.own;injection q1 with q1 q2 _;rcases q4 with ⟨q4,_⟩ | ⟨g',q4,_,_,q5⟩
    ·rw [q4] at q1;cases q1
    ·rw [q4] at q1
     injection q1 with q1;injection q1 with q6 q7 _;subst q6;rw [q2];exact ⟨q7,q5⟩
   subst hoff;have hjn:(m.tt.toNat-1)*5+5≤n*5:=by omega
   have t0:=hrow.cell (o:=(m.tt.toNat-1)*5) (by omega);have t1:=hrow.cell (o:=(m.tt.toNat-1)*5+1) (by omega);have t2:=hrow.cell (o:=(m.tt.toNat-1)*5+2) (by omega);have t3:=hrow.cell (o:=(m.tt.toNat-1)*5+3) (by omega);have t4:=hrow.cell (o:=(m.tt.toNat-1)*5+4) (by omega);have u0:=hrow.free (o:=(m.tt.toNat-1)*5) (by omega);have u1:=hrow.free (o:=(m.tt.toNat-1)*5+1) (by omega);have u2:=hrow.free (o:=(m.tt.toNat-1)*5+2) (by omega);have u3:=hrow.free (o:=(m.tt.toNat-1)*5+3) (by omega);have u4:=hrow.free (o:=(m.tt.toNat-1)*5+4) (by omega);have hgl4:=hrow.lt;go_upto_region 11 with fail
   obtain ⟨w5,hw5⟩:∃ W,((((w4.setCell ⟨gR,(m.tt.toNat-1)*5,none⟩ (.int .i64 r2.id)).setCell ⟨gR,(m.tt.toNat-1)*5+1,none⟩ (.int .i64 r2.a)).setCell ⟨gR,(m.tt.toNat-1)*5+2,none⟩ (.int .i64 r2.b)).setCell ⟨gR,(m.tt.toNat-1)*5+3,none⟩ (.int .i64 r2.c)).setCell ⟨gR,(m.tt.toNat-1)*5+4,none⟩ (.slice rv r2.us.length rc)=W:=⟨_,rfl⟩
   have hG5:Gs (fun k=>k=gR) w4 w5:=by
    rw [←hw5];exact gs_one (gs_one (gs_one (gs_one (gs_one (gs_refl _ _) _ _) _ _) _ _) _ _) _ _
   have HTz:=HT.add (T':=fun k=>k=pz) (fun k q=>by omega);have hput:=fun (wz:World) (hz:Gs (fun k=>T k∨k=pz) w5 wz)=>HTz.put hlo B4 (j:=m.tt.toNat-1) (by omega) r2 rv r2.us.length rc hU4 (fun p e=>⟨by have:=(hrv p e).2;omega,by have:=(hrv p e).1;omega,fun q=>by
    have:=(hrv p e).1;rcases q with q | q
    ·have:=hTl _ q;omega
    ·omega⟩) hw5.symm hz
   rw [hw5];have A5:=A4.gs hG5 (by omega);have Z5:=Z4.gs hG5 (by omega);clear hw5 t0 t1 t2 t3 t4 u0 u1 u2 u3 u4 d0 d1 d2 e0 e1 e2 e3 e4 g0 g1 g2 g3 g4 dl el gl;obtain ⟨d0,d1,d2⟩:=r3_cells A5;have dl:=A5.lt;obtain ⟨z0,z1,z2⟩:=r3_cells Z5;obtain ⟨f0,f1,f2⟩:=r3_free Z5;have zl:=Z5.lt;have Z9:=r3_set2 (r3_set1 (r3_set0 Z5 (.int .i64 now)) (.slice (some ⟨gR,0,none⟩) n c3)) (.slice a2 n2 c4);have hGa:Gs (fun k=>k=pz) w5 (((w5.setCell ⟨pz,0,none⟩ (.int .i64 now)).setCell ⟨pz,1,none⟩ (.slice (some ⟨gR,0,none⟩) n c3)).setCell ⟨pz,2,none⟩ (.slice a2 n2 c4)):=gs_one (gs_one (gs_one (gs_refl _ _) _ _) _ _) _ _;have GG:Gs (OB (.slice (some ⟨gR,0,none⟩) n c3) (.slice a2 n2 c4)) w (((w5.setCell ⟨pz,0,none⟩ (.int .i64 now)).setCell ⟨pz,1,none⟩ (.slice (some ⟨gR,0,none⟩) n c3)).setCell ⟨pz,2,none⟩ (.slice a2 n2 c4)):=gs_set (gs_set (gs_set (gs_trans (gs_below B4) (gs_mono hG5 (fun k e=>Or.inl (by rw [e];rfl)))) ⟨pz,0,none⟩ (Or.inr k3) _) ⟨pz,1,none⟩ (Or.inr k3) _) ⟨pz,2,none⟩ (Or.inr k3) _;have hbd9:M1.Bd (rs.set (m.tt.toNat-1) r2) ms:=hbd.out.set _ r2 (by omega);go_wp2_with fail
   obtain ⟨Wz,hWz⟩:∃ W,((w5.setCell ⟨pz,0,none⟩ (.int .i64 now)).setCell ⟨pz,1,none⟩ (.slice (some ⟨gR,0,none⟩) n c3)).setCell ⟨pz,2,none⟩ (.slice a2 n2 c4)=W:=⟨_,rfl⟩
   rw [hWz] at Z9 hGa GG ⊢;clear hWz z0 z1 z2 f0 f1 f2;obtain ⟨z0,z1,z2⟩:=r3_cells Z9;refine bodyPost_ret (v:=.tuple #[.agg #[.int .i64 now,.slice (some ⟨gR,0,none⟩) n c3,.slice a2 n2 c4],.int .i64 0]) (by simp [results,Tryz.results138,go_sem,z0,z1,z2]) rfl ?_;exact ⟨_,_,_,_,_,_,rs.set (m.tt.toNat-1) r2,ms,0,rfl,fun wz hz=>hput _ (gs_trans (gs_mono hGa (fun k e=>Or.inr e)) (gs_mono hz (fun k e=>Or.inl e))),hbd9,GG⟩
  ·have hcb:(code != 0)=true:=by simp [hc0]
   clear hc0;obtain ⟨z0,z1,z2⟩:=r3_cells Z4;obtain ⟨f0,f1,f2⟩:=r3_free Z4;have zl:=Z4.lt;have Z9:=r3_set2 (r3_set1 (r3_set0 Z4 (.int .i64 now)) (.slice (some ⟨gR,off,none⟩) n c3)) (.slice a2 n2 c4);have B9:=((B4.setCell (p:=⟨pz,0,none⟩) k3 (.int .i64 now)).setCell (p:=⟨pz,1,none⟩) k3 (.slice (some ⟨gR,off,none⟩) n c3)).setCell (p:=⟨pz,2,none⟩) k3 (.slice a2 n2 c4);have HW9:=HW.below B9;go_wp2_with fail
   obtain ⟨Wz,hWz⟩:∃ W,((w4.setCell ⟨pz,0,none⟩ (.int .i64 now)).setCell ⟨pz,1,none⟩ (.slice (some ⟨gR,off,none⟩) n c3)).setCell ⟨pz,2,none⟩ (.slice a2 n2 c4)=W:=⟨_,rfl⟩
   rw [hWz] at Z9 HW9 B9 ⊢;clear hWz z0 z1 z2 f0 f1 f2;obtain ⟨z0,z1,z2⟩:=r3_cells Z9;refine bodyPost_ret (v:=.tuple #[.agg #[.int .i64 now,.slice (some ⟨gR,off,none⟩) n c3,.slice a2 n2 c4],.int .i64 4]) (by simp [results,Tryz.results138,go_sem,z0,z1,z2]) rfl ?_;exact ⟨_,_,_,_,_,_,rs,ms,4,rfl,fun wz hz=>HT.still (gs_trans (gs_below B9) hz),hbd.out,gs_below B9⟩
end Go.Proofs.YtgcinolbkllkkaaGreat
