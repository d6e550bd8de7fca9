/-
  Texts of one proof, joined: Rdr, ToDotS, Own, OwnU, MapU.
-/
import Derived.Test.YtgcinolbkllkkaaGreatZFConverged01
import Derived.Deep.AppendLies
import Derived.Laws.BytesArg
import Derived.Carry
import Derived.Maps.OwnOps
set_option linter.unusedSimpArgs false
set_option linter.unusedVariables false
namespace Go.Proofs.YtgcinolbkllkkaaGreat
open Go.RowKit
abbrev Gr (g:Nat)(w w':World):Prop:=w.grownBy w' (some g)
theorem gr_refl (g:Nat)(w:World):Gr g w w:=⟨rfl,rfl,rfl,Nat.le_refl _,fun _ _ _=>rfl⟩
theorem gr_trans {g:Nat}{a b c:World}(h:Gr g a b)(k:Gr g b c):Gr g a c :=
 ⟨k.os.trans h.os,k.tape.trans h.tape,k.output.trans h.output,Nat.le_trans h.size k.size,fun i hi hn=>(k.block i (Nat.lt_of_lt_of_le hi h.size) hn).trans (h.block i hi hn)⟩
theorem gr_below {g:Nat}{a b:World}(h:Below a.heap.size a b):Gr g a b:=⟨h.os,h.tape,h.output,h.size,fun i hi _=>h.block i hi⟩
theorem gr_drew {g:Nat}{a b:World}(h:Gr g a b):Gr g a b.drew:=⟨h.os,h.tape,h.output,h.size,h.block⟩
theorem gr_set {g:Nat}{a b:World}(h:Gr g a b)(o:Nat)(v:Value):Gr g a (b.setCell ⟨g,o,none⟩ v) :=
 gr_trans h ⟨rfl,rfl,rfl,by simp [World.setCell],fun k _ hn=>Below.heap_setCell _ _ _ _ (fun e=>hn (by rw [e]))⟩
theorem gr_new {g:Nat}{a b:World}(h:Gr g a b)(p:Addr)(hp:a.heap.size≤p.block)(v:Value):Gr g a (b.setCell p v) :=
 ⟨h.os,h.tape,h.output,Nat.le_trans h.size (by simp [World.setCell]),fun k hk hn=>(Below.heap_setCell _ _ _ _ (by omega)).trans (h.block k hk hn)⟩
theorem gr_alloc {g:Nat}{a b:World}(h:Gr g a b)(o:Obj):Gr g a (b.alloc o):=gr_trans h (gr_below ((Below.refl _ _).alloc (Nat.le_refl _) o))
theorem gr_to {g B:Nat}{a b:World}(h:Gr g a b)(hB:B≤a.heap.size)(hg:B≤g):Below B a b :=
 (Below.refl B a).grown h hB (fun k e=>by injection e with e;omega)
theorem gr_cell {g:Nat}{a b:World}(h:Gr g a b){k:Nat}(hk:k<a.heap.size)(hn:k≠g)(o:Nat):b.cell? ⟨k,o,none⟩=a.cell? ⟨k,o,none⟩ :=
 World.cell?_of_block (w:=a) (h.block k hk (fun e=>hn (by injection e)))
theorem gr_frozen {g:Nat}{a b:World}(h:Gr g a b){k:Nat}(hk:k<a.heap.size)(hn:k≠g)(o:Nat):b.frozen? ⟨k,o,none⟩=a.frozen? ⟨k,o,none⟩ :=
 World.frozen?_of_block (w:=a) (h.block k hk (fun e=>hn (by injection e)))
theorem gr_rules {g:Nat}{a b:World}(h:Gr g a b):(∀ k o,k<a.heap.size→¬k=g→b.cell? ⟨k,o,none⟩=a.cell? ⟨k,o,none⟩)∧(∀ k o,k<a.heap.size→¬k=g→b.frozen? ⟨k,o,none⟩=a.frozen? ⟨k,o,none⟩)∧(∀ n,n<a.heap.size→n<b.heap.size)∧(∀ n,n<a.heap.size→¬n=b.heap.size) :=
 ⟨fun _ o hk hn=>gr_cell h hk hn o,fun _ o hk hn=>gr_frozen h hk hn o,fun n h2=>Nat.lt_of_lt_of_le h2 h.size,fun n h2=>by have:=h.size;omega⟩
theorem RowAt.gr {w w':World}{k m g:Nat}{f:Nat→Value}(h:RowAt w k m f)(hg:Gr g w w')(hn:k≠g):RowAt w' k m f :=
 ⟨Nat.lt_of_lt_of_le h.1 hg.size,fun o ho=>⟨(gr_cell hg h.1 hn o).trans (h.2 o ho).1,(gr_frozen hg h.1 hn o).trans (h.2 o ho).2⟩⟩
structure Rdr (w:World)(g:Nat)(av:Option Addr)(len cap:Nat):Prop where
 lt:g<w.heap.size
 c0:w.cell? ⟨g,0,none⟩=some (.slice av len cap)
 c1:∃ p:Nat,p≤len∧w.cell? ⟨g,1,none⟩=some (.int .i64 p)
 f0:w.frozen? ⟨g,0,none⟩=false
 f1:w.frozen? ⟨g,1,none⟩=false
 hc:len≤cap
 hm:cap≤maxLen
 lies:len=0∨∃ b off,av=some ⟨b,off,none⟩∧b<w.heap.size∧¬b=g∧∀ i,i<len→∃ z,w.cell? ⟨b,off+i,none⟩=some (.int .u8 z)∧0≤z∧z≤255
theorem Rdr.below {w w':World}{g:Nat}{av:Option Addr}{len cap:Nat}(h:Rdr w g av len cap)(hb:Below w.heap.size w w'):Rdr w' g av len cap:=by
 obtain ⟨p,hp,h1⟩:=h.c1;exact ⟨Nat.lt_of_lt_of_le h.lt hb.size,(hb.cell (p:=⟨g,0,none⟩) h.lt).trans h.c0,⟨p,hp,(hb.cell (p:=⟨g,1,none⟩) h.lt).trans h1⟩,(hb.frozen (p:=⟨g,0,none⟩) h.lt).trans h.f0,(hb.frozen (p:=⟨g,1,none⟩) h.lt).trans h.f1,h.hc,h.hm,
  h.lies.imp id fun ⟨b,off,e,hlt,hn,hz⟩=>⟨b,off,e,Nat.lt_of_lt_of_le hlt hb.size,hn,fun i hi=>let ⟨z,h2,h3⟩:=hz i hi;⟨z,(hb.cell (p:=⟨b,off+i,none⟩) hlt).trans h2,h3⟩⟩⟩
theorem Rdr.set {w:World}{g:Nat}{av:Option Addr}{len cap:Nat}(h:Rdr w g av len cap){p:Nat}(hp:p≤len):Rdr (w.setCell ⟨g,1,none⟩ (.int .i64 p)) g av len cap:=by
 obtain ⟨q,_,h1⟩:=h.c1;refine ⟨by have:=h.lt;simpa [World.setCell] using this,?_,⟨p,hp,World.cell?_setCell_same w _ _ h1⟩,by rw [frozen_setCell];exact h.f0,by rw [frozen_setCell];exact h.f1,h.hc,h.hm,?_⟩
 ·rw [World.cell?_setCell_other w _ _ _ (by simp)];exact h.c0
 ·exact h.lies.imp id fun ⟨b,off,e,hlt,hn,hz⟩=>⟨b,off,e,by simpa [World.setCell] using hlt,hn,fun i hi=>let ⟨z,h2,h3⟩:=hz i hi;⟨z,(World.cell?_setCell_other w _ _ _ (fun e=>hn (by injection e with e1 _ _;exact e1.symm))).trans h2,h3⟩⟩
theorem Rdr.old {w:World}{g:Nat}{av:Option Addr}{len cap:Nat}(h:Rdr w g av len cap){k:Nat}(hk:w.heap.size≤k):len=0∨∃ b off,av=some ⟨b,off,none⟩∧¬k=b :=
 h.lies.imp id fun ⟨b,off,e,hlt,_,_⟩=>⟨b,off,e,by omega⟩
theorem Rdr.far {w:World}{g:Nat}{av:Option Addr}{len cap:Nat}(h:Rdr w g av len cap){p:Addr}(hp:¬p.block=g)(hq:len=0∨∃ b off,av=some ⟨b,off,none⟩∧¬p.block=b)(v:Value):Rdr (w.setCell p v) g av len cap:=by
 obtain ⟨q,hq1,h1⟩:=h.c1;have ne:∀ o,p≠⟨g,o,none⟩:=fun o e=>hp (by rw [e]);refine ⟨by have:=h.lt;simpa [World.setCell] using this,?_,⟨q,hq1,?_⟩,by rw [frozen_setCell];exact h.f0,by rw [frozen_setCell];exact h.f1,h.hc,h.hm,?_⟩
 ·rw [World.cell?_setCell_other w _ _ _ (ne 0)];exact h.c0
 ·rw [World.cell?_setCell_other w _ _ _ (ne 1)];exact h1
 ·rcases hq with hq | ⟨b1,off1,e1,hq⟩
  ·exact Or.inl hq
  ·exact h.lies.imp id fun ⟨b,off,e,hlt,hn,hz⟩=>⟨b,off,e,by simpa [World.setCell] using hlt,hn,fun i hi=>let ⟨z,h2,h3⟩:=hz i hi;⟨z,(World.cell?_setCell_other w _ _ _ (fun e2=>by
    rw [e1] at e;injection e with e;injection e with e3 _ _;rw [e2] at hq;exact hq e3.symm)).trans h2,h3⟩⟩
end Go.Proofs.YtgcinolbkllkkaaGreat
namespace Go.Proofs.YtgcinolbkllkkaaGreat
open Go.ChangeShapes Go.WideShapes Go.ChangeAt Go.RowKit
def dcell (ds:List (Int × Int))(o:Nat):Value:=if o % 2=0 then .int .i64 (M1.rg ds (o / 2)) else .int .i64 (M1.nm ds (o / 2))
theorem dcell_even (ds:List (Int × Int))(k:Nat):dcell ds (k*2)=.int .i64 (M1.rg ds k):=by
 unfold dcell;rw [if_pos (by omega),show k*2 / 2=k from by omega]
theorem dcell_odd (ds:List (Int × Int))(k:Nat):dcell ds (k*2+1)=.int .i64 (M1.nm ds k):=by
 unfold dcell;rw [if_neg (by omega),show (k*2+1) / 2=k from by omega]
theorem isVec_of_row {w:World}{g n cap:Nat}{ds:List (Int × Int)}(hl:ds.length=n)(hc:n≤cap)(hm:cap≤maxLen)(h:RowAt w g (n*2) (dcell ds)):IsVec w (some ⟨g,0,none⟩) n cap ds :=
 ⟨hl,hc,hm,Or.inr ⟨g,0,rfl,h.lt,fun i hi=>⟨by rw [Nat.zero_add,h.cell (by omega),dcell_even],by rw [Nat.zero_add,h.cell (by omega),dcell_odd]⟩⟩⟩
theorem infoDot0:(Tryz.prog.info? 68).map (fun i=>(i.zero,i.size,i.bytes))=some (some (.agg #[.int .i64 0,.int .i64 0]),2,16):=by kernel_rfl
theorem infoDot:∃ i,Tryz.prog.info? 68=some i∧i.zero=some (.agg #[.int .i64 0,.int .i64 0])∧i.size=2∧i.bytes=16:=by
 have h:=infoDot0
 cases e:Tryz.prog.info? 68 with
 | none=>rw [e] at h;cases h
 | some i=>rw [e] at h;simp at h;exact ⟨i,rfl,h.1,h.2.1,h.2.2⟩
def dcs (ds:List (Int × Int)):List Value:=ds.flatMap fun d=>[.int .i64 d.1,.int .i64 d.2]
theorem dcs_snoc (ds:List (Int × Int))(d:Int × Int):dcs (ds ++ [d])=dcs ds ++ [.int .i64 d.1,.int .i64 d.2]:=by simp [dcs]
theorem dcs_len:∀ ds:List (Int × Int),(dcs ds).length=ds.length*2
 | []=>rfl
 | d :: r=>by simp only [dcs,List.flatMap_cons,List.length_append,List.length_cons];have:=dcs_len r;unfold dcs at this;rw [this];simp;omega
theorem dcs_get:∀ (ds:List (Int × Int))(o:Nat),o<ds.length*2→(dcs ds).getD o undef=dcell ds o
 | [],o,h=>by simp at h
 | d :: r,0,_=>by simp [dcs,dcell,M1.rg]
 | d :: r,1,_=>by simp [dcs,dcell,M1.nm]
 | d :: r,o+2,h=>by
  have ih:=dcs_get r o (by simp at h;omega);have e1:(dcs (d :: r)).getD (o+2) undef=(dcs r).getD o undef:=by simp [dcs]
  have e2:dcell (d :: r) (o+2)=dcell r o:=by
   unfold dcell;rw [show (o+2) % 2=o % 2 from by omega,show (o+2) / 2=o / 2+1 from by omega];simp [M1.rg,M1.nm]
  rw [e1,e2,ih]
theorem owns_below {w w':World}{base:Nat}{e:TypeId}{size n:Nat}{v:Value}{xs:List Value}(h:w.ownsRow base e size v n xs)(hb:Below w.heap.size w w'):w'.ownsRow base e size v n xs:=by
 obtain ⟨h1,h2⟩:=h;refine ⟨h1,h2.imp id fun ⟨g,cap,cur,hv,hg,hh,r⟩=>⟨g,cap,cur,hv,hg,?_,r⟩⟩;have hlt:g<w.heap.size:=by
  rcases Nat.lt_or_ge g w.heap.size with h | h
  ·exact h
  ·rw [Array.getElem?_eq_none h] at hh;cases hh
 rw [hb.block g hlt];exact hh
theorem owns_vec {w:World}{base:Nat}{e:TypeId}{v:Value}{ds:List (Int × Int)}(h:w.ownsRow base e 2 v ds.length (dcs ds)) :
  ∃ av cap,v=.slice av ds.length cap∧IsVec w av ds.length cap ds∧((av=none∧ds.length=0)∨∃ g,av=some ⟨g,0,none⟩∧base≤g∧RowAt w g (ds.length*2) (dcell ds)):=by
 have h0:=h;obtain ⟨h1,h2⟩:=h;rcases h2 with ⟨rfl,h3⟩ | ⟨g,cap,cur,rfl,hg,hh,hn,hm,hs,ht⟩
 ·exact ⟨none,0,by rw [h3],⟨rfl,by omega,by unfold maxLen;omega,Or.inl h3⟩,Or.inl ⟨rfl,h3⟩⟩
 ·have hr:=(RowAt.of_owns h0).same fun o ho=>dcs_get ds o ho
  exact ⟨some ⟨g,0,none⟩,cap,rfl,isVec_of_row rfl hn hm hr,Or.inr ⟨g,rfl,hg,hr⟩⟩
theorem owns_base {w:World}{base:Nat}{e:TypeId}{size n:Nat}{v:Value}{xs:List Value}(h:w.ownsRow base e size v n xs):∀ k,v.ownBlock=some k→base≤k:=by
 intro k hk;rcases h.2 with ⟨rfl,_⟩ | ⟨g,cap,cur,rfl,hg,_⟩
 ·simp [Value.ownBlock] at hk
 ·simp [Value.ownBlock] at hk;omega
theorem owns_snoc {w:World}{base:Nat}{e:TypeId}{v:Value}{ds:List (Int × Int)}{a b:Int}(h:w.ownsRow base e 2 v (ds.length+1) (dcs ds ++ [.int .i64 a,.int .i64 b])):w.ownsRow base e 2 v (ds ++ [(a,b)]).length (dcs (ds ++ [(a,b)])):=by
 rw [dcs_snoc];simpa using h
theorem owns_less {w:World}{base base':Nat}{e:TypeId}{size n:Nat}{v:Value}{xs:List Value}(h:w.ownsRow base e size v n xs)(hb:base'≤base):w.ownsRow base' e size v n xs :=
 ⟨h.1,h.2.imp id fun ⟨g,cap,cur,hv,hg,r⟩=>⟨g,cap,cur,hv,by omega,r⟩⟩
theorem owns_nil (w:World)(base:Nat)(e:TypeId):w.ownsRow base e 2 (.slice none 0 0) ([]:List (Int × Int)).length (dcs []):=⟨rfl,Or.inl ⟨rfl,rfl⟩⟩
theorem owns_empty (w:World)(e:TypeId):(w.alloc (.cells #[] e)).ownsRow w.heap.size e 2 (.slice (some ⟨w.heap.size,0,none⟩) 0 0) ([]:List (Int × Int)).length (dcs []):=by
 refine ⟨rfl,Or.inr ⟨w.heap.size,0,#[],rfl,Nat.le_refl _,?_,Nat.le_refl _,by unfold maxLen;omega,rfl,rfl⟩⟩;show (w.heap.push (.cells #[] e))[w.heap.size]?=_
 simp
theorem news2 (w:World)(a b:Value)(t:TypeId):∀ j u,[a,b][j]?=some u→(w.alloc (.cells #[a,b] t)).cell? ((⟨w.heap.size,0,none⟩:Addr).add j)=some u:=by
 intro j u hu
 match j,hu with
 | 0,hu=>simp at hu;subst hu;simp [Addr.add]
 | 1,hu=>simp at hu;subst hu;simp [Addr.add]
 | j+2,hu=>simp at hu
theorem one2 (a b:Int):∀ u∈[Value.int .i64 a,Value.int .i64 b],u.oneCell'=true:=by
 intro u hu;simp at hu
 rcases hu with rfl | rfl <;> rfl
def ucL (us:List M1.Upd):List Value:=us.flatMap ucs
theorem ucL_snoc (us:List M1.Upd)(u:M1.Upd):ucL (us ++ [u])=ucL us ++ ucs u:=by simp [ucL]
theorem ucs_len (u:M1.Upd):(ucs u).length=13:=rfl
theorem ucL_len:∀ us:List M1.Upd,(ucL us).length=us.length*13
 | []=>rfl
 | d :: r=>by
  have:=ucL_len r;simp only [ucL,List.flatMap_cons,List.length_append,ucs_len,List.length_cons] at this ⊢;omega
theorem ucL_get:∀ (us:List M1.Upd)(o:Nat),o<us.length*13→(ucL us).getD o undef=ucell us o
 | [],o,h=>by simp at h
 | d :: r,o,h=>by
  have e0:ucL (d :: r)=ucs d ++ ucL r:=rfl;by_cases hlt:o<13
  ·have e1:(ucL (d :: r)).getD o undef=(ucs d).getD o undef:=by
    rw [e0];simp [List.getD,List.getElem?_append_left (show o<(ucs d).length by rw [ucs_len];exact hlt)]
   rw [e1];unfold ucell;rw [show o / 13=0 from by omega,show o % 13=o from by omega]
   rfl
  ·obtain ⟨q,rfl⟩:∃ q,o=13+q:=⟨o-13,by omega⟩
   have ih:=ucL_get r q (by simp at h;omega);have e1:(ucL (d :: r)).getD (13+q) undef=(ucL r).getD q undef:=by
    rw [e0];simp [List.getD,List.getElem?_append_right (show (ucs d).length≤13+q by rw [ucs_len];omega),ucs_len]
   have e2:ucell (d :: r) (13+q)=ucell r q:=by
    unfold ucell;rw [show (13+q) / 13=q / 13+1 from by omega,show (13+q) % 13=q % 13 from by omega]
    rfl
   rw [e1,e2,ih]
def MU (w:World)(av:Option Addr)(n cap lo hi:Nat)(f:Nat→Value):Prop :=
 n≤cap∧cap≤maxLen∧((n=0∧av=none)∨∃ g,av=some ⟨g,0,none⟩∧lo≤g∧g<hi∧RowAt w g (n*13) f)
def MkU (av:Option Addr)(w w':World):Prop:=(av=none→Below w.heap.size w w')∧∀ g,av=some ⟨g,0,none⟩→Gr g w w'
theorem MU.below {w w':World}{av:Option Addr}{n cap lo hi:Nat}{f:Nat→Value}(h:MU w av n cap lo hi f)(hb:Below w.heap.size w w'):MU w' av n cap lo hi f :=
 ⟨h.1,h.2.1,h.2.2.imp id fun ⟨g,e,h1,h2,r⟩=>⟨g,e,h1,h2,r.below hb⟩⟩
theorem MU.off {w w':World}{av:Option Addr}{n cap lo hi g:Nat}{f:Nat→Value}(h:MU w av n cap lo hi f)(hg:Gr g w w')(hb:g<lo∨hi≤g):MU w' av n cap lo hi f :=
 ⟨h.1,h.2.1,h.2.2.imp id fun ⟨k,e,h1,h2,r⟩=>⟨k,e,h1,h2,r.gr hg (by omega)⟩⟩
theorem MU.mk {w w':World}{av bv:Option Addr}{n cap lo hi m cm lo2 hi2:Nat}{f f2:Nat→Value}(h:MU w av n cap lo hi f)(h2:MU w bv m cm lo2 hi2 f2)(hm:MkU bv w w')(hd:hi≤lo2∨hi2≤lo):MU w' av n cap lo hi f:=by
 rcases h2.2.2 with ⟨_,h0⟩ | ⟨g2,e2,h5,h6,_⟩
 ·exact h.below (hm.1 h0)
 ·exact h.off (hm.2 g2 e2) (by omega)
theorem MkU.below {w w':World}{bv:Option Addr}{m cm lo2 hi2 B:Nat}{f2:Nat→Value}(h2:MU w bv m cm lo2 hi2 f2)(hm:MkU bv w w')(hB:B≤w.heap.size)(hlo:B≤lo2):Below B w w':=by
 rcases h2.2.2 with ⟨_,h0⟩ | ⟨g2,e2,h5,h6,_⟩
 ·exact (hm.1 h0).mono hB
 ·exact gr_to (hm.2 g2 e2) hB (by omega)
theorem MU.upds {w:World}{av:Option Addr}{n cap lo hi:Nat}{us:List M1.Upd}(h:MU w av n cap lo hi (ucell us))(hl:us.length=n)(ht:∀ i,i<n→(M1.up us i).s.size≤maxLen):IsUpds w av n cap us:=by
 rcases h.2.2 with ⟨h0,_⟩ | ⟨g,rfl,_,_,r⟩
 ·exact ⟨hl,h.1,h.2.1,ht,Or.inl h0⟩
 ·exact isUpds_of_row hl h.1 h.2.1 ht r
theorem MU.of_owns {w:World}{base:Nat}{e:TypeId}{v:Value}{us:List M1.Upd}(h:w.ownsRow base e 13 v us.length (ucL us)):∃ av cap,v=.slice av us.length cap∧MU w av us.length cap base w.heap.size (ucell us):=by
 have h0:=h;obtain ⟨h1,h2⟩:=h;rcases h2 with ⟨rfl,h3⟩ | ⟨g,cap,cur,rfl,hg,hh,hn,hm,hs,ht⟩
 ·exact ⟨none,0,by rw [h3],by omega,by unfold maxLen;omega,Or.inl ⟨h3,rfl⟩⟩
 ·have hr:=(RowAt.of_owns h0).same fun o ho=>ucL_get us o ho
  exact ⟨some ⟨g,0,none⟩,cap,rfl,hn,hm,Or.inr ⟨g,rfl,hg,hr.lt,hr⟩⟩
theorem ownsU_snoc {w:World}{base:Nat}{e:TypeId}{v:Value}{us:List M1.Upd}{u:M1.Upd}(h:w.ownsRow base e 13 v (us.length+1) (ucL us ++ [.int .i64 u.dr,.int .i64 u.dn,.int .i64 u.sw,.int .i64 u.sc,.int .i64 u.sr,.int .i64 u.k,.int .i64 u.tr,.int .i64 u.id,.int .i64 u.pa,.string u.s,.int .i64 u.st,.int .i64 u.en,.int .i64 u.lv])):w.ownsRow base e 13 v (us ++ [u]).length (ucL (us ++ [u])):=by
 rw [ucL_snoc];simpa [ucs] using h
theorem ownsU_nil (w:World)(base:Nat)(e:TypeId):w.ownsRow base e 13 (.slice none 0 0) ([]:List M1.Upd).length (ucL []):=⟨rfl,Or.inl ⟨rfl,rfl⟩⟩
theorem ownsU_empty (w:World)(e:TypeId):(w.alloc (.cells #[] e)).ownsRow w.heap.size e 13 (.slice (some ⟨w.heap.size,0,none⟩) 0 0) ([]:List M1.Upd).length (ucL []):=by
 refine ⟨rfl,Or.inr ⟨w.heap.size,0,#[],rfl,Nat.le_refl _,?_,Nat.le_refl _,by unfold maxLen;omega,rfl,rfl⟩⟩;show (w.heap.push (.cells #[] e))[w.heap.size]?=_
 simp
theorem news13 (w:World)(x0 x1 x2 x3 x4 x5 x6 x7 x8 x9 x10 x11 x12:Value)(t:TypeId):∀ j u,[x0,x1,x2,x3,x4,x5,x6,x7,x8,x9,x10,x11,x12][j]?=some u→(w.alloc (.cells #[x0,x1,x2,x3,x4,x5,x6,x7,x8,x9,x10,x11,x12] t)).cell? ((⟨w.heap.size,0,none⟩:Addr).add j)=some u:=by
 intro j u hu
 match j,hu with
 | 0,hu=>simp at hu;subst hu;simp [Addr.add]
 | 1,hu=>simp at hu;subst hu;simp [Addr.add]
 | 2,hu=>simp at hu;subst hu;simp [Addr.add]
 | 3,hu=>simp at hu;subst hu;simp [Addr.add]
 | 4,hu=>simp at hu;subst hu;simp [Addr.add]
 | 5,hu=>simp at hu;subst hu;simp [Addr.add]
 | 6,hu=>simp at hu;subst hu;simp [Addr.add]
 | 7,hu=>simp at hu;subst hu;simp [Addr.add]
 | 8,hu=>simp at hu;subst hu;simp [Addr.add]
 | 9,hu=>simp at hu;subst hu;simp [Addr.add]
 | 10,hu=>simp at hu;subst hu;simp [Addr.add]
 | 11,hu=>simp at hu;subst hu;simp [Addr.add]
 | 12,hu=>simp at hu;subst hu;simp [Addr.add]
 | j+13,hu=>simp at hu
theorem one13 (u:M1.Upd):∀ v∈ucs u,v.oneCell'=true:=by
 intro v hv;simp [ucs] at hv
 rcases hv with rfl | rfl | rfl | rfl | rfl | rfl | rfl | rfl | rfl | rfl | rfl | rfl | rfl <;> rfl
end Go.Proofs.YtgcinolbkllkkaaGreat
namespace M1
def ueq (a b:Upd):Bool:=decide (a.dr=b.dr∧a.dn=b.dn∧a.sw=b.sw∧a.sc=b.sc∧a.sr=b.sr∧a.k=b.k∧a.tr=b.tr∧a.id=b.id∧a.pa=b.pa∧a.s.toList=b.s.toList∧a.st=b.st∧a.en=b.en∧a.lv=b.lv)
def fd:List Upd→Int→Int→Option Upd
 | [],_,_=>none
 | u :: us,r,n=>if u.dr=r∧u.dn=n then some u else fd us r n
def apart (us:List Upd):Prop:=∀ i j,i<j→j<us.length→¬((up us i).dr=(up us j).dr∧(up us i).dn=(up us j).dn)
def agree1 (xs:List Upd)(u:Upd):Prop:=∀ i,i<xs.length→(up xs i).dr=u.dr∧(up xs i).dn=u.dn→ueq (up xs i) u=true
instance (xs:List Upd) (u:Upd):Decidable (agree1 xs u):=by unfold agree1;exact inferInstance
def agreeTo (xs ys:List Upd)(m:Nat):Prop:=∀ k,k<m→agree1 xs (up ys k)
instance (xs ys:List Upd) (m:Nat):Decidable (agreeTo xs ys m):=by unfold agreeTo;exact inferInstance
def agreeB (xs ys:List Upd):Bool:=setOk xs && (setOk ys && decide (agreeTo xs ys ys.length))
theorem agreeTo_succ {xs ys:List Upd}{m:Nat}(h:agreeTo xs ys m)(h1:agree1 xs (up ys m)):agreeTo xs ys (m+1):=fun k hk=>by
 by_cases e:k=m
 ·rw [e];exact h1
 ·exact h k (by omega)
theorem fd_none {r n:Int}:∀ {us:List Upd},fd us r n=none→∀ i,i<us.length→¬((up us i).dr=r∧(up us i).dn=n)
 | [],_,i,hi=>absurd hi (by simp)
 | u :: us,h,i,hi=>by
  unfold fd at h;by_cases e:u.dr=r∧u.dn=n
  ·rw [if_pos e] at h;cases h
  ·rw [if_neg e] at h
   cases i with
   | zero=>exact e
   | succ i=>exact fd_none h i (by simpa using hi)
theorem fd_is_none {r n:Int}:∀ {us:List Upd},(∀ i,i<us.length→¬((up us i).dr=r∧(up us i).dn=n))→fd us r n=none
 | [],_=>rfl
 | u :: us,h=>by
  unfold fd;have h0:¬(u.dr=r∧u.dn=n):=h 0 (by simp);rw [if_neg h0];exact fd_is_none fun i hi=>h (i+1) (by simpa using hi)
theorem fd_some {r n:Int}{x:Upd}:∀ {us:List Upd},fd us r n=some x→∃ i,i<us.length∧up us i=x∧x.dr=r∧x.dn=n
 | [],h=>by cases h
 | u :: us,h=>by
  unfold fd at h;by_cases e:u.dr=r∧u.dn=n
  ·rw [if_pos e] at h;cases h;exact ⟨0,by simp,rfl,e.1,e.2⟩
  ·rw [if_neg e] at h
   obtain ⟨i,hi,h2⟩:=fd_some h;exact ⟨i+1,by simpa using hi,h2⟩
theorem agree_none {xs:List Upd}{u:Upd}(h:fd xs u.dr u.dn=none):agree1 xs u:=fun i hi e=>absurd e (fd_none h i hi)
theorem agree_some {xs:List Upd}{u x:Upd}(ha:apart xs)(h:fd xs u.dr u.dn=some x)(he:ueq x u=true):agree1 xs u:=fun i hi e=>by
 obtain ⟨j,hj,rfl,e1,e2⟩:=fd_some h;by_cases c1:i<j
 ·exact absurd ⟨e.1.trans e1.symm,e.2.trans e2.symm⟩ (ha i j c1 hj)
 ·by_cases c2:j<i
  ·exact absurd ⟨e1.trans e.1.symm,e2.trans e.2.symm⟩ (ha j i c2 hi)
  ·have:i=j:=by omega
   rw [this];exact he
theorem agree_not {xs:List Upd}{u x:Upd}(h:fd xs u.dr u.dn=some x)(he:ueq x u=false):¬agree1 xs u:=fun hh=>by
 obtain ⟨j,hj,rfl,e1,e2⟩:=fd_some h;rw [hh j hj ⟨e1,e2⟩] at he;cases he
theorem fol_ahead {a b:Upd}(h:fol a b=true):a.dr<b.dr∨(a.dr=b.dr∧a.dn<b.dn):=by
 unfold fol at h;by_cases e:b.dr=a.dr
 ·rw [if_pos e] at h
  simp at h;omega
 ·rw [if_neg e] at h
  simp at h;omega
theorem ok_ahead {us:List Upd}(h:∀ j,j<us.length→okAt us j=true){i:Nat}:∀ j,i<j→j<us.length→(up us i).dr<(up us j).dr∨((up us i).dr=(up us j).dr∧(up us i).dn<(up us j).dn)
 | 0,hij,_=>absurd hij (by omega)
 | j+1,hij,hj=>by
  have h2:(up us j).dr<(up us (j+1)).dr∨((up us j).dr=(up us (j+1)).dr∧(up us j).dn<(up us (j+1)).dn):=by
   have h3:=h (j+1) hj;unfold okAt at h3;simp at h3
   exact fol_ahead h3.2
  by_cases e:i=j
  ·rw [e];exact h2
  ·have h1:=ok_ahead h (i:=i) j (by omega) (by omega)
   omega
theorem ok_apart {us:List Upd}(h:∀ j,j<us.length→okAt us j=true):apart us:=fun i j hij hj e=>by
 have:=ok_ahead h j hij hj;omega
theorem fd_take {us:List Upd}(h:apart us){k:Nat}(hk:k<us.length):fd (us.take k) (up us k).dr (up us k).dn=none:=by
 refine fd_is_none fun i hi=>?_;have hl:(us.take k).length=k:=by simp;omega
 rw [hl] at hi;have e:up (us.take k) i=up us i:=by
  unfold up;simp [List.getD,hi]
 rw [e];exact h i k hi hk
theorem take_up {us:List Upd}{k:Nat}(hk:k<us.length):us.take (k+1)=us.take k ++ [up us k]:=by
 rw [List.take_add_one];unfold up;simp [List.getD,List.getElem?_eq_getElem hk]
end M1
namespace Go.Proofs.YtgcinolbkllkkaaGreat
open Go.ChangeShapes Go.WideShapes Go.ChangeAt Go.RowKit
def uv (u:M1.Upd):Value:=.agg #[.int .i64 u.dr,.int .i64 u.dn,.int .i64 u.sw,.int .i64 u.sc,.int .i64 u.sr,.int .i64 u.k,.int .i64 u.tr,.int .i64 u.id,.int .i64 u.pa,.string u.s,.int .i64 u.st,.int .i64 u.en,.int .i64 u.lv]
def dv (r n:Int):Value:=.agg #[.int .i64 r,.int .i64 n]
theorem ite_chain (p:Prop)[Decidable p](q:Bool)(w:World):(if p then Result.ok q w else Result.ok false w)=Result.ok (decide p && q) w:=by
 by_cases h:p <;> simp [h]
theorem eqDotV (a b c d:Int)(w:World):(Op.equalIn 10000 68 (.agg #[.int .i64 a,.int .i64 b]) (.agg #[.int .i64 c,.int .i64 d])).run Tryz.prog w=.ok (decide (a=c∧b=d)) w:=by
 have h:=run_equalIn_agg (P:=Tryz.prog) w 9999 68 #[.int .i64 a,.int .i64 b] #[.int .i64 c,.int .i64 d] (by kernel_rfl) (by kernel_rfl);rw [h];simp [go_sem]
 by_cases h1:a=c <;> by_cases h2:b=d <;> simp [h1,h2]
theorem checkDot (e:Bool)(a b:Int)(w:World):(Instr.checkKey e 10000 68 (.agg #[.int .i64 a,.int .i64 b])).run Tryz.prog w=.ok () w:=by
 cases e <;> kernel_rfl
set_option maxHeartbeats 8000000 in
set_option maxRecDepth 100000 in
theorem eqU (a b:M1.Upd)(w:World):(Op.equalIn 10000 72 (.agg #[.int .i64 a.dr,.int .i64 a.dn,.int .i64 a.sw,.int .i64 a.sc,.int .i64 a.sr,.int .i64 a.k,.int .i64 a.tr,.int .i64 a.id,.int .i64 a.pa,.string a.s,.int .i64 a.st,.int .i64 a.en,.int .i64 a.lv]) (.agg #[.int .i64 b.dr,.int .i64 b.dn,.int .i64 b.sw,.int .i64 b.sc,.int .i64 b.sr,.int .i64 b.k,.int .i64 b.tr,.int .i64 b.id,.int .i64 b.pa,.string b.s,.int .i64 b.st,.int .i64 b.en,.int .i64 b.lv])).run Tryz.prog w=.ok (M1.ueq a b) w:=by
 have h:=run_equalIn_agg (P:=Tryz.prog) w 9999 72 #[.int .i64 a.dr,.int .i64 a.dn,.int .i64 a.sw,.int .i64 a.sc,.int .i64 a.sr,.int .i64 a.k,.int .i64 a.tr,.int .i64 a.id,.int .i64 a.pa,.string a.s,.int .i64 a.st,.int .i64 a.en,.int .i64 a.lv] #[.int .i64 b.dr,.int .i64 b.dn,.int .i64 b.sw,.int .i64 b.sc,.int .i64 b.sr,.int .i64 b.k,.int .i64 b.tr,.int .i64 b.id,.int .i64 b.pa,.string b.s,.int .i64 b.st,.int .i64 b.en,.int .i64 b.lv] (by kernel_rfl) (by kernel_rfl);rw [h];simp [go_sem]
 simp only [ite_chain];unfold M1.ueq
 congr 1
 simp
def MapIs (w:World)(b:Nat)(us:List M1.Upd):Prop:=∃ es clock,w.heap[b]?=some (.map es clock)∧es.toList.map (fun e=>(e.key,e.val))=us.map (fun u=>(dv u.dr u.dn,uv u))
theorem MapIs.lt {w:World}{b:Nat}{us:List M1.Upd}(h:MapIs w b us):b<w.heap.size:=by
 obtain ⟨es,clock,hb,_⟩:=h;exact (Array.getElem?_eq_some_iff.1 hb).1
theorem MapIs.block {w w':World}{b:Nat}{us:List M1.Upd}(h:MapIs w b us)(e:w'.heap[b]?=w.heap[b]?):MapIs w' b us:=by
 obtain ⟨es,clock,hb,h2⟩:=h;exact ⟨es,clock,e.trans hb,h2⟩
theorem MapIs.below {w w':World}{b B:Nat}{us:List M1.Upd}(h:MapIs w b us)(hB:Below B w w')(hb:b<B):MapIs w' b us:=h.block (hB.block b hb)
theorem MapIs.alloc {w:World}{b:Nat}{us:List M1.Upd}(h:MapIs w b us)(o:Obj):MapIs (w.alloc o) b us :=
 h.below ((Below.refl w.heap.size w).alloc (Nat.le_refl _) o) h.lt
theorem MapIs.made (w:World):MapIs (w.alloc (.map #[] 0)) w.heap.size []:=⟨#[],0,(MapKept.heap_alloc w _).1,rfl⟩
theorem find_any (r n:Int)(w:World):∀ (es:List MapEntry) (us:List M1.Upd) (i:Nat),es.map (fun e=>(e.key,e.val))=us.map (fun u=>(dv u.dr u.dn,uv u)) →
  ∃ o,(Instr.findAsking 68 (dv r n) es i).run Tryz.prog w=.ok o w∧o.map (·.2)=(M1.fd us r n).map uv
 | [],[],i,_=>⟨none,rfl,rfl⟩
 | [],_ :: _,_,h=>by cases h
 | _ :: _,[],_,h=>by cases h
 | e :: es,u :: us,i,h=>by
  rw [List.map_cons,List.map_cons,List.cons.injEq,Prod.mk.injEq] at h;obtain ⟨⟨h1,h2⟩,h3⟩:=h;have hq:(Op.equal 68 (dv r n) e.key).run Tryz.prog w=.ok (decide (r=u.dr∧n=u.dn)) w:=by
   rw [h1];exact eqDotV r n u.dr u.dn w
  unfold Instr.findAsking M1.fd;by_cases c:u.dr=r∧u.dn=n
  ·refine ⟨some (i,e.val),?_,?_⟩
   ·simp [hq,Result.andThen,c.1,c.2]
   ·rw [if_pos c,Option.map_some,Option.map_some,h2]
  ·obtain ⟨o,ho1,ho2⟩:=find_any r n w es us (i+1) h3
   refine ⟨o,?_,?_⟩
   ·have c':¬(r=u.dr∧n=u.dn):=fun x=>c ⟨x.1.symm,x.2.symm⟩
    simp only [Sem.run_bind,hq,Result.andThen,decide_eq_false c',Bool.false_eq_true,if_false];exact ho1
   ·rw [if_neg c];exact ho2
theorem findKey_any (r n:Int)(w:World)(es:List MapEntry)(us:List M1.Upd)(h:es.map (fun e=>(e.key,e.val))=us.map (fun u=>(dv u.dr u.dn,uv u))) :
  ∃ o,(Instr.findKey 68 (dv r n) es).run Tryz.prog w=.ok o w∧o.map (·.2)=(M1.fd us r n).map uv:=by
 cases es with
 | nil =>
  cases us with
  | nil =>
   refine ⟨none,?_,rfl⟩;unfold Instr.findKey;simp [run_underlying Tryz.underlying68,Result.andThen,Instr.findNow]
  | cons=>cases h
 | cons e es =>
  obtain ⟨o,ho1,ho2⟩:=find_any r n w (e :: es) us 0 h;refine ⟨o,?_,ho2⟩;rw [←ho1];unfold Instr.findKey;simp [run_underlying Tryz.underlying68,Result.andThen,Instr.findNow,Instr.sameNow]
theorem zeroUpd (w:World):(zeroValue 72).run Tryz.prog w=.ok (uv M1.zeroU) w:=by kernel_rfl
theorem run_lookupU {w:World}{b:Nat}{us:List M1.Upd}(h:MapIs w b us)(r n:Int) :
  (Instr.lookup 58 (.map (some b)) (dv r n) true).run Tryz.prog w=.ok (.tuple #[uv ((M1.fd us r n).getD M1.zeroU),.bool (M1.fd us r n).isSome]) w:=by
 obtain ⟨es,clock,hb,h2⟩:=h;obtain ⟨o,ho1,ho2⟩:=findKey_any r n w es.toList us h2;have hc:∀ e,(Instr.checkKey e 10000 68 (dv r n)).run Tryz.prog w=.ok () w:=fun e=>checkDot e r n w
 cases hf:M1.fd us r n with
 | none =>
  rw [hf] at ho2
  cases o with
  | some=>cases ho2
  | none=>simp [Instr.lookup,run_underlying Tryz.underlying58,MapKept.run_getObj_map hb,hc,ho1,zeroUpd,Result.andThen];rfl
 | some x =>
  rw [hf] at ho2
  cases o with
  | none=>cases ho2
  | some p =>
   obtain ⟨i,v⟩:=p;have hv:v=uv x:=by simpa using ho2
   subst hv;simp [Instr.lookup,run_underlying Tryz.underlying58,MapKept.run_getObj_map hb,hc,ho1,Result.andThen]
theorem run_updateU {w:World}{b:Nat}{us:List M1.Upd}(h:MapIs w b us)(u:M1.Upd)(hf:M1.fd us u.dr u.dn=none) :
  ∃ w',(Instr.mapUpdate 58 (.map (some b)) (dv u.dr u.dn) (uv u)).run Tryz.prog w=.ok () w'∧MapIs w' b (us ++ [u])∧w.grownBy w' (some b):=by
 obtain ⟨es,clock,hb,h2⟩:=h;obtain ⟨o,ho1,ho2⟩:=findKey_any u.dr u.dn w es.toList us h2;have hc:(Instr.checkKey false 10000 68 (dv u.dr u.dn)).run Tryz.prog w=.ok () w:=checkDot _ _ _ w;rw [hf] at ho2
 cases o with
 | some=>cases ho2
 | none =>
  refine ⟨ChangeMaps.setBlock w b (.map (es.push ⟨dv u.dr u.dn,uv u,clock⟩) (clock+1)),?_,⟨_,_,ChangeMaps.heap_setBlock_same hb _,?_⟩,⟨rfl,rfl,rfl,by simp [ChangeMaps.setBlock],fun i _ hi=>ChangeMaps.heap_setBlock_other hb _ (fun e=>hi (by rw [e]))⟩⟩
  ·simp [Instr.mapUpdate,run_underlying Tryz.underlying58,MapKept.run_getObj_map hb,hc,ho1,MapKept.run_setObj_map _ hb,Result.andThen,ChangeMaps.setBlock]
  ·simp [h2]
theorem wpList_mapU {w:World}{ops:Array Oper}{rest:List Oper}{o:Oper}{a:Act}{Q:Exit→Act→World→Prop}
  (hg:o.guard=none) (m x v:Operand) (hop:o.op=Op.mapUpdate 58 m x v) (b:Nat) (us:List M1.Upd) (u:M1.Upd)
  (hm:a.eval m=.map (some b)) (hown:MapIs w b us) (hf:M1.fd us u.dr u.dn=none) (hx:a.eval x=dv u.dr u.dn) (hv:a.eval v=uv u)
  (hK:∀ w',MapIs w' b (us ++ [u])→w.grownBy w' (some b)→wpList Tryz.prog ops Q rest (a.put o.dst undef) w') :
  wpList Tryz.prog ops Q (o :: rest) a w:=by
 refine wpList_plain hg fun K' hK'=>?_;obtain ⟨w',hrun,r1,r2⟩:=run_updateU hown u hf;unfold Oper.wp;simp [execOp,hop,hm,hx,hv,hrun,Result.andThen]
 exact hK' _ _ (hK w' r1 r2)
theorem wpList_lookU {w:World}{ops:Array Oper}{rest:List Oper}{o:Oper}{a:Act}{Q:Exit→Act→World→Prop}
  (hg:o.guard=none) (m x:Operand) (hop:o.op=Op.lookup 58 m x true) (b:Nat) (us:List M1.Upd) (r n:Int)
  (hm:a.eval m=.map (some b)) (hown:MapIs w b us) (hx:a.eval x=dv r n) (p:M1.Upd) (q:Bool) (hp:(M1.fd us r n).getD M1.zeroU=p) (hq:(M1.fd us r n).isSome=q)
  (hK:wpList Tryz.prog ops Q rest (a.put o.dst (.tuple #[uv p,.bool q])) w) :
  wpList Tryz.prog ops Q (o :: rest) a w:=by
 refine wpList_plain hg fun K' hK'=>?_;have hrun:=run_lookupU hown r n;rw [hp,hq] at hrun;unfold Oper.wp;simp [execOp,hop,hm,hx,hrun,Result.andThen]
 exact hK' _ _ hK
end Go.Proofs.YtgcinolbkllkkaaGreat
