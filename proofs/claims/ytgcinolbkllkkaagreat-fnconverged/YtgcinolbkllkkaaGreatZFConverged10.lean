/-
  Texts of one proof, joined: Reg1, Wl1, Wl2, Wl3, Mark.
-/
import Derived.Test.YtgcinolbkllkkaaGreatZFConverged09
set_option linter.unusedSimpArgs false
set_option linter.unusedVariables false
namespace Go.Proofs.YtgcinolbkllkkaaGreat
open Go.ChangeShapes Go.WideShapes Go.ChangeAt Go.RowKit
theorem later_any (sw sc sr a b c:Int)(w:World) :
  Calls Tryz.prog 87 #[.agg #[.int .i64 sw,.int .i64 sc,.int .i64 sr],.agg #[.int .i64 a,.int .i64 b,.int .i64 c]] w fun e w'=>e=.returned (.bool (M1.laterB sw sc a b))∧Below w.heap.size w w':=by
 unfold M1.laterB;go_enter Tryz.func87,Tryz.ntmps87
 go_wp2
 all_goals (go_ret)
 all_goals (exact ⟨by simp_all,((Below.refl _ _).alloc (Nat.le_refl _) _).alloc (by simp) _⟩)
end Go.Proofs.YtgcinolbkllkkaaGreat
namespace M1
def rgA (rs:List Rg)(i:Nat):Rg:=rs.getD i zeroR
end M1
namespace Go.Proofs.YtgcinolbkllkkaaGreat
open Go.ChangeShapes Go.WideShapes Go.ChangeAt Go.RowKit
def RgC (w:World)(b o:Nat)(r:M1.Rg):Prop:=∃ (v:Option Addr) (n c:Nat),w.cell? ⟨b,o,none⟩=some (.int .i64 r.id)∧w.cell? ⟨b,o+1,none⟩=some (.int .i64 r.a)∧w.cell? ⟨b,o+2,none⟩=some (.int .i64 r.b)∧w.cell? ⟨b,o+3,none⟩=some (.int .i64 r.c)∧w.cell? ⟨b,o+4,none⟩=some (.slice v n c)∧IsUpds w v n c r.us
theorem RgC.below {w w':World}{b o:Nat}{r:M1.Rg}(h:RgC w b o r)(hb:Below w.heap.size w w')(hlt:b<w.heap.size):RgC w' b o r:=by
 obtain ⟨v,n,c,h0,h1,h2,h3,h4,hu⟩:=h;exact ⟨v,n,c,(hb.cell (p:=⟨b,o,none⟩) hlt).trans h0,(hb.cell (p:=⟨b,o+1,none⟩) hlt).trans h1,(hb.cell (p:=⟨b,o+2,none⟩) hlt).trans h2,(hb.cell (p:=⟨b,o+3,none⟩) hlt).trans h3,(hb.cell (p:=⟨b,o+4,none⟩) hlt).trans h4,hu.below hb⟩
structure IsRgs (w:World)(av:Option Addr)(len cap:Nat)(rs:List M1.Rg):Prop where
 hlen:rs.length=len
 hcap:len≤cap
 hmost:cap≤maxLen
 hlies:len=0∨∃ b off,av=some ⟨b,off,none⟩∧b<w.heap.size∧∀ i,i<len→RgC w b (off+i*5) (M1.rgA rs i)
theorem IsRgs.below {w w':World}{av:Option Addr}{len cap:Nat}{rs:List M1.Rg}(h:IsRgs w av len cap rs)(hb:Below w.heap.size w w'):IsRgs w' av len cap rs :=
 ⟨h.hlen,h.hcap,h.hmost,h.hlies.imp (fun h=>h) fun ⟨b,off,e,hlt,hc⟩=>⟨b,off,e,Nat.lt_of_lt_of_le hlt hb.size,fun i hi=>(hc i hi).below hb hlt⟩⟩
theorem infoRegA0:(Tryz.prog.info? 34).map (fun i=>(i.zero,i.size,i.bytes))=some (some (.agg #[.int .i64 0,.int .i64 0,.int .i64 0,.int .i64 0,.slice none 0 0]),5,56):=by kernel_rfl
theorem infoRegA:∃ i,Tryz.prog.info? 34=some i∧i.zero=some (.agg #[.int .i64 0,.int .i64 0,.int .i64 0,.int .i64 0,.slice none 0 0])∧i.size=5∧i.bytes=56:=by
 have h:=infoRegA0
 cases e:Tryz.prog.info? 34 with
 | none=>rw [e] at h;cases h
 | some i=>rw [e] at h;simp at h;exact ⟨i,rfl,h.1,h.2.1,h.2.2⟩
theorem row_blockA {w w':World}{g m:Nat}{f:Nat→Value}(h:RowAt w g m f)(hb:w'.heap[g]?=w.heap[g]?)(hs:w.heap.size≤w'.heap.size):RowAt w' g m f :=
 ⟨Nat.lt_of_lt_of_le h.1 hs,fun o ho=>⟨(World.cell?_of_block (w:=w) hb).trans (h.2 o ho).1,(World.frozen?_of_block (w:=w) hb).trans (h.2 o ho).2⟩⟩
def Same (lo:Nat)(w w':World):Prop:=w.heap.size≤w'.heap.size∧∀ k,lo≤k→k<w.heap.size→w'.heap[k]?=w.heap[k]?
theorem Same.refl (lo:Nat)(w:World):Same lo w w:=⟨Nat.le_refl _,fun _ _ _=>rfl⟩
theorem Same.trans {lo:Nat}{a b c:World}(h:Same lo a b)(k:Same lo b c):Same lo a c:=⟨Nat.le_trans h.1 k.1,fun i hi hl=>(k.2 i hi (Nat.lt_of_lt_of_le hl h.1)).trans (h.2 i hi hl)⟩
theorem Same.below {lo:Nat}{a b:World}(h:Below a.heap.size a b):Same lo a b:=⟨h.size,fun k _ hk=>h.block k hk⟩
theorem Same.set {lo:Nat}{a b:World}(h:Same lo a b){p:Addr}(hp:p.block<lo)(v:Value):Same lo a (b.setCell p v):=⟨Nat.le_trans h.1 (Nat.le_of_eq (by simp [World.setCell])),fun k hk hl=>(Below.heap_setCell _ _ _ _ (by omega)).trans (h.2 k hk hl)⟩
def RgF (w:World)(g:Nat)(rs:List M1.Rg)(k:Nat)(f:Nat→Value):Prop:=∀ i,i<k→∃ d n,g<d∧f (i*5)=.int .i64 (M1.rgA rs i).id∧f (i*5+1)=.int .i64 (M1.rgA rs i).a∧f (i*5+2)=.int .i64 (M1.rgA rs i).b∧f (i*5+3)=.int .i64 (M1.rgA rs i).c∧f (i*5+4)=.slice (some ⟨d,0,none⟩) n n∧(M1.rgA rs i).us.length=n∧RowAt w d (n*13) (ucell (M1.rgA rs i).us)
theorem RgF.below {w w':World}{g:Nat}{rs:List M1.Rg}{k:Nat}{f:Nat→Value}(h:RgF w g rs k f)(hb:Below w.heap.size w w'):RgF w' g rs k f:=fun i hi=>by
 obtain ⟨d,n,h0,h1,h2,h3,h4,h5,h6,r⟩:=h i hi;exact ⟨d,n,h0,h1,h2,h3,h4,h5,h6,r.below hb⟩
end Go.Proofs.YtgcinolbkllkkaaGreat
namespace M1
structure Ml where
 fr:Int
 tt:Int
 ask:Bool
 vec:List (Int × Int)
 del:List Upd
def zeroM:Ml:=⟨0,0,false,[],[]⟩
def mlA (ms:List Ml)(i:Nat):Ml:=ms.getD i zeroM
end M1
namespace Go.Proofs.YtgcinolbkllkkaaGreat
open Go.ChangeShapes Go.WideShapes Go.ChangeAt Go.RowKit
abbrev R5 (w:World)(p:Nat)(x0 x1 x2 x3 x4:Value):Prop:=RowAt w p 5 (fun o=>[x0,x1,x2,x3,x4].getD o undef)
theorem r5_new (w:World)(x0 x1 x2 x3 x4:Value)(t:TypeId):R5 (w.alloc (.cells #[x0,x1,x2,x3,x4] t)) w.heap.size x0 x1 x2 x3 x4 :=
 (RowAt.new w #[x0,x1,x2,x3,x4] t).same fun o ho=>by
  match o,ho with
  | 0,_=>rfl
  | 1,_=>rfl
  | 2,_=>rfl
  | 3,_=>rfl
  | 4,_=>rfl
theorem r5_cells {w:World}{p:Nat}{x0 x1 x2 x3 x4:Value}(h:R5 w p x0 x1 x2 x3 x4):w.cell? ⟨p,0,none⟩=some x0∧w.cell? ⟨p,1,none⟩=some x1∧w.cell? ⟨p,2,none⟩=some x2∧w.cell? ⟨p,3,none⟩=some x3∧w.cell? ⟨p,4,none⟩=some x4:=⟨h.cell (o:=0) (by omega),h.cell (o:=1) (by omega),h.cell (o:=2) (by omega),h.cell (o:=3) (by omega),h.cell (o:=4) (by omega)⟩
theorem r5_free {w:World}{p:Nat}{x0 x1 x2 x3 x4:Value}(h:R5 w p x0 x1 x2 x3 x4):w.frozen? ⟨p,0,none⟩=false∧w.frozen? ⟨p,1,none⟩=false∧w.frozen? ⟨p,2,none⟩=false∧w.frozen? ⟨p,3,none⟩=false∧w.frozen? ⟨p,4,none⟩=false:=⟨h.free (o:=0) (by omega),h.free (o:=1) (by omega),h.free (o:=2) (by omega),h.free (o:=3) (by omega),h.free (o:=4) (by omega)⟩
theorem r5_set0 {w:World}{p:Nat}{x0 x1 x2 x3 x4:Value}(h:R5 w p x0 x1 x2 x3 x4)(y:Value):R5 (w.setCell ⟨p,0,none⟩ y) p y x1 x2 x3 x4 :=
 RowAt.same (h.set (o:=0) (by omega) y) fun o ho=>by
  match o,ho with
  | 0,_=>rfl
  | 1,_=>rfl
  | 2,_=>rfl
  | 3,_=>rfl
  | 4,_=>rfl
theorem r5_set1 {w:World}{p:Nat}{x0 x1 x2 x3 x4:Value}(h:R5 w p x0 x1 x2 x3 x4)(y:Value):R5 (w.setCell ⟨p,1,none⟩ y) p x0 y x2 x3 x4 :=
 RowAt.same (h.set (o:=1) (by omega) y) fun o ho=>by
  match o,ho with
  | 0,_=>rfl
  | 1,_=>rfl
  | 2,_=>rfl
  | 3,_=>rfl
  | 4,_=>rfl
theorem r5_set2 {w:World}{p:Nat}{x0 x1 x2 x3 x4:Value}(h:R5 w p x0 x1 x2 x3 x4)(y:Value):R5 (w.setCell ⟨p,2,none⟩ y) p x0 x1 y x3 x4 :=
 RowAt.same (h.set (o:=2) (by omega) y) fun o ho=>by
  match o,ho with
  | 0,_=>rfl
  | 1,_=>rfl
  | 2,_=>rfl
  | 3,_=>rfl
  | 4,_=>rfl
theorem r5_set3 {w:World}{p:Nat}{x0 x1 x2 x3 x4:Value}(h:R5 w p x0 x1 x2 x3 x4)(y:Value):R5 (w.setCell ⟨p,3,none⟩ y) p x0 x1 x2 y x4 :=
 RowAt.same (h.set (o:=3) (by omega) y) fun o ho=>by
  match o,ho with
  | 0,_=>rfl
  | 1,_=>rfl
  | 2,_=>rfl
  | 3,_=>rfl
  | 4,_=>rfl
theorem r5_set4 {w:World}{p:Nat}{x0 x1 x2 x3 x4:Value}(h:R5 w p x0 x1 x2 x3 x4)(y:Value):R5 (w.setCell ⟨p,4,none⟩ y) p x0 x1 x2 x3 y :=
 RowAt.same (h.set (o:=4) (by omega) y) fun o ho=>by
  match o,ho with
  | 0,_=>rfl
  | 1,_=>rfl
  | 2,_=>rfl
  | 3,_=>rfl
  | 4,_=>rfl
abbrev R3 (w:World)(p:Nat)(x0 x1 x2:Value):Prop:=RowAt w p 3 (fun o=>[x0,x1,x2].getD o undef)
theorem r3_new (w:World)(x0 x1 x2:Value)(t:TypeId):R3 (w.alloc (.cells #[x0,x1,x2] t)) w.heap.size x0 x1 x2 :=
 (RowAt.new w #[x0,x1,x2] t).same fun o ho=>by
  match o,ho with
  | 0,_=>rfl
  | 1,_=>rfl
  | 2,_=>rfl
theorem r3_cells {w:World}{p:Nat}{x0 x1 x2:Value}(h:R3 w p x0 x1 x2):w.cell? ⟨p,0,none⟩=some x0∧w.cell? ⟨p,1,none⟩=some x1∧w.cell? ⟨p,2,none⟩=some x2:=⟨h.cell (o:=0) (by omega),h.cell (o:=1) (by omega),h.cell (o:=2) (by omega)⟩
theorem r3_free {w:World}{p:Nat}{x0 x1 x2:Value}(h:R3 w p x0 x1 x2):w.frozen? ⟨p,0,none⟩=false∧w.frozen? ⟨p,1,none⟩=false∧w.frozen? ⟨p,2,none⟩=false:=⟨h.free (o:=0) (by omega),h.free (o:=1) (by omega),h.free (o:=2) (by omega)⟩
theorem r3_set0 {w:World}{p:Nat}{x0 x1 x2:Value}(h:R3 w p x0 x1 x2)(y:Value):R3 (w.setCell ⟨p,0,none⟩ y) p y x1 x2 :=
 RowAt.same (h.set (o:=0) (by omega) y) fun o ho=>by
  match o,ho with
  | 0,_=>rfl
  | 1,_=>rfl
  | 2,_=>rfl
theorem r3_set1 {w:World}{p:Nat}{x0 x1 x2:Value}(h:R3 w p x0 x1 x2)(y:Value):R3 (w.setCell ⟨p,1,none⟩ y) p x0 y x2 :=
 RowAt.same (h.set (o:=1) (by omega) y) fun o ho=>by
  match o,ho with
  | 0,_=>rfl
  | 1,_=>rfl
  | 2,_=>rfl
theorem r3_set2 {w:World}{p:Nat}{x0 x1 x2:Value}(h:R3 w p x0 x1 x2)(y:Value):R3 (w.setCell ⟨p,2,none⟩ y) p x0 x1 y :=
 RowAt.same (h.set (o:=2) (by omega) y) fun o ho=>by
  match o,ho with
  | 0,_=>rfl
  | 1,_=>rfl
  | 2,_=>rfl
def MlC (w:World)(b o:Nat)(m:M1.Ml):Prop:=∃ (v:Option Addr) (n c:Nat) (v2:Option Addr) (n2 c2:Nat),w.cell? ⟨b,o,none⟩=some (.int .i64 m.fr)∧w.cell? ⟨b,o+1,none⟩=some (.int .i64 m.tt)∧w.cell? ⟨b,o+2,none⟩=some (.bool m.ask)∧w.cell? ⟨b,o+3,none⟩=some (.slice v n c)∧w.cell? ⟨b,o+4,none⟩=some (.slice v2 n2 c2)∧IsVec w v n c m.vec∧IsUpds w v2 n2 c2 m.del
theorem MlC.below {w w':World}{b o:Nat}{m:M1.Ml}(h:MlC w b o m)(hb:Below w.heap.size w w')(hlt:b<w.heap.size):MlC w' b o m:=by
 obtain ⟨v,n,c,v2,n2,c2,h0,h1,h2,h3,h4,hv,hu⟩:=h;exact ⟨v,n,c,v2,n2,c2,(hb.cell (p:=⟨b,o,none⟩) hlt).trans h0,(hb.cell (p:=⟨b,o+1,none⟩) hlt).trans h1,(hb.cell (p:=⟨b,o+2,none⟩) hlt).trans h2,(hb.cell (p:=⟨b,o+3,none⟩) hlt).trans h3,(hb.cell (p:=⟨b,o+4,none⟩) hlt).trans h4,hv.below hb,hu.below hb⟩
structure IsMls (w:World)(av:Option Addr)(len cap:Nat)(ms:List M1.Ml):Prop where
 hlen:ms.length=len
 hcap:len≤cap
 hmost:cap≤maxLen
 hlies:len=0∨∃ b off,av=some ⟨b,off,none⟩∧b<w.heap.size∧∀ i,i<len→MlC w b (off+i*5) (M1.mlA ms i)
theorem IsMls.below {w w':World}{av:Option Addr}{len cap:Nat}{ms:List M1.Ml}(h:IsMls w av len cap ms)(hb:Below w.heap.size w w'):IsMls w' av len cap ms :=
 ⟨h.hlen,h.hcap,h.hmost,h.hlies.imp (fun h=>h) fun ⟨b,off,e,hlt,hc⟩=>⟨b,off,e,Nat.lt_of_lt_of_le hlt hb.size,fun i hi=>(hc i hi).below hb hlt⟩⟩
theorem infoMail0:(Tryz.prog.info? 62).map (fun i=>(i.zero,i.size,i.bytes))=some (some (.agg #[.int .i64 0,.int .i64 0,.bool false,.slice none 0 0,.slice none 0 0]),5,72):=by kernel_rfl
theorem infoMail:∃ i,Tryz.prog.info? 62=some i∧i.zero=some (.agg #[.int .i64 0,.int .i64 0,.bool false,.slice none 0 0,.slice none 0 0])∧i.size=5∧i.bytes=72:=by
 have h:=infoMail0
 cases e:Tryz.prog.info? 62 with
 | none=>rw [e] at h;cases h
 | some i=>rw [e] at h;simp at h;exact ⟨i,rfl,h.1,h.2.1,h.2.2⟩
def MlF (w:World)(g:Nat)(ms:List M1.Ml)(k:Nat)(f:Nat→Value):Prop:=∀ i,i<k→∃ d n d2 n2,g<d∧g<d2∧f (i*5)=.int .i64 (M1.mlA ms i).fr∧f (i*5+1)=.int .i64 (M1.mlA ms i).tt∧f (i*5+2)=.bool (M1.mlA ms i).ask∧f (i*5+3)=.slice (some ⟨d,0,none⟩) n n∧f (i*5+4)=.slice (some ⟨d2,0,none⟩) n2 n2∧(M1.mlA ms i).vec.length=n∧(M1.mlA ms i).del.length=n2∧RowAt w d (n*2) (dcell (M1.mlA ms i).vec)∧RowAt w d2 (n2*13) (ucell (M1.mlA ms i).del)
theorem MlF.below {w w':World}{g:Nat}{ms:List M1.Ml}{k:Nat}{f:Nat→Value}(h:MlF w g ms k f)(hb:Below w.heap.size w w'):MlF w' g ms k f:=fun i hi=>by
 obtain ⟨d,n,d2,n2,h0,h0',h1,h2,h3,h4,h5,h6,h7,r,r'⟩:=h i hi;exact ⟨d,n,d2,n2,h0,h0',h1,h2,h3,h4,h5,h6,h7,r.below hb,r'.below hb⟩
def MV (w:World)(av:Option Addr)(n cap lo hi:Nat)(f:Nat→Value):Prop :=
 n≤cap∧cap≤maxLen∧((n=0∧av=none)∨∃ g,av=some ⟨g,0,none⟩∧lo≤g∧g<hi∧RowAt w g (n*2) f)
def Mk (av:Option Addr)(w w':World):Prop:=(av=none→Below w.heap.size w w')∧∀ g,av=some ⟨g,0,none⟩→Gr g w w'
theorem MV.below {w w':World}{av:Option Addr}{n cap lo hi:Nat}{f:Nat→Value}(h:MV w av n cap lo hi f)(hb:Below w.heap.size w w'):MV w' av n cap lo hi f :=
 ⟨h.1,h.2.1,h.2.2.imp id fun ⟨g,e,h1,h2,r⟩=>⟨g,e,h1,h2,r.below hb⟩⟩
theorem MV.mk {w w':World}{av bv:Option Addr}{n cap lo hi m cm lo2 hi2:Nat}{f f2:Nat→Value}(h:MV w av n cap lo hi f)(h2:MV w bv m cm lo2 hi2 f2)(hm:Mk bv w w')(hd:hi≤lo2∨hi2≤lo):MV w' av n cap lo hi f:=by
 refine ⟨h.1,h.2.1,?_⟩;rcases h.2.2 with h0 | ⟨g,e,h3,h4,r⟩
 ·exact Or.inl h0
 ·refine Or.inr ⟨g,e,h3,h4,?_⟩
  rcases h2.2.2 with ⟨_,h0⟩ | ⟨g2,e2,h5,h6,_⟩
  ·exact r.below (hm.1 h0)
  ·exact r.gr (hm.2 g2 e2) (by omega)
theorem Mk.below {w w':World}{bv:Option Addr}{m cm lo2 hi2 B:Nat}{f2:Nat→Value}(h2:MV w bv m cm lo2 hi2 f2)(hm:Mk bv w w')(hB:B≤w.heap.size)(hlo:B≤lo2):Below B w w':=by
 rcases h2.2.2 with ⟨_,h0⟩ | ⟨g2,e2,h5,h6,_⟩
 ·exact (hm.1 h0).mono hB
 ·exact gr_to (hm.2 g2 e2) hB (by omega)
theorem MV.vec {w:World}{av:Option Addr}{n cap lo hi:Nat}{ds:List (Int × Int)}(h:MV w av n cap lo hi (dcell ds))(hl:ds.length=n):IsVec w av n cap ds:=by
 rcases h.2.2 with ⟨h0,_⟩ | ⟨g,rfl,_,_,r⟩
 ·exact ⟨hl,h.1,h.2.1,Or.inl h0⟩
 ·exact isVec_of_row hl h.1 h.2.1 r
theorem MV.of_owns {w:World}{base:Nat}{e:TypeId}{v:Value}{ds:List (Int × Int)}(h:w.ownsRow base e 2 v ds.length (dcs ds)):∃ av cap,v=.slice av ds.length cap∧MV w av ds.length cap base w.heap.size (dcell ds):=by
 obtain ⟨av,cap,hv,hi,hr⟩:=owns_vec h;exact ⟨av,cap,hv,hi.hcap,hi.hmost,hr.imp (fun h=>⟨h.2,h.1⟩) fun ⟨g,e,hb,r⟩=>⟨g,e,hb,r.lt,r⟩⟩
end Go.Proofs.YtgcinolbkllkkaaGreat
