/-
  Texts of one proof, joined: Fi4, Fi5, Fi6, Fo3, Fo4, Fi7, Fi8.
-/
import Derived.Test.YtgcinolbkllkkaaGreatZFConverged46
set_option linter.unusedSimpArgs false
set_option linter.unusedVariables false
namespace Go.Proofs.YtgcinolbkllkkaaGreat
open Go.ChangeShapes Go.WideShapes Go.ChangeAt Go.RowKit Go.Sort Go.Shelf Go.Lib
theorem spansByStart_any (av:Option Addr)(m c B:Nat)(S:List M1.Upd)(w:World)(h:SpIn w av m c B S)(hS:S.Pairwise M1.idlt)(hm60:m≤1000) :
  Calls Tryz.prog 38 #[.slice av m c] w fun e w'=>(∃ (a:Option Addr) (c2:Nat),e=.returned (.slice a m c2)∧MG w' a m c2 w.heap.size w'.heap.size (scell (M1.bySt S)))∧Below w.heap.size w w':=by
 have hl:Hid (S.length=m):=h.len;go_enter Tryz.func38,Tryz.ntmps38
 go_wp2_with fail
 refine (cloneSp_any av m c B S _ h hm60).mono ?_;rintro e w1 ⟨⟨a,c2,rfl,mg⟩,hB1⟩;obtain ⟨hc2,hc3,hlie⟩:=mg;have hs1:=hB1.size;by_cases hm0:m=0
 ·subst hm0
  have hSn:S=[]:=List.eq_nil_of_length_eq_zero hl.out;subst hSn;go_wp2_with fail
  refine (sortS_none _ _ _ _).mono ?_;rintro e w2 ⟨rfl,rfl⟩;go_wp2_with fail
  go_ret
  exact ⟨⟨_,_,rfl,hc2,hc3,hlie.imp (fun h=>⟨rfl,h.2⟩) id⟩,hB1⟩
 ·rcases hlie with ⟨h0,_⟩ | ⟨g,rfl,hg1,hg2,r1⟩
  ·exact absurd h0 hm0
  have hlo:=hl.out;subst hlo;go_wp2_with fail
  refine (sortT_any g _ S _ r1 (by omega)).mono ?_;rintro e w2 ⟨rfl,ns,hp,hso,row2,hG2⟩;have HN:Hid (ns=M1.bySt S):=M1.bySt_is hS hp hso;have hB2:Below w.heap.size w w2:=hB1.trans (gr_to hG2 hs1 hg1);have hl2:=row2.lt;go_wp2_with fail
  go_ret
  exact ⟨⟨_,_,rfl,hc2,hc3,Or.inr ⟨g,rfl,hg1,hl2,by rw [←HN.out];exact row2⟩⟩,hB2⟩
end Go.Proofs.YtgcinolbkllkkaaGreat
namespace M1
def kTo (p:Int)(us:List Upd)(k:Nat):List Upd:=(us.take k).filter fun x=>decide (x.pa=p)
theorem kTo_len (p:Int)(us:List Upd)(k:Nat):(kTo p us k).length≤k:=by
 unfold kTo;have h1:=List.length_filter_le (fun x:Upd=>decide (x.pa=p)) (us.take k);have h2:(us.take k).length≤k:=by rw [List.length_take];omega
 omega
theorem kTo_up {us:List Upd}{k:Nat}(hk:k<us.length):us.take (k+1)=us.take k ++ [up us k]:=by
 rw [List.take_succ_eq_append_getElem hk];simp [up,List.getD,hk]
theorem kTo_yes {p:Int}{us:List Upd}{k:Nat}(hk:k<us.length)(h:(up us k).pa=p):kTo p us (k+1)=kTo p us k ++ [up us k]:=by
 unfold kTo;rw [kTo_up hk,List.filter_append];simp [h]
theorem kTo_no {p:Int}{us:List Upd}{k:Nat}(hk:k<us.length)(h:¬(up us k).pa=p):kTo p us (k+1)=kTo p us k:=by
 unfold kTo;rw [kTo_up hk,List.filter_append];simp [h]
theorem kTo_all (s:Upd)(S:List Upd)(n:Nat)(hn:(bySt S).length=n):kTo s.id (bySt S) n=kids S s:=by
 unfold kTo kids;rw [←hn,List.take_length]
end M1
namespace Go.Proofs.YtgcinolbkllkkaaGreat
open Go.ChangeShapes Go.WideShapes Go.ChangeAt Go.RowKit Go.Shelf
attribute [local go_sem] Oper.semAt_some
set_option maxHeartbeats 4000000 in
theorem kidsOf_in (F:Fence)(n:Nat)(hF:F.fn 40)(hro:F.round=none)(a:Option Addr)(len cap:Nat)(p:Int)(w:World) :
  CallsIn F n Tryz.prog 40 #[.slice a len cap,.int .i64 p] w fun e w'=>e=.returned (.func (.func 72) #[] #[.pointer (some ⟨w.heap.size,0,none⟩),.pointer (some ⟨w.heap.size+1,0,none⟩)])∧w'=(w.alloc (.cells #[.slice a len cap] 83)).alloc (.cells #[.int .i64 p] 2):=by
 refine callsIn_of_wp Tryz.func40 rfl hF ?_ hro;simp only [Tryz.ntmps40,List.size_toArray,List.length_cons,List.length_nil,Nat.reduceAdd,Nat.reduceSub,Array.replicate_succ,Array.replicate_zero,List.push_toArray,List.append_toArray,List.nil_append,List.cons_append]
 gi_wp2
 go_ret
 exact ⟨rfl,rfl⟩
set_option maxRecDepth 100000 in
set_option maxHeartbeats 16000000 in
theorem kidsOf1_in (F:Fence)(n:Nat)(hF:F.fn 72)(hro:F.round=none)(hn:1≤n)(l B Bd:Nat)(av:Option Addr)(len cap:Nat)(p:Int)(us:List M1.Upd)(J Jx:List M1.Upd→World→Prop)(bJ:Nat)(hAJ:AbidesFrom bJ J)
  (hJ:∀ pre W,J pre W→SpIn W av len cap Bd us∧B+2≤W.heap.size∧W.cell? ⟨B,0,none⟩=some (.slice av len cap)∧W.cell? ⟨B+1,0,none⟩=some (.int .i64 p))
  (hY:∀ k W,k<len→(M1.up us k).pa=p→J (M1.kTo p us k) W→YieldAt F (n-1) Tryz.prog l #[.agg #[.int .i64 (M1.up us k).id,.int .i64 (M1.up us k).pa,.string (M1.up us k).s,.int .i64 (M1.up us k).st,.int .i64 (M1.up us k).en]] W fun e W' =>
   (e=.returned (.bool true)∧J (M1.kTo p us (k+1)) W')∨(e=.returned (.bool false)∧Jx (M1.kTo p us (k+1)) W'))
  (W:World) (h0:J [] W) :
  CallsIn F n Tryz.prog 72 #[.func (.yield l) #[] #[],.pointer (some ⟨B,0,none⟩),.pointer (some ⟨B+1,0,none⟩)] W fun e W'=>(∃ v,e=.returned v) ∧
   (J (M1.kTo p us len) W'∨(∃ k,k≤len∧Jx (M1.kTo p us k) W')):=by
 obtain ⟨h1,hBs,b0,b1⟩:=hJ _ _ h0;have hl:Hid (us.length=len):=h1.len;have hm1:=h1.cap;have hm2:=h1.most;unfold maxLen at hm2;clear h1;refine callsIn_of_wp Tryz.func72 rfl hF ?_ hro;simp only [Tryz.ntmps72,List.size_toArray,List.length_cons,List.length_nil,Nat.reduceAdd,Nat.reduceSub,Array.replicate_succ,Array.replicate_zero,List.push_toArray,List.append_toArray,List.nil_append,List.cons_append]
 gi_wp2
 gi_loopw [8] (fun i wr=>∃ k:Nat,k≤len∧i=.int .i64 k∧J (M1.kTo p us k) wr)
  (fun i _=>len-(intOf i).toNat)
 case atStart=>exact ⟨0,Nat.zero_le _,rfl,h0⟩
 case round =>
  clear h0 b0 b1 hBs;obtain ⟨k,hk,rfl,hJs⟩:=hrel;by_cases hlt:k<len
  ·obtain ⟨h2,hz,_,x1⟩:=hJ _ _ hJs
   rcases h2.lies with h0 | ⟨g,rfl,hgB,r1⟩
   ·omega
   have hgl:=r1.lt;have hks:k<us.length:=by rw [hl.out];exact hlt
   have z0:scell us (k*5)=.int .i64 (M1.up us k).id:=scell_at us k 0 (by omega);have z1:scell us (k*5+1)=.int .i64 (M1.up us k).pa:=scell_at us k 1 (by omega);have z2:scell us (k*5+2)=.string (M1.up us k).s:=scell_at us k 2 (by omega);have z3:scell us (k*5+3)=.int .i64 (M1.up us k).st:=scell_at us k 3 (by omega);have z4:scell us (k*5+4)=.int .i64 (M1.up us k).en:=scell_at us k 4 (by omega);have d0:=r1.cell (o:=k*5) (by omega);have d1:=r1.cell (o:=k*5+1) (by omega);have d2:=r1.cell (o:=k*5+2) (by omega);have d3:=r1.cell (o:=k*5+3) (by omega);have d4:=r1.cell (o:=k*5+4) (by omega);rw [z0] at d0;rw [z1] at d1;rw [z2] at d2;rw [z3] at d3;rw [z4] at d4;clear z0 z1 z2 z3 z4;have i0:(0:Int)≤(k:Int):=by omega
   have i1:(k:Int)<(len:Int):=by omega
   have n1:¬B+1=wr.heap.size:=by omega
   have hJa:J (M1.kTo p us k) (wr.alloc (.cells #[.int .i64 (M1.up us k).id,.int .i64 (M1.up us k).pa,.string (M1.up us k).s,.int .i64 (M1.up us k).st,.int .i64 (M1.up us k).en] 70)):=hAJ _ _ _ none hJs (World.grownBy_alloc wr _ none) (fun r e=>by cases e);have y1:=(hJ _ _ hJa).2.2.2;by_cases hq:(M1.up us k).pa=p
   ·have q1:((M1.up us k).pa==p)=true:=by simp [hq]
    obtain ⟨fn,tmps,assign,body,hy,hR⟩:=hY k _ hlt hq hJa;clear hq
    gi_wp2
    refine hR.mono ?_;rintro e W3 (⟨rfl,hJ3⟩ | ⟨rfl,hJx3⟩)
    ·gi_wp2
     go_roundw
     case rel=>exact ⟨k+1,by omega,by simp,hJ3⟩
     case measure=>simp [intOf];omega
    ·gi_wp2
     refine bodyPost_ret (results_none rfl _ _ _) rfl ?_;exact ⟨⟨_,rfl⟩,.inr ⟨k+1,by omega,hJx3⟩⟩
   ·have HT:=M1.kTo_no hks hq
    have q1:((M1.up us k).pa==p)=false:=by simp [hq]
    clear hq
    gi_wp2
    refine ⟨fun _ h=>(by cases h),?_⟩
    gi_wp2
    go_roundw
    case rel=>exact ⟨k+1,by omega,by simp,by rw [HT];exact hJa⟩
    case measure=>simp [intOf];omega
  ·obtain rfl:k=len:=by omega
   gi_wp2
   go_end0
   exact ⟨⟨_,rfl⟩,.inl hJs⟩
end Go.Proofs.YtgcinolbkllkkaaGreat
namespace Go.Proofs.YtgcinolbkllkkaaGreat
open Go.ChangeShapes Go.WideShapes Go.ChangeAt Go.RowKit Go.Shelf
def KpX (X:Nat→Prop)(W W':World):Prop:=W.heap.size≤W'.heap.size∧∀ b,X b→b<W.heap.size→W'.heap[b]?=W.heap[b]?
theorem kpX_t {X:Nat→Prop}{A B C:World}(h:KpX X A B)(k:KpX X B C):KpX X A C:=⟨Nat.le_trans h.1 k.1,fun b hb hl=>(k.2 b hb (Nat.lt_of_lt_of_le hl h.1)).trans (h.2 b hb hl)⟩
theorem kpX_put {X:Nat→Prop}{w:World}(hX:∀ b,X b→b<w.heap.size)(W:World)(l:Nat)(o o':Obj)(hl:w.heap.size≤l)(_:W.heap[l]?=some o)(_:o.isCells=false)(_:o.isWalk=false):KpX X W (W.putObj l o') :=
 ⟨by simp [World.putObj],fun b hb _=>World.putObj_heap_other (by have:=hX b hb;omega)⟩
theorem kpX_alloc (X:Nat→Prop)(W:World)(o:Obj):KpX X W (W.alloc o):=⟨by simp,fun b _ hl=>((Below.refl W.heap.size W).alloc (Nat.le_refl _) o).block b hl⟩
theorem cell_same {w w':World}{b o:Nat}(e:w'.heap[b]?=w.heap[b]?):w'.cell? ⟨b,o,none⟩=w.cell? ⟨b,o,none⟩:=by
 unfold World.cell?;simp only [e]
theorem frozen_same {w w':World}{b o:Nat}(e:w'.heap[b]?=w.heap[b]?):w'.frozen? ⟨b,o,none⟩=w.frozen? ⟨b,o,none⟩:=by
 unfold World.frozen?;simp only [e]
theorem RowAt.blk {w w':World}{g m:Nat}{f:Nat→Value}(h:RowAt w g m f)(e:w'.heap[g]?=w.heap[g]?):RowAt w' g m f:=by
 refine ⟨?_,fun o ho=>⟨(cell_same e).trans (h.2 o ho).1,(frozen_same e).trans (h.2 o ho).2⟩⟩;have h1:=h.1;have h2:w'.heap[g]?=some w.heap[g]:=by rw [e];simp [h1]
 exact (Array.getElem?_eq_some_iff.1 h2).1
def kx (av:Option Addr)(B b:Nat):Prop:=b=B∨b=B+1∨av=some ⟨b,0,none⟩
structure KidsAt (w:World)(av:Option Addr)(len cap Bd B:Nat)(p:Int)(us:List M1.Upd):Prop where
 row:SpIn w av len cap Bd us
 size:B+2≤w.heap.size
 box0:w.cell? ⟨B,0,none⟩=some (.slice av len cap)
 box1:w.cell? ⟨B+1,0,none⟩=some (.int .i64 p)
theorem KidsAt.same {w w':World}{av:Option Addr}{len cap Bd B:Nat}{p:Int}{us:List M1.Upd}(h:KidsAt w av len cap Bd B p us)(hs:w.heap.size≤w'.heap.size)(e:∀ b,kx av B b→b<w.heap.size→w'.heap[b]?=w.heap[b]?):KidsAt w' av len cap Bd B p us:=by
 have hz:=h.size;refine ⟨⟨h.row.len,h.row.cap,h.row.most,?_⟩,by omega,(cell_same (e B (Or.inl rfl) (by omega))).trans h.box0,(cell_same (e (B+1) (Or.inr (Or.inl rfl)) (by omega))).trans h.box1⟩;rcases h.row.lies with h0 | ⟨g,e1,h2,r⟩
 ·exact Or.inl h0
 ·exact Or.inr ⟨g,e1,h2,r.blk (e g (Or.inr (Or.inr e1)) r.lt)⟩
theorem KidsAt.kp {w w':World}{av:Option Addr}{len cap Bd B:Nat}{p:Int}{us:List M1.Upd}(h:KidsAt w av len cap Bd B p us)(k:KpX (kx av B) w w'):KidsAt w' av len cap Bd B p us:=h.same k.1 k.2
theorem kidsOf_stops (F:Fence)(n:Nat)(hF:F.fn 72)(hro:F.round=none)(hn:1≤n)(B Bd:Nat)(av:Option Addr)(len cap:Nat)(p:Int)(us:List M1.Upd)(Pk:M1.Upd→Prop)(hP:∀ k,k<len→(M1.up us k).pa=p→Pk (M1.up us k))(w:World)(hK:KidsAt w av len cap Bd B p us)(hBd:Bd≤w.heap.size)(hav:len=0→av=none∨∃ g,av=some ⟨g,0,none⟩∧g<Bd) :
  SeqStopsK F n Tryz.prog 72 #[.pointer (some ⟨B,0,none⟩),.pointer (some ⟨B+1,0,none⟩)] (fun x:{ u:M1.Upd // Pk u }=>#[Value.agg #[.int .i64 x.1.id,.int .i64 x.1.pa,.string x.1.s,.int .i64 x.1.st,.int .i64 x.1.en]]) (KpX (kx av B)) (fun ys=>ys.map (·.1)=M1.kTo p us len) (fun pre=>∃ k,k≤len∧pre.map (·.1)=M1.kTo p us k) len w:=by
 intro l J Jx W hW hAJ _ hY h0;have hsz:=hW.size;have hBs:=hK.size;have hxl:∀ b,kx av B b→b<w.heap.size:=by
  rintro b (rfl | rfl | e)
  ·omega
  ·omega
  ·rcases hK.row.lies with h0 | ⟨g,e1,h2,r⟩
   ·rcases hav h0 with e2 | ⟨g,e2,h3⟩
    ·rw [e2] at e;cases e
    ·rw [e2] at e;injection e with e;injection e with e;omega
   ·rw [e1] at e;injection e with e;injection e with e;omega
 have hKW:KidsAt W av len cap Bd B p us:=hK.same hsz fun b hb hl=>hW.block b hl;have hA:AbidesFrom W.heap.size (fun (ys:List M1.Upd) X=>∃ xs:List { u:M1.Upd // Pk u },xs.map (·.1)=ys∧J xs X∧KidsAt X av len cap Bd B p us):=by
  rintro s X Y row ⟨xs,e,hj,hf⟩ hg hr;refine ⟨xs,e,hAJ _ _ _ _ hj hg hr,hf.same hg.size fun b hb hl=>hg.block b hl fun e2=>?_⟩;have h1:=(hr b e2.symm).1;have h2:=hxl b hb;omega
 refine (kidsOf1_in F n hF hro hn l B Bd av len cap p us (fun ys X=>∃ xs:List { u:M1.Upd // Pk u },xs.map (·.1)=ys∧J xs X∧KidsAt X av len cap Bd B p us) (fun ys X=>∃ xs:List { u:M1.Upd // Pk u },xs.map (·.1)=ys∧Jx xs X) W.heap.size hA ?_ ?_ W ⟨[],rfl,h0,hKW⟩).mono ?_
 ·rintro pre X ⟨_,_,_,hf⟩
  exact ⟨hf.row,hf.size,hf.box0,hf.box1⟩
 ·rintro k X hk hpa ⟨xs,e,hj,hf⟩
  have hlen:xs.length<len:=by
   have h1:=congrArg List.length e;rw [List.length_map] at h1;have h2:=M1.kTo_len p us k;omega
  have e2:(xs ++ [(⟨M1.up us k,hP k hk hpa⟩:{ u:M1.Upd // Pk u })]).map (·.1)=M1.kTo p us (k+1):=by
   rw [List.map_append,e,M1.kTo_yes (by rw [hf.row.len];exact hk) hpa];rfl
  refine (hY xs ⟨M1.up us k,hP k hk hpa⟩ X hj hlen).mono ?_;rintro e3 Y (⟨rfl,hj2,hk2⟩ | ⟨rfl,hx⟩)
  ·exact Or.inl ⟨rfl,_,e2,hj2,hf.kp hk2⟩
  ·exact Or.inr ⟨rfl,_,e2,hx⟩
 ·rintro e Y ⟨hv,(⟨xs,e2,hj,_⟩ | ⟨k,hk,xs,e2,hx⟩)⟩
  ·exact ⟨hv,Or.inl ⟨xs,e2,hj⟩⟩
  ·exact ⟨hv,Or.inr ⟨xs,⟨k,hk,e2⟩,hx⟩⟩
end Go.Proofs.YtgcinolbkllkkaaGreat
namespace Go.Proofs.YtgcinolbkllkkaaGreat
open Go.ChangeShapes Go.WideShapes Go.ChangeAt Go.RowKit
def ncs (q:M1.Upd × Int):List Value:=[.int .i64 q.1.id,.int .i64 q.1.pa,.string q.1.s,.int .i64 q.1.st,.int .i64 q.1.en,.int .i64 q.2]
def nd (O:List (M1.Upd × Int))(i:Nat):M1.Upd × Int:=O.getD i (M1.zeroU,0)
def ncell (O:List (M1.Upd × Int))(o:Nat):Value:=(ncs (nd O (o / 6))).getD (o % 6) undef
theorem ncell_at (O:List (M1.Upd × Int))(k j:Nat)(h:j<6):ncell O (k*6+j)=(ncs (nd O k)).getD j undef:=by
 unfold ncell;rw [show (k*6+j) / 6=k by omega,show (k*6+j) % 6=j by omega]
def nL (O:List (M1.Upd × Int)):List Value:=O.flatMap ncs
theorem nL_get:∀ (O:List (M1.Upd × Int))(o:Nat),o<O.length*6→(nL O).getD o undef=ncell O o
 | [],o,h=>by simp at h
 | d :: r,o,h=>by
  have e0:nL (d :: r)=ncs d ++ nL r:=rfl;have hl:(ncs d).length=6:=rfl;by_cases c:o<6
  ·have e1:(nL (d :: r)).getD o undef=(ncs d).getD o undef:=by
    rw [e0,List.getD_eq_getElem?_getD,List.getElem?_append_left (by omega),←List.getD_eq_getElem?_getD]
   rw [e1];have:=ncell_at (d :: r) 0 o c;rw [Nat.zero_mul,Nat.zero_add] at this;rw [this];rfl
  ·have ih:=nL_get r (o-6) (by simp at h;omega)
   have e1:(nL (d :: r)).getD o undef=(nL r).getD (o-6) undef:=by
    rw [e0,List.getD_eq_getElem?_getD,List.getElem?_append_right (by omega),←List.getD_eq_getElem?_getD,hl]
   rw [e1,ih];unfold ncell;rw [show o / 6=(o-6) / 6+1 by omega,show (o-6) % 6=o % 6 by omega]
   rfl
theorem infoN0:(Tryz.prog.info? 82).map (fun i=>(i.zero,i.size,i.bytes))=some (some (.agg #[.int .i64 0,.int .i64 0,.string ByteArray.empty,.int .i64 0,.int .i64 0,.int .i64 0]),6,56):=by kernel_rfl
theorem infoN:∃ i,Tryz.prog.info? 82=some i∧i.zero=some (.agg #[.int .i64 0,.int .i64 0,.string ByteArray.empty,.int .i64 0,.int .i64 0,.int .i64 0])∧i.size=6∧i.bytes=56:=by
 have h:=infoN0
 cases e:Tryz.prog.info? 82 with
 | none=>rw [e] at h;cases h
 | some i=>rw [e] at h;simp at h;exact ⟨i,rfl,h.1,h.2.1,h.2.2⟩
theorem newsN (w:World)(x0 x1 x2 x3 x4 x5:Value)(t:TypeId):∀ j u,[x0,x1,x2,x3,x4,x5][j]?=some u→(w.alloc (.cells #[x0,x1,x2,x3,x4,x5] t)).cell? ((⟨w.heap.size,0,none⟩:Addr).add j)=some u:=by
 intro j u hu
 match j,hu with
 | 0,hu=>simp at hu;subst hu;simp [Addr.add]
 | 1,hu=>simp at hu;subst hu;simp [Addr.add]
 | 2,hu=>simp at hu;subst hu;simp [Addr.add]
 | 3,hu=>simp at hu;subst hu;simp [Addr.add]
 | 4,hu=>simp at hu;subst hu;simp [Addr.add]
 | 5,hu=>simp at hu;subst hu;simp [Addr.add]
 | j+6,hu=>simp at hu
theorem oneN (q:M1.Upd × Int):∀ v∈ncs q,v.oneCell'=true:=by
 intro v hv;simp [ncs] at hv
 rcases hv with rfl | rfl | rfl | rfl | rfl | rfl <;> rfl
theorem ownN_row {w:World}{base n cap g:Nat}{O:List (M1.Upd × Int)}(hl:O.length=n)(h:w.ownsRow base 82 6 (.slice (some ⟨g,0,none⟩) n cap) n (nL O)):RowAt w g (n*6) (ncell O) :=
 (RowAt.of_owns h).same fun o ho=>nL_get O o (by rw [hl];exact ho)
end Go.Proofs.YtgcinolbkllkkaaGreat
namespace M1
def fors (us:List Upd)(tr:Int):List (Upd × Int):=forest (sps us tr)
theorem sps_sorted (us:List Upd)(tr:Int):(sps us tr).Pairwise idlt:=by
 unfold sps
 split
 ·exact spTo_sorted us tr us.length
 ·exact List.Pairwise.nil
end M1
namespace Go.Proofs.YtgcinolbkllkkaaGreat
open Go.ChangeShapes Go.WideShapes Go.ChangeAt Go.RowKit
def MN (w:World)(av:Option Addr)(n cap lo hi:Nat)(f:Nat→Value):Prop :=
 n≤cap∧cap≤maxLen∧((n=0∧av=none)∨∃ g,av=some ⟨g,0,none⟩∧lo≤g∧g<hi∧RowAt w g (n*6) f)
theorem MN.below {w w':World}{av:Option Addr}{n cap lo hi:Nat}{f:Nat→Value}(h:MN w av n cap lo hi f)(hb:Below w.heap.size w w'):MN w' av n cap lo hi f :=
 ⟨h.1,h.2.1,h.2.2.imp id fun ⟨g,e,h1,h2,r⟩=>⟨g,e,h1,h2,r.below hb⟩⟩
theorem MN.of_owns {w:World}{base n:Nat}{av:Option Addr}{cap:Nat}{O:List (M1.Upd × Int)}(hl:O.length=n)(h:w.ownsRow base 82 6 (.slice av n cap) n (nL O)):MN w av n cap base w.heap.size (ncell O):=by
 have h0:=h;obtain ⟨h1,h2⟩:=h;rcases h2 with ⟨e1,h3⟩ | ⟨g,cap',cur,e1,hg,hh,hn,hm,hs,ht⟩
 ·injection e1 with a1 a2 a3;subst a1;subst a3
  exact ⟨by omega,by unfold maxLen;omega,Or.inl ⟨h3,rfl⟩⟩
 ·injection e1 with a1 a2 a3;subst a1;subst a3
  have hr:=ownN_row hl h0;exact ⟨hn,hm,Or.inr ⟨g,rfl,hg,hr.lt,hr⟩⟩
theorem MN.wide {w:World}{av:Option Addr}{n cap lo hi lo2 hi2:Nat}{f:Nat→Value}(h:MN w av n cap lo hi f)(h1:lo2≤lo)(h2:hi≤hi2):MN w av n cap lo2 hi2 f :=
 ⟨h.1,h.2.1,h.2.2.imp id fun ⟨g,e,h3,h4,r⟩=>⟨g,e,by omega,by omega,r⟩⟩
def NdW (w w':World)(e:Ending)(r:List (M1.Upd × Int)):Prop:=∃ (a:Option Addr) (c:Nat),e=.returned (.slice a r.length c)∧MN w' a r.length c w.heap.size w'.heap.size (ncell r)
end Go.Proofs.YtgcinolbkllkkaaGreat
namespace Go.Proofs.YtgcinolbkllkkaaGreat
open Go.ChangeShapes Go.WideShapes Go.ChangeAt Go.RowKit Go.Shelf
structure GFix (W:World)(base N BS BI BG b m:Nat)(bv:Option Addr)(bc:Nat)(S:List M1.Upd):Prop where
 bS:Boxed W BS 83 (.slice bv m bc)
 bI:Boxed W BI 85 (.map (some b))
 bG:Boxed W BG 88 (.func (.func 39) #[] #[.pointer (some ⟨N,0,none⟩),.pointer (some ⟨BS,0,none⟩),.pointer (some ⟨BI,0,none⟩),.pointer (some ⟨BG,0,none⟩)])
 row:SpIn W bv m bc base (M1.bySt S)
 map:MapS W b S
 far:∀ k,(k=BS∨k=BI∨k=BG∨k=b∨bv=some ⟨k,0,none⟩)→k<base∧¬k=N
 size:base≤W.heap.size
theorem GFix.same {W W':World}{base N BS BI BG b m:Nat}{bv:Option Addr}{bc:Nat}{S:List M1.Upd}(h:GFix W base N BS BI BG b m bv bc S)(hs:base≤W'.heap.size)(e:∀ k,k<base→¬k=N→W'.heap[k]?=W.heap[k]?):GFix W' base N BS BI BG b m bv bc S:=by
 have q:∀ k,(k=BS∨k=BI∨k=BG∨k=b∨bv=some ⟨k,0,none⟩)→W'.heap[k]?=W.heap[k]?:=fun k hk=>e k (h.far k hk).1 (h.far k hk).2;refine ⟨(q BS (Or.inl rfl)).trans h.bS,(q BI (Or.inr (Or.inl rfl))).trans h.bI,(q BG (Or.inr (Or.inr (Or.inl rfl)))).trans h.bG,⟨h.row.len,h.row.cap,h.row.most,?_⟩,h.map.block (q b (Or.inr (Or.inr (Or.inr (Or.inl rfl))))),h.far,hs⟩;rcases h.row.lies with h0 | ⟨g,e1,h2,r⟩
 ·exact Or.inl h0
 ·exact Or.inr ⟨g,e1,h2,r.blk (q g (Or.inr (Or.inr (Or.inr (Or.inr e1)))))⟩
def GNo (W:World)(base N:Nat)(v:Value)(O:List (M1.Upd × Int)):Prop:=Boxed W N 40 v∧W.ownsRow base 82 6 v O.length (nL O)
structure Trn (N:Nat)(v v':Value)(W W':World):Prop where
 env:W'.os=W.os∧W'.tape=W.tape∧W'.output=W.output
 size:W.heap.size≤W'.heap.size
 block:∀ k,k<W.heap.size→¬k=N→some k≠v.ownBlock→W'.heap[k]?=W.heap[k]?
 own:∀ k,v'.ownBlock=some k→v.ownBlock=some k∨W.heap.size≤k
theorem Trn.refl (N:Nat)(v:Value)(W:World):Trn N v v W W:=⟨⟨rfl,rfl,rfl⟩,Nat.le_refl _,fun _ _ _ _=>rfl,fun _ h=>Or.inl h⟩
theorem Trn.trans {N:Nat}{v v' v'':Value}{A B C:World}(h:Trn N v v' A B)(k:Trn N v' v'' B C):Trn N v v'' A C where
 env:=⟨k.env.1.trans h.env.1,k.env.2.1.trans h.env.2.1,k.env.2.2.trans h.env.2.2⟩
 size:=Nat.le_trans h.size k.size
 block b hb hn ho:=(k.block b (Nat.lt_of_lt_of_le hb h.size) hn (fun e=>by
  rcases h.own b e.symm with e2 | e2
  ·exact ho e2.symm
  ·omega)).trans (h.block b hb hn ho)
 own b e:=by
  rcases k.own b e with e2 | e2
  ·exact h.own b e2
  ·exact Or.inr (Nat.le_trans h.size e2)
theorem Trn.below {N:Nat}{v:Value}{W W':World}(h:Below W.heap.size W W'):Trn N v v W W':=⟨⟨h.os,h.tape,h.output⟩,h.size,fun k hk _ _=>h.block k hk,fun _ e=>Or.inl e⟩
theorem GFix.trn {W W':World}{base N BS BI BG b m:Nat}{bv:Option Addr}{bc:Nat}{S:List M1.Upd}{v v':Value}{n:Nat}{xs:List Value}(h:GFix W base N BS BI BG b m bv bc S)(t:Trn N v v' W W')(hown:W.ownsRow base 82 6 v n xs):GFix W' base N BS BI BG b m bv bc S :=
 h.same (Nat.le_trans h.size t.size) fun k hk hn=>t.block k (Nat.lt_of_lt_of_le hk h.size) hn fun e=>by
  have:=owns_base hown k e.symm;omega
theorem trn_append {W w4:World}{base N n m2:Nat}{v v':Value}{xs ys:List Value}{tmp:Obj}(hv:Boxed W N 40 v)(hrow:W.ownsRow base 82 6 v n xs)(hown':w4.ownsRow base 82 6 v' m2 ys)(hgrow:(W.alloc tmp).grownBy w4 v.ownBlock)(hat:∀ k,v'.ownBlock=some k→v.ownBlock=some k∨k=(W.alloc tmp).heap.size) :
  Boxed w4 N 40 v∧Boxed (w4.setCell ⟨N,0,none⟩ v') N 40 v'∧(w4.setCell ⟨N,0,none⟩ v').ownsRow base 82 6 v' m2 ys∧Trn N v v' W (w4.setCell ⟨N,0,none⟩ v'):=by
 have hne:(40:TypeId)≠82:=by decide
 have hv1:Boxed w4 N 40 v:=(hv.alloc tmp).kept hgrow (hv.not_row hne hrow);have hsz:=hgrow.size;simp only [World.size_alloc] at hsz;refine ⟨hv1,hv1.set v',hown'.kept (grownBy_setCell' w4 N v') (.inr (hv1.not_row hne hown').symm),⟨hgrow.os,hgrow.tape,hgrow.output⟩,?_,?_,?_⟩
 ·have:=(grownBy_setCell' w4 N v').size
  omega
 ·intro k hk hn ho
  refine ((grownBy_setCell' w4 N v').block k (by omega) (fun e=>hn (by injection e))).trans ((hgrow.block k (by simp;omega) ho).trans (((Below.refl W.heap.size W).alloc (Nat.le_refl _) tmp).block k hk))
 ·intro k e
  rcases hat k e with h | h
  ·exact Or.inl h
  ·refine Or.inr ?_
   rw [h];simp
theorem Trn.to_below {N B:Nat}{v v':Value}{W W':World}(t:Trn N v v' W W')(hB:B≤W.heap.size)(hN:B≤N)(ho:∀ k,v.ownBlock=some k→B≤k):Below B W W' :=
 ⟨t.env.1,t.env.2.1,t.env.2.2,t.size,fun k hk=>t.block k (by omega) (by omega) (fun e=>by have:=ho k e.symm;omega)⟩
def SBox (W:World)(B:Nat)(u:M1.Upd):Prop:=W.heap[B]?=some (.cells #[.int .i64 u.id,.int .i64 u.pa,.string u.s,.int .i64 u.st,.int .i64 u.en] 70 (0,0))
theorem SBox.lt {W:World}{B:Nat}{u:M1.Upd}(h:SBox W B u):B<W.heap.size:=(Array.getElem?_eq_some_iff.1 h).1
theorem SBox.new (W:World)(u:M1.Upd):SBox (W.alloc (.cells #[.int .i64 u.id,.int .i64 u.pa,.string u.s,.int .i64 u.st,.int .i64 u.en] 70)) W.heap.size u:=World.alloc_heap_new W _
theorem SBox.same {W W':World}{B:Nat}{u:M1.Upd}(h:SBox W B u)(e:W'.heap[B]?=W.heap[B]?):SBox W' B u:=e.trans h
theorem SBox.cell {W:World}{B:Nat}{u:M1.Upd}(h:SBox W B u):W.cell? ⟨B,0,none⟩=some (.int .i64 u.id)∧W.cell? ⟨B,1,none⟩=some (.int .i64 u.pa)∧W.cell? ⟨B,2,none⟩=some (.string u.s)∧W.cell? ⟨B,3,none⟩=some (.int .i64 u.st)∧W.cell? ⟨B,4,none⟩=some (.int .i64 u.en):=by
 refine ⟨?_,?_,?_,?_,?_⟩ <;> simp [World.cell?,show W.heap[B]?=_ from h]
theorem sbox_own {β:Type}(B:Nat)(f:β→M1.Upd):Own (fun s W=>SBox W B (f s)):=fun s X Y row hs hg hrow =>
 (hg.block B hs.lt (fun e'=>by obtain ⟨o,ho,hc⟩:=hrow B e'.symm;rw [show X.heap[B]?=_ from hs] at ho;cases ho;cases hc)).trans hs
theorem SBox.not_row {W:World}{B:Nat}{u:M1.Upd}(h:SBox W B u){base n:Nat}{v:Value}{xs:List Value}(hr:W.ownsRow base 82 6 v n xs):some B≠v.ownBlock:=by
 intro e;rcases hr.2 with ⟨rfl,_⟩ | ⟨g,cap,cur,rfl,_,hgb,_⟩
 ·simp [Value.ownBlock] at e
 ·obtain rfl:B=g:=by simpa [Value.ownBlock] using e
  rw [show W.heap[B]?=_ from h] at hgb;injection hgb with hgb;injection hgb with _ h2
  revert h2;decide
structure GI (base N BS BI BG b m:Nat)(bv:Option Addr)(bc:Nat)(S:List M1.Upd)(D B:Nat)(j sid:Int)(v:Value)(W:World)(Z:Nat)(L:List (M1.Upd × Int))(Y:World):Prop where
 no:∃ v',GNo Y base N v' L∧Trn N v v' W Y
 fix:GFix Y base N BS BI BG b m bv bc S
 deep:Boxed Y D 2 (.int .i64 j)
 k0:Boxed Y B 83 (.slice bv m bc)
 k1:Boxed Y (B+1) 2 (.int .i64 sid)
 size:Z≤Y.heap.size
theorem GI.own {base N BS BI BG b m:Nat}{bv:Option Addr}{bc:Nat}{S:List M1.Upd}{D B:Nat}{j sid:Int}{v:Value}{W:World}{Z:Nat}{L:List (M1.Upd × Int)}{X Y:World}(h:GI base N BS BI BG b m bv bc S D B j sid v W Z L X)(hb:base≤Z)(hN:N<Z)(hW:W.heap.size≤Z)(hD:D<Z)(hB:B+1<Z){row:Option Nat}(hg:X.grownBy Y row)(hr:∀ r,row=some r→Z≤r∧∃ o:Obj,X.heap[r]?=some o∧o.isCells=false):GI base N BS BI BG b m bv bc S D B j sid v W Z L Y:=by
 have hsz:=h.size;have st:∀ k,k<Z→Y.heap[k]?=X.heap[k]?:=fun k hk=>hg.block k (by omega) (fun e=>by have:=(hr k e.symm).1;omega);obtain ⟨v',⟨bN,ow⟩,t⟩:=h.no;refine ⟨⟨v',⟨(st N hN).trans bN,ow.kept hg ?_⟩,⟨hg.os.trans t.env.1,hg.tape.trans t.env.2.1,hg.output.trans t.env.2.2⟩,Nat.le_trans t.size hg.size,fun k hk hn ho=>(st k (by omega)).trans (t.block k hk hn ho),t.own⟩,h.fix.same (by have:=hg.size;omega) (fun k hk _=>st k (by omega)),(st D hD).trans h.deep,(st B (by omega)).trans h.k0,(st (B+1) hB).trans h.k1,Nat.le_trans hsz hg.size⟩;rcases ow.2 with ⟨rfl,_⟩ | ⟨g,cap,cur,rfl,_,hgb,_⟩
 ·exact .inl rfl
 ·refine .inr fun e'=>?_
  obtain ⟨o,ho,hc⟩:=(hr g (by simpa [Value.ownBlock] using e'.symm)).2;rw [hgb] at ho;cases ho;cases hc
theorem GI.below {base N BS BI BG b m:Nat}{bv:Option Addr}{bc:Nat}{S:List M1.Upd}{D B:Nat}{j sid:Int}{v:Value}{W:World}{Z:Nat}{L:List (M1.Upd × Int)}{X Y:World}(h:GI base N BS BI BG b m bv bc S D B j sid v W Z L X)(hW:W.heap.size≤Z)(hB:Below X.heap.size X Y):GI base N BS BI BG b m bv bc S D B j sid v W Z L Y:=by
 have hsz:=h.size;have hs2:=hB.size;obtain ⟨v',⟨bN,ow⟩,t⟩:=h.no;exact ⟨⟨v',⟨(hB.block N bN.lt).trans bN,owns_below ow hB⟩,⟨hB.os.trans t.env.1,hB.tape.trans t.env.2.1,hB.output.trans t.env.2.2⟩,Nat.le_trans t.size hs2,fun k hk hn ho=>(hB.block k (by omega)).trans (t.block k hk hn ho),t.own⟩,h.fix.same (by have:=h.fix.size;omega) (fun k hk _=>hB.block k (by have:=h.fix.size;omega)),(hB.block D h.deep.lt).trans h.deep,(hB.block B h.k0.lt).trans h.k0,(hB.block (B+1) h.k1.lt).trans h.k1,by omega⟩
theorem GI.grown {base N BS BI BG b m:Nat}{bv:Option Addr}{bc:Nat}{S:List M1.Upd}{D B:Nat}{j sid:Int}{v v1 v2:Value}{W:World}{Z:Nat}{L L':List (M1.Upd × Int)}{X Y:World}(h:GI base N BS BI BG b m bv bc S D B j sid v W Z L X)(hDN:¬D=N)(hBN:¬B=N)(hBN1:¬B+1=N)(no1:GNo X base N v1 L)(t0:Trn N v v1 W X)(no2:GNo Y base N v2 L')(t:Trn N v1 v2 X Y) :
  GI base N BS BI BG b m bv bc S D B j sid v W Z L' Y∧KpX (kx bv B) X Y∧KeepsFrom Z X Y:=by
 have hf:=h.fix;have st:∀ k,k<X.heap.size→¬k=N→some k≠v1.ownBlock→Y.heap[k]?=X.heap[k]?:=t.block;have kD:=st D h.deep.lt hDN (h.deep.not_row (by decide) no1.2);have k0:=st B h.k0.lt hBN (h.k0.not_row (by decide) no1.2);have k1:=st (B+1) h.k1.lt hBN1 (h.k1.not_row (by decide) no1.2);refine ⟨⟨⟨v2,no2,t0.trans t⟩,hf.trn t no1.2,kD.trans h.deep,k0.trans h.k0,k1.trans h.k1,Nat.le_trans h.size t.size⟩,⟨t.size,?_⟩,⟨t.size,?_⟩⟩
 ·rintro k (rfl | rfl | e) hk
  ·exact k0
  ·exact k1
  ·have q:=hf.far k (Or.inr (Or.inr (Or.inr (Or.inr e))))
   refine st k hk q.2 (fun e2=>?_);have:=owns_base no1.2 k e2.symm;omega
 ·intro k o _ hk ho
  refine (st k (Array.getElem?_eq_some_iff.1 hk).1 (fun e=>?_) (fun e=>?_)).trans hk
  ·subst e
   rw [show X.heap[k]?=_ from no1.1] at hk;cases hk;cases ho
  ·rcases no1.2.2 with ⟨rfl,_⟩ | ⟨g,cap,cur,rfl,_,hgb,_⟩
   ·simp [Value.ownBlock] at e
   ·obtain rfl:k=g:=by simpa [Value.ownBlock] using e
    rw [hgb] at hk;cases hk;cases ho
end Go.Proofs.YtgcinolbkllkkaaGreat
