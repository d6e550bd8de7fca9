/-
  Texts of one proof, joined: Fi9, Fi10.
-/
import Derived.Test.YtgcinolbkllkkaaGreatZFConverged47
import Derived.Laws.EntriesVeiled
set_option linter.unusedSimpArgs false
set_option linter.unusedVariables false
namespace Go.Proofs.YtgcinolbkllkkaaGreat
open Go.ChangeShapes Go.WideShapes Go.ChangeAt Go.RowKit Go.Shelf
attribute [local go_sem] Oper.semAt_some
theorem sub_kid {S:List M1.Upd}{r s x:M1.Upd}{j:Nat}(h:M1.Sub S r s j)(hp:M1.par S x=some s)(hx:M1.rootB S x=false):M1.Sub S r x (j+1):=by
 refine ⟨(M1.itr_succ hp).trans h.1,fun i y hi hy=>?_⟩
 cases i with
 | zero =>
  have e:some x=some y:=hy;injection e with e;rw [←e];exact hx
 | succ i =>
  rw [M1.itr_succ hp] at hy;exact h.2 i y (by omega) hy
theorem growF_len {S:List M1.Upd}(hS:S.Pairwise M1.idlt){r k:M1.Upd}{d f:Nat}{D:Int}(hr:r∈S)(hroot:M1.rootB S r=true)(hk:k∈S)(hq:M1.rootB S k=false)(hsub:M1.Sub S r k d):(M1.growF S f k D).length≤S.length:=by
 have hp:M1.Pre S r k d [(r,0)]:=by
  refine ⟨hk,hroot,hsub,fun q hq2=>?_,Or.inr ⟨(r,0),by simp,rfl⟩⟩;have e:q=(r,0):=by simpa using hq2
  subst e;refine ⟨hr,fun j h=>?_⟩
  cases j with
  | zero =>
   have e:some r=some k:=h.1;injection e with e;rw [e] at hroot;rw [hroot] at hq;cases hq
  | succ j =>
   have:=h.2 0 r (by omega) rfl;rw [hroot] at this;cases this
 have h1:=M1.nd_grow hS f (D:=D) hp (by simp [M1.idsO]);have h2:=M1.nd_len h1 fun q hq2=>by
  rcases List.mem_append.1 hq2 with h | h
  ·have e:q=(r,0):=by simpa using h
   rw [e];exact hr
  ·exact (M1.grow_mem hS hk h).1
 simp at h2
 omega
theorem flat_len {S:List M1.Upd}{s:M1.Upd}{m:Nat}(F:M1.Upd→List (M1.Upd × Int))(h:∀ k∈M1.kids S s,(F k).length≤m):∀ pre:List { u:M1.Upd // u∈M1.kids S s },(pre.flatMap (fun k=>F k.1)).length≤pre.length*m
 | []=>by simp
 | k :: t=>by
  have h1:=flat_len F h t;have h2:=h k.1 k.2;rw [List.flatMap_cons,List.length_append,List.length_cons,Nat.succ_mul];omega
set_option maxRecDepth 100000 in
set_option maxHeartbeats 16000000 in
theorem grow_any {base N BS BI BG b m:Nat}{bv:Option Addr}{bc:Nat}{S:List M1.Upd}(hS:S.Pairwise M1.idlt)(hm:Hid (S.length=m))(hm60:m≤1000){r:M1.Upd}(hr:r∈S)(hroot:Hid (M1.rootB S r=true)) :
  ∀ (f j:Nat) (s:M1.Upd) (v:Value) (O:List (M1.Upd × Int)) (W:World),f+j=m→s∈S→M1.Sub S r s j→O.length+f*(1+m*m)≤1000000000→GFix W base N BS BI BG b m bv bc S→GNo W base N v O →
  Calls Tryz.prog 39 #[.agg #[.int .i64 s.id,.int .i64 s.pa,.string s.s,.int .i64 s.st,.int .i64 s.en],.int .i64 j,.pointer (some ⟨N,0,none⟩),.pointer (some ⟨BS,0,none⟩),.pointer (some ⟨BI,0,none⟩),.pointer (some ⟨BG,0,none⟩)] W fun e W'=>e=.returned (.tuple #[])∧∃ v',GNo W' base N v' (O ++ M1.growF S f s j)∧Trn N v v' W W':=by
 intro f
 induction f with
 | zero =>
  intro j s v O W hfj hs hsub _ _ _;exfalso
  have:=M1.sub_deep hS hs hsub;rw [hm.out] at this;omega
 | succ f ih =>
  intro j s v O W hfj hs hsub hroom hfix hno;obtain ⟨bN,own⟩:=hno;obtain ⟨va,vc,hve⟩:∃ va vc,v=.slice va O.length vc:=by
   rcases own.2 with ⟨hv0,hn0⟩ | ⟨g,cap,cur,hv,_⟩
   ·exact ⟨none,0,by rw [hv0,hn0]⟩
   ·exact ⟨_,_,hv⟩
  subst hve;have hb6:O.length≤1000000000:=by omega
  have hNl:=bN.lt;have cN:=bN.cell;have fN:=bN.frozen;obtain ⟨ti,hi1,hi2,hi3,hi4⟩:=infoN;have hi4':Hid (ti.bytes=56):=hi4;have hi2':Hid (ti.zero=some (.agg #[.int .i64 0,.int .i64 0,.string ByteArray.empty,.int .i64 0,.int .i64 0,.int .i64 0])):=hi2;have hi3':Hid (ti.size=6):=hi3;have hi1':Hid (Tryz.prog.info? 82=some ti):=hi1;clear hi1 hi2 hi3 hi4;refine (callsIn_wide (n:=6)).1 ?_;refine callsIn_of_wp_marks Tryz.func39 rfl trivial ?_ rfl;simp only [Tryz.ntmps39,List.size_toArray,List.length_cons,List.length_nil,Nat.reduceAdd,Nat.reduceSub,Array.replicate_succ,Array.replicate_zero,List.push_toArray,List.append_toArray,List.nil_append,List.cons_append];refine wpIn_wide.2 ?_;have hsz:=hfix.size;have hA:Below W.heap.size W ((W.alloc (.cells #[.int .i64 s.id,.int .i64 s.pa,.string s.s,.int .i64 s.st,.int .i64 s.en] 70)).alloc (.cells #[.int .i64 j] 2)):=((Below.refl _ _).alloc (Nat.le_refl _) _).alloc (by simp) _;have bX:SBox ((W.alloc (.cells #[.int .i64 s.id,.int .i64 s.pa,.string s.s,.int .i64 s.st,.int .i64 s.en] 70)).alloc (.cells #[.int .i64 j] 2)) W.heap.size s:=(SBox.new W s).same (((Below.refl _ _).alloc (Nat.le_refl _) _).block _ (by simp));have bD:=Boxed.new (W.alloc (.cells #[.int .i64 s.id,.int .i64 s.pa,.string s.s,.int .i64 s.st,.int .i64 s.en] 70)) 2 (.int .i64 j);simp only [World.size_alloc] at bD;have hz0:((W.alloc (.cells #[.int .i64 s.id,.int .i64 s.pa,.string s.s,.int .i64 s.st,.int .i64 s.en] 70)).alloc (.cells #[.int .i64 j] 2)).heap.size=W.heap.size+2:=by simp
  go_upto_region 1 with fail
  obtain ⟨W0,hW0⟩:∃ W0,(W.alloc (.cells #[.int .i64 s.id,.int .i64 s.pa,.string s.s,.int .i64 s.st,.int .i64 s.en] 70)).alloc (.cells #[.int .i64 j] 2)=W0:=⟨_,rfl⟩
  rw [hW0] at bX bD hA hz0 ⊢;clear hW0;have own1:=owns_below own hA;have bN1:Boxed W0 N 40 (.slice va O.length vc):=(hA.block N hNl).trans bN;have fix1:=hfix.same (by omega) (fun k hk _=>hA.block k (by omega));obtain ⟨cx0,cx1,cx2,cx3,cx4⟩:=bX.cell;have cD:=bD.cell;have cN1:=bN1.cell;have fN1:=bN1.frozen;have hzG:Hid (W0.heap.size=W.heap.size+2):=hz0;have hN0:N<W0.heap.size:=by omega
  have hX0:=bX.lt;have hD0:=bD.lt;clear hz0 cN fN;go_upto_region 2 with (at_builtin;refine wpList_append_lies _ rfl _ _ _ rfl base 82 ti _ 6 56 Tryz.underlying40 hi1'.out hi2'.out hi3'.out hi4'.out rfl (by omega) (.slice va O.length vc) O.length (nL O) rfl (own1.alloc _) ⟨W0.heap.size,0,none⟩ 1 1 (ncs (s,(j:Int))) rfl rfl (newsN _ _ _ _ _ _ _ _) (oneN _) (by omega) (by unfold maxLen;omega) (by omega) (by simp;omega) _ rfl ?_;intro g4 cap4 w4 hown4 hgrow4 hat4 hlt4;obtain ⟨bN4,bN5,own5,trn5⟩:=trn_append bN1 own1 hown4 hgrow4 (by intro k e;rcases hat4 with h | h;(left;have e3:g4=k:=(by simpa [Value.ownBlock] using e);rw [←e3];exact h);(right;have e3:g4=k:=(by simpa [Value.ownBlock] using e);rw [←e3];exact h));have cN4:=bN4.cell;have fN4:=bN4.frozen)
  obtain ⟨W5,hW5⟩:∃ W5,w4.setCell ⟨N,0,none⟩ (.slice (some ⟨g4,0,none⟩) (O.length+1) cap4)=W5:=⟨_,rfl⟩
  rw [hW5] at bN5 own5 trn5 ⊢;clear hW5 cN4 fN4 bN4 hown4 hgrow4 hat4 hlt4;have hXN:¬W.heap.size=N:=by omega
  have hDN:¬W.heap.size+1=N:=by omega
  have fix5:=fix1.trn trn5 own1;have bX5:SBox W5 W.heap.size s:=bX.same (trn5.block _ hX0 hXN (bX.not_row own1));have bD5:Boxed W5 (W.heap.size+1) 2 (.int .i64 j):=(trn5.block _ hD0 hDN (bD.not_row (by decide) own1)).trans bD;have hz5:=trn5.size;have trnW:Trn N (.slice va O.length vc) (.slice (some ⟨g4,0,none⟩) (O.length+1) cap4) W W5:=(Trn.below hA).trans trn5;clear cx0 cx1 cx2 cx3 cx4 cD cN1 fN1;obtain ⟨cx0,cx1,cx2,cx3,cx4⟩:=bX5.cell;have cD:=bD5.cell;have cS:=fix5.bS.cell;go_wp2_with fail
  refine (callsIn_wide.1 (kidsOf_in Fence.wide 5 trivial rfl _ _ _ _ _)).mono ?_;rintro e w2 ⟨rfl,rfl⟩;simp only [World.size_alloc];have b0:=(Boxed.new W5 83 (.slice bv m bc)).alloc (.cells #[.int .i64 s.id] 2);have b1:=Boxed.new (W5.alloc (.cells #[.slice bv m bc] 83)) 2 (.int .i64 s.id);simp only [World.size_alloc] at b0 b1;have hA6:Below W5.heap.size W5 ((W5.alloc (.cells #[.slice bv m bc] 83)).alloc (.cells #[.int .i64 s.id] 2)):=((Below.refl _ _).alloc (Nat.le_refl _) _).alloc (by simp) _;have hz6:((W5.alloc (.cells #[.slice bv m bc] 83)).alloc (.cells #[.int .i64 s.id] 2)).heap.size=W5.heap.size+2:=by simp
  obtain ⟨W6,hW6⟩:∃ W6,(W5.alloc (.cells #[.slice bv m bc] 83)).alloc (.cells #[.int .i64 s.id] 2)=W6:=⟨_,rfl⟩
  rw [hW6] at b0 b1 hA6 hz6 ⊢;clear hW6;go_wp2_with fail
  refine (wpIn_wide (n:=6)).1 ?_;have hLG:Hid ((M1.bySt S).length=m):=fix5.row.len;have hKA:KidsAt W6 bv m bc base W5.heap.size s.id (M1.bySt S):=⟨fix5.row.below (hA6.mono fix5.size),by omega,b0.cell,b1.cell⟩
  have fix6:=fix5.same (by have:=fix5.size;omega) (fun k hk _=>hA6.block k (by have:=fix5.size;omega));have GI0:GI base N BS BI BG b m bv bc S (W.heap.size+1) W5.heap.size j s.id (.slice va O.length vc) W W6.heap.size (O ++ [(s,(j:Int))]) W6:=by
   refine ⟨⟨_,⟨(hA6.block N bN5.lt).trans bN5,?_⟩,trnW.trans (Trn.below hA6)⟩,fix6,(hA6.block _ bD5.lt).trans bD5,b0,b1,Nat.le_refl _⟩;have e1:nL (O ++ [(s,(j:Int))])=nL O ++ ncs (s,(j:Int)):=by unfold nL;rw [List.flatMap_append];simp
   have e2:(O ++ [(s,(j:Int))]).length=O.length+1:=by simp
   rw [e1,e2];exact owns_below own5 hA6
  have hbW:=hfix.size;have hb5:=fix5.size;have hN5:=bN5.lt;have hP:∀ k,k<m→(M1.up (M1.bySt S) k).pa=s.id→M1.up (M1.bySt S) k∈M1.kids S s:=fun k hk e=>by
   unfold M1.kids;rw [List.mem_filter];exact ⟨M1.up_in (by rw [hLG.out];exact hk),by simpa using e⟩
  refine wpIn_rangeFunc_ownH rfl (by omega) (gf:=72) (lb:=#[.pointer (some ⟨W5.heap.size,0,none⟩),.pointer (some ⟨W5.heap.size+1,0,none⟩)]) rfl trivial (enters_of Tryz.func72 (by kernel_rfl) rfl)
   (kidsOf_stops Fence.wide _ trivial rfl (by omega) W5.heap.size base bv m bc s.id (M1.bySt S) (fun u=>u∈M1.kids S s) hP W6 hKA (by omega) ?av) kpX_t (kpX_put ?kx) (Below.refl _ _) (fun _=>rfl)
   (fun pre Y=>GI base N BS BI BG b m bv bc S (W.heap.size+1) W5.heap.size j s.id (.slice va O.length vc) W W6.heap.size (O ++ (s,(j:Int)) :: pre.flatMap (fun k=>if M1.rootB S k.1=true then [] else M1.growF S f k.1 ((j:Int)+1))) Y∧pre.length≤m)
   (fun _ _ _=>False)
   (fun _ _ _ _ hs hg hr=>⟨hs.1.own (by omega) (by omega) (by omega) (by omega) (by omega) hg hr,hs.2⟩)
   (fun _ _ _ _ _ hs _ _=>hs)
   ⟨GI0,Nat.zero_le _⟩
   (fun x a' Y=>∃ Bx,SBox Y Bx x.1∧a'={ tmps:=#[.agg #[.int .i64 s.id,.int .i64 s.pa,.string s.s,.int .i64 s.st,.int .i64 s.en],.int .i64 j,.pointer (some ⟨N,0,none⟩),.pointer (some ⟨BS,0,none⟩),.pointer (some ⟨BI,0,none⟩),.pointer (some ⟨BG,0,none⟩),.pointer (some ⟨W.heap.size,0,none⟩),.pointer (some ⟨W.heap.size+1,0,none⟩),.pointer (some ⟨Bx,0,none⟩),.slice va O.length vc,.agg #[.int .i64 s.id,.int .i64 s.pa,.string s.s,.int .i64 s.st,.int .i64 s.en],.int .i64 j,.agg #[.int .i64 s.id,.int .i64 s.pa,.string s.s,.int .i64 s.st,.int .i64 s.en,.int .i64 j],.slice (some ⟨W0.heap.size,0,none⟩) 1 1,.slice (some ⟨g4,0,none⟩) (O.length+1) cap4,.slice bv m bc,.pointer (some ⟨W.heap.size,0,none⟩),.int .i64 s.id,.func (.func 72) #[] #[.pointer (some ⟨W5.heap.size,0,none⟩),.pointer (some ⟨W5.heap.size+1,0,none⟩)],.agg #[.int .i64 x.1.id,.int .i64 x.1.pa,.string x.1.s,.int .i64 x.1.st,.int .i64 x.1.en],undef,undef,undef,undef,undef,undef,undef,undef,undef],defers:=[] })
   (fun x a' _ X Y row hs hg hr=>by obtain ⟨Bx,h2,h3⟩:=hs;exact ⟨Bx,sbox_own Bx (fun (_:Unit)=>x.1) () X Y row h2 hg (fun r e=>(hr r e).2),h3⟩)
   ?assign ?body ?done ?stop
  case av =>
   intro h0;exfalso
   have:=List.length_pos_of_mem hs;rw [hm.out] at this;omega
  case kx =>
   rintro k (rfl | rfl | e)
   ·omega
   ·omega
   ·have:=(fix5.far k (Or.inr (Or.inr (Or.inr (Or.inr e))))).1
    omega
  case assign =>
   rintro l pre x Y K ⟨hG,hpl⟩ hK
   gi_wp2
   exact hK _ _ ((KeepsOthers.alloc _ _).from _) (kpX_alloc _ _ _) ⟨hG.below (by omega) ((Below.refl _ _).alloc (Nat.le_refl _) _),hpl⟩ ⟨Y.heap.size,SBox.new Y x.1,rfl⟩
  case body =>
   rintro l pre x a' Y hl ⟨r',hr'⟩ ⟨hG,hpl⟩ ⟨Bx,bXx,rfl⟩ hlt;obtain ⟨v1,no1,t1⟩:=hG.no;obtain ⟨y0,y1,y2,y3,y4⟩:=bXx.cell;have hBxl:=bXx.lt;have cI:=hG.fix.bI.cell;have hxS:x.1∈S:=(M1.kids_mem.1 x.2).1;have hpx:Hid (M1.par S x.1=some s):=M1.kids_par hS hs x.2;clear cx0 cx1 cx2 cx3 cx4 cD cS
   gi_wp2_with fail
   refine ⟨trivial,?_⟩;refine (CallsIn.inRound l (callsIn_wide.2 (isRoot_any x.1 b m S _ hG.fix.map hm hm60))).mono ?_;rintro e Y2 ⟨rfl,hb2⟩;have hG2:=hG.below (by omega) hb2;have hz2:=hb2.size;have hKp2:KpX (kx bv W5.heap.size) Y Y2:=⟨hz2,fun k _ hk=>hb2.block k hk⟩
   have hKF2:KeepsFrom W6.heap.size Y Y2:=⟨hz2,fun k o _ hk _=>(hb2.block k (Array.getElem?_eq_some_iff.1 hk).1).trans hk⟩
   have bX2:SBox Y2 Bx x.1:=bXx.same (hb2.block _ hBxl);obtain ⟨z0,z1,z2,z3,z4⟩:=bX2.cell;have cG2:=hG2.fix.bG.cell;have cD2:=hG2.deep.cell;clear y0 y1 y2 y3 y4 cI;have hj1:(j:Int)≤1000:=by omega
   have hj0:(0:Int)≤(j:Int):=by omega
   cases hq:M1.rootB S x.1 with
   | true =>
    have HL:Hid ((pre ++ [x]).flatMap (fun k=>if M1.rootB S k.1=true then [] else M1.growF S f k.1 ((j:Int)+1))=pre.flatMap (fun k=>if M1.rootB S k.1=true then [] else M1.growF S f k.1 ((j:Int)+1))):=(by rw [List.flatMap_append];simp [hq]:_=_)
    clear hq
    gi_wp2_with fail
    exact ⟨hKF2,hKp2,by rw [HL.out];exact hG2,by simp;omega⟩
   | false =>
    have HL:Hid (O ++ (s,(j:Int)) :: (pre ++ [x]).flatMap (fun k=>if M1.rootB S k.1=true then [] else M1.growF S f k.1 ((j:Int)+1))=(O ++ (s,(j:Int)) :: pre.flatMap (fun k=>if M1.rootB S k.1=true then [] else M1.growF S f k.1 ((j:Int)+1))) ++ M1.growF S f x.1 ((j:Int)+1)):=(by rw [List.flatMap_append];simp [hq]:_=_)
    have hsubx:=sub_kid hsub hpx.out hq;have hrm:(O ++ (s,(j:Int)) :: pre.flatMap (fun k=>if M1.rootB S k.1=true then [] else M1.growF S f k.1 ((j:Int)+1))).length+f*(1+m*m)≤1000000000:=by
     have q1:=flat_len (S:=S) (s:=s) (m:=m) (fun k=>if M1.rootB S k=true then [] else M1.growF S f k ((j:Int)+1)) (fun k hk=>by
      cases hq2:M1.rootB S k with
      | true=>simp
      | false =>
       have:=growF_len hS (f:=f) (D:=(j:Int)+1) hr hroot.out (M1.kids_mem.1 hk).1 hq2 (sub_kid hsub (M1.kids_par hS hs hk) hq2);rw [hm.out] at this
       simpa using this) pre
     have q2:pre.length*m≤m*m:=Nat.mul_le_mul_right m hpl;rw [Nat.succ_mul] at hroom;rw [List.length_append,List.length_cons];omega
    obtain ⟨v2,no2,t2⟩:=hG2.no;have hcon:=ih (j+1) x.1 v2 _ Y2 (by omega) hxS hsubx hrm hG2.fix no2;have ecast:((j+1:Nat):Int)=(j:Int)+1:=by omega
    rw [ecast] at hcon;clear hq hrm
    gi_wp2_with fail
    refine ⟨trivial,?_⟩;refine (CallsIn.inRound l (callsIn_wide.2 hcon)).mono ?_;rintro e Y3 ⟨rfl,v3,no3,t3⟩;obtain ⟨hG3,hKp3,hKF3⟩:=hG2.grown hDN (by omega) (by omega) no2 t2 no3 t3
    gi_wp2_with fail
    exact ⟨hKF2.trans hKF3,kpX_t hKp2 hKp3,by rw [HL.out];exact hG3,by simp;omega⟩
  case done =>
   rintro D zs Y hD hzs ⟨hG,hpl⟩ hK;obtain ⟨v',⟨bNy,ownY⟩,ty⟩:=hG.no;have HL:Hid (O ++ (s,(j:Int)) :: zs.flatMap (fun k=>if M1.rootB S k.1=true then [] else M1.growF S f k.1 ((j:Int)+1))=O ++ M1.growF S (f+1) s j):=(by
    rw [M1.kTo_all s S m hLG.out] at hzs;have e1:zs.flatMap (fun k=>if M1.rootB S k.1=true then [] else M1.growF S f k.1 ((j:Int)+1))=(zs.map (·.1)).flatMap (fun k=>if M1.rootB S k=true then [] else M1.growF S f k ((j:Int)+1)):=by rw [List.flatMap_map]
    rw [e1,hzs];rfl:_=_)
   rw [HL.out] at ownY
   gi_wp2
   refine ⟨by simp,.inl ⟨_,_,rfl,run_takeDeferred hK,?_⟩⟩;refine ⟨_,results_none rfl _ _ _,rfl,v',⟨(World.putObj_heap_other (by omega)).trans bNy,ownsRow_putObj ownY _ hK rfl⟩,?_⟩;exact ⟨ty.env,by simp [World.putObj];exact ty.size,fun k hk hn ho=>(World.putObj_heap_other (by omega)).trans (ty.block k hk hn ho),ty.own⟩
  case stop =>
   rintro D c pre Y _ _ h _;exact h.elim
end Go.Proofs.YtgcinolbkllkkaaGreat
namespace M1
theorem sps_60 (us:List Upd)(tr:Int):(sps us tr).length≤60:=by
 by_cases h:setOk us=true
 ·exact Nat.le_trans (sps_len us tr) (setOk_len h)
 ·unfold sps
  rw [if_neg h];simp
theorem for_len {S:List Upd}(hS:S.Pairwise idlt){i:Nat}(hi:i≤S.length):(forTo S i).length≤S.length :=
 nd_len (nd_for hS i hi) fun _ hq=>for_mem hS hq
end M1
namespace Go.Proofs.YtgcinolbkllkkaaGreat
open Go.ChangeShapes Go.WideShapes Go.ChangeAt Go.RowKit Go.Shelf
attribute [local go_sem] Oper.semAt_some
theorem SpIn.same {W W':World}{av:Option Addr}{m c B:Nat}{S:List M1.Upd}(h:SpIn W av m c B S)(e:∀ k,k<B→W'.heap[k]?=W.heap[k]?):SpIn W' av m c B S:=by
 refine ⟨h.len,h.cap,h.most,?_⟩;rcases h.lies with h0 | ⟨g,e1,h2,r⟩
 ·exact Or.inl h0
 ·exact Or.inr ⟨g,e1,h2,r.blk (e g h2)⟩
theorem SpIn.same' {W W':World}{av:Option Addr}{m c B:Nat}{S:List M1.Upd}(h:SpIn W av m c B S)(e:∀ k,k<B→av=some ⟨k,0,none⟩→W'.heap[k]?=W.heap[k]?):SpIn W' av m c B S:=by
 refine ⟨h.len,h.cap,h.most,?_⟩;rcases h.lies with h0 | ⟨g,e1,h2,r⟩
 ·exact Or.inl h0
 ·exact Or.inr ⟨g,e1,h2,r.blk (e g h2 e1)⟩
set_option maxRecDepth 100000 in
set_option maxHeartbeats 32000000 in
theorem forestOf_impl (av:Option Addr)(n cn:Nat)(us:List M1.Upd)(tr:Int)(w:World)(h1:IsUpds w av n cn us) :
  Calls Tryz.prog 13 #[.slice av n cn,.int .i64 tr] w fun e w'=>NdW w w' e (M1.fors us tr)∧Below w.heap.size w w':=by
 obtain ⟨S,hSe⟩:∃ S,Hid (M1.sps us tr=S):=⟨_,rfl⟩
 obtain ⟨m,hm⟩:∃ m,Hid (S.length=m):=⟨_,rfl⟩
 have hm60:m≤60:=by have:=M1.sps_60 us tr;rw [hSe.out,hm.out] at this;exact this
 have HSO:Hid (S.Pairwise M1.idlt):=(by rw [←hSe.out];exact M1.sps_sorted us tr:S.Pairwise M1.idlt)
 have HF:Hid (M1.fors us tr=M1.forest S):=(by unfold M1.fors;rw [hSe.out]:_=_)
 have hroom:m+m*(1+m*m)≤1000000000:=by
  have q1:m*m≤60*60:=Nat.mul_le_mul hm60 hm60;have q2:m*(1+m*m)≤60*(1+60*60):=Nat.mul_le_mul hm60 (by omega);omega
 go_enter Tryz.func13,Tryz.ntmps13
 go_wp2_with fail
 have c1:=spansOf_impl _ _ _ _ tr _ h1;rw [hSe.out] at c1;refine c1.mono ?_;clear c1;rintro e w1 ⟨⟨a1,k1,rfl,mg1⟩,hb1⟩;rw [hm.out] at mg1 ⊢;have hs1:=hb1.size;have sp1:=SpIn.of_mg (B:=w1.heap.size) hm.out mg1 (Nat.le_refl _);go_wp2_with fail
 refine (spansById_any _ _ _ _ S _ sp1 (Nat.le_refl _) HSO.out (by omega)).mono ?_;rintro e w2 ⟨rfl,map2,hb2⟩;have hs2:=hb2.size;have hml:=map2.lt;have bI3:=Boxed.new w2 85 (.map (some w1.heap.size));have hb3:Below w2.heap.size w2 (w2.alloc (.cells #[.map (some w1.heap.size)] 85)):=(Below.refl _ _).alloc (Nat.le_refl _) _;have hz3:Hid ((w2.alloc (.cells #[.map (some w1.heap.size)] 85)).heap.size=w2.heap.size+1):=(by simp:_=_)
 go_upto_region 3 with fail
 obtain ⟨w3,hw3⟩:∃ w3,w2.alloc (.cells #[.map (some w1.heap.size)] 85)=w3:=⟨_,rfl⟩
 rw [hw3] at bI3 hb3 hz3 ⊢;clear hw3;have sp3:=(sp1.below hb2).below (hb3.mono hs2);go_wp2_with fail
 refine (spansByStart_any _ _ _ _ S _ sp3 HSO.out (by omega)).mono ?_;rintro e w4 ⟨⟨bv,bc,rfl,mg4⟩,hb4⟩;have hs4:=hb4.size;have hs3:=hb3.size;have hl4:Hid ((M1.bySt S).length=m):=((M1.bySt_perm S).length_eq.trans hm.out)
 have hlt4:∀ g,bv=some ⟨g,0,none⟩→g<w4.heap.size:=fun g e=>by
  rcases mg4.2.2 with ⟨_,h0⟩ | ⟨g2,e2,_,h3,_⟩
  ·rw [h0] at e;cases e
  ·rw [e2] at e;injection e with e;injection e with e _ _;omega
 have sp4:=SpIn.of_mg (B:=w4.heap.size+3) hl4.out mg4 (by omega);have spS4:=sp3.below (hb4.mono (by omega));have map4:MapS w4 w1.heap.size S:=(map2.below hb3 hml).below hb4 (by omega);have bI4:Boxed w4 w2.heap.size 85 (.map (some w1.heap.size)):=(hb4.block _ (by have:=bI3.lt;omega)).trans bI3;have hB4:Below w.heap.size w w4:=((hb1.trans (hb2.mono hs1)).trans (hb3.mono (by omega))).trans (hb4.mono (by omega));have hs3':=hz3.out;clear mg4 mg1 map2 bI3 sp1 sp3 hz3;have hA:Below w4.heap.size w4 (((w4.alloc (.cells #[.slice bv m bc] 83)).alloc (.cells #[.slice none 0 0] 40)).alloc (.cells #[.nilFunc] 88)):=(((Below.refl _ _).alloc (Nat.le_refl _) _).alloc (by simp) _).alloc (by simp;omega) _;have bS5:=((Boxed.new w4 83 (.slice bv m bc)).alloc (.cells #[.slice none 0 0] 40)).alloc (.cells #[.nilFunc] 88);have bN5:=(Boxed.new (w4.alloc (.cells #[.slice bv m bc] 83)) 40 (.slice none 0 0)).alloc (.cells #[.nilFunc] 88);have bG5:=Boxed.new ((w4.alloc (.cells #[.slice bv m bc] 83)).alloc (.cells #[.slice none 0 0] 40)) 88 .nilFunc;have hz5:Hid ((((w4.alloc (.cells #[.slice bv m bc] 83)).alloc (.cells #[.slice none 0 0] 40)).alloc (.cells #[.nilFunc] 88)).heap.size=w4.heap.size+3):=(by simp:_=_)
 simp only [World.size_alloc] at bN5 bG5;go_upto_region 6 with fail
 obtain ⟨W4,hW4⟩:∃ W,((w4.alloc (.cells #[.slice bv m bc] 83)).alloc (.cells #[.slice none 0 0] 40)).alloc (.cells #[.nilFunc] 88)=W:=⟨_,rfl⟩
 rw [hW4] at hA bS5 bN5 bG5 hz5 ⊢;clear hW4;have cG4:=bG5.cell;have fG4:=bG5.frozen;replace bS5:=bS5.other (B':=w4.heap.size+1+1) (by omega) (.func (.func 39) #[] #[.pointer (some ⟨w4.heap.size+1,0,none⟩),.pointer (some ⟨w4.heap.size,0,none⟩),.pointer (some ⟨w2.heap.size,0,none⟩),.pointer (some ⟨w4.heap.size+1+1,0,none⟩)]);replace bN5:=bN5.other (B':=w4.heap.size+1+1) (by omega) (.func (.func 39) #[] #[.pointer (some ⟨w4.heap.size+1,0,none⟩),.pointer (some ⟨w4.heap.size,0,none⟩),.pointer (some ⟨w2.heap.size,0,none⟩),.pointer (some ⟨w4.heap.size+1+1,0,none⟩)]);replace bG5:=bG5.set (.func (.func 39) #[] #[.pointer (some ⟨w4.heap.size+1,0,none⟩),.pointer (some ⟨w4.heap.size,0,none⟩),.pointer (some ⟨w2.heap.size,0,none⟩),.pointer (some ⟨w4.heap.size+1+1,0,none⟩)]);replace hA:=hA.setCell (p:=⟨w4.heap.size+1+1,0,none⟩) (by show w4.heap.size≤w4.heap.size+1+1;omega) (.func (.func 39) #[] #[.pointer (some ⟨w4.heap.size+1,0,none⟩),.pointer (some ⟨w4.heap.size,0,none⟩),.pointer (some ⟨w2.heap.size,0,none⟩),.pointer (some ⟨w4.heap.size+1+1,0,none⟩)]);replace hz5:Hid ((W4.setCell ⟨w4.heap.size+1+1,0,none⟩ (.func (.func 39) #[] #[.pointer (some ⟨w4.heap.size+1,0,none⟩),.pointer (some ⟨w4.heap.size,0,none⟩),.pointer (some ⟨w2.heap.size,0,none⟩),.pointer (some ⟨w4.heap.size+1+1,0,none⟩)])).heap.size=w4.heap.size+3):=(by simp [World.setCell];exact hz5.out:_=_)
 go_upto_region 7 with fail
 clear cG4 fG4;obtain ⟨W5,hW5⟩:∃ W,W4.setCell ⟨w4.heap.size+1+1,0,none⟩ (.func (.func 39) #[] #[.pointer (some ⟨w4.heap.size+1,0,none⟩),.pointer (some ⟨w4.heap.size,0,none⟩),.pointer (some ⟨w2.heap.size,0,none⟩),.pointer (some ⟨w4.heap.size+1+1,0,none⟩)])=W:=⟨_,rfl⟩
 rw [hW5] at hA bS5 bN5 bG5 hz5 ⊢;clear hW5;have hs5:=hz5.out;have fix5:GFix W5 (w4.heap.size+3) (w4.heap.size+1) w4.heap.size w2.heap.size (w4.heap.size+2) w1.heap.size m bv bc S:=by
  refine ⟨bS5,(hA.block _ bI4.lt).trans bI4,bG5,sp4.same' (fun k hk e=>hA.block k (hlt4 k e)),map4.below hA (by omega),?_,by omega⟩;rintro k (rfl | rfl | rfl | rfl | e)
  ·omega
  ·omega
  ·omega
  ·omega
  ·have:=hlt4 k e;omega
 have own5:W5.ownsRow (w4.heap.size+3) 82 6 (.slice none 0 0) 0 (nL []):=⟨rfl,Or.inl ⟨rfl,rfl⟩⟩
 have spS5:=spS4.below (hA.mono (show w1.heap.size≤w4.heap.size by omega));have hB5:=hB4.trans (hA.mono (by omega));clear sp4 spS4 map4 bI4 bS5 bG5 hlt4 hb1 hb2 hb3 hb4 hB4 hA hz5;go_wp2_with fail
 go_loopw [22] (fun iv wr=>∃ (i:Nat) (v:Value),i≤m∧iv=.int .i64 i∧GNo wr (w4.heap.size+3) (w4.heap.size+1) v (M1.forTo S i)∧Trn (w4.heap.size+1) (.slice none 0 0) v W5 wr) (fun iv _=>m-(intOf iv).toNat)
 case atStart=>exact ⟨0,_,Nat.zero_le _,rfl,⟨bN5,own5⟩,Trn.refl _ _ _⟩
 case round =>
  obtain ⟨i,v,hi,rfl,no,trn⟩:=hrel;have fixr:=fix5.trn trn own5;have hszr:=trn.size;have hn0:∀ k,(Value.slice none 0 0).ownBlock=some k→w4.heap.size+1≤k:=fun k e=>by simp [Value.ownBlock] at e
  have hBr:Below w4.heap.size W5 wr:=trn.to_below (by omega) (by omega) (fun k e=>by have:=hn0 k e;omega);by_cases hlt:i<m
  ·have sp:=spS5.below (hBr.mono (show w1.heap.size≤w4.heap.size by omega))
   rcases sp.lies with h0 | ⟨g,rfl,hgB,r1⟩
   ·omega
   have hgl:=r1.lt;have i0:(0:Int)≤(i:Int):=by omega
   have i1:(i:Int)<(m:Int):=by omega
   have hiS:i<S.length:=by rw [hm.out];exact hlt
   have huS:M1.up S i∈S:=M1.up_in hiS;have HST:Hid (M1.forTo S (i+1)=M1.forTo S i ++ (if M1.rootB S (M1.up S i)=true then M1.growF S m (M1.up S i) 0 else [])):=(by have:=M1.forTo_step hiS;rw [hm.out] at this;exact this:_=_)
   have hlen:(M1.forTo S i).length≤m:=by have:=M1.for_len HSO.out (i:=i) (by omega);rw [hm.out] at this;exact this
   obtain ⟨u,hu⟩:∃ u,Hid (M1.up S i=u):=⟨_,rfl⟩
   have d0:=r1.cell (o:=i*5) (by omega);have d1:=r1.cell (o:=i*5+1) (by omega);have d2:=r1.cell (o:=i*5+2) (by omega);have d3:=r1.cell (o:=i*5+3) (by omega);have d4:=r1.cell (o:=i*5+4) (by omega);rw [show scell S (i*5)=.int .i64 (M1.up S i).id from scell_at S i 0 (by omega),hu.out] at d0;rw [show scell S (i*5+1)=.int .i64 (M1.up S i).pa from scell_at S i 1 (by omega),hu.out] at d1;rw [show scell S (i*5+2)=.string (M1.up S i).s from scell_at S i 2 (by omega),hu.out] at d2;rw [show scell S (i*5+3)=.int .i64 (M1.up S i).st from scell_at S i 3 (by omega),hu.out] at d3;rw [show scell S (i*5+4)=.int .i64 (M1.up S i).en from scell_at S i 4 (by omega),hu.out] at d4;rw [hu.out] at HST huS;have hA6:Below wr.heap.size wr (wr.alloc (.cells #[.int .i64 u.id,.int .i64 u.pa,.string u.s,.int .i64 u.st,.int .i64 u.en] 70)):=(Below.refl _ _).alloc (Nat.le_refl _) _;have bX:=SBox.new wr u;go_upto_region 10 with fail
   obtain ⟨W6,hW6⟩:∃ W,wr.alloc (.cells #[.int .i64 u.id,.int .i64 u.pa,.string u.s,.int .i64 u.st,.int .i64 u.en] 70)=W:=⟨_,rfl⟩
   rw [hW6] at hA6 bX ⊢;clear hW6 d0 d1 d2 d3 d4 r1;have fix6:=fixr.same (by have:=hA6.size;omega) (fun k hk _=>hA6.block k (by omega));obtain ⟨x0,x1,x2,x3,x4⟩:=bX.cell;have hXl:=bX.lt;have cI:=fix6.bI.cell;have hIl:=fix6.bI.lt;have trn6:=trn.trans (Trn.below (N:=w4.heap.size+1) (v:=v) hA6);have no6:GNo W6 (w4.heap.size+3) (w4.heap.size+1) v (M1.forTo S i):=⟨(hA6.block _ no.1.lt).trans no.1,owns_below no.2 hA6⟩
   clear sp no trn fixr;go_wp2_with fail
   refine (isRoot_any u w1.heap.size m S _ fix6.map hm (by omega)).mono ?_;rintro e W7 ⟨rfl,hb7⟩;have hz7:=hb7.size;have hs6:=hA6.size;have fix7:=fix6.same (by omega) (fun k hk _=>hb7.block k (by omega));have trn7:=trn6.trans (Trn.below (N:=w4.heap.size+1) (v:=v) hb7);have no7:GNo W7 (w4.heap.size+3) (w4.heap.size+1) v (M1.forTo S i):=⟨(hb7.block _ no6.1.lt).trans no6.1,owns_below no6.2 hb7⟩
   have bX7:SBox W7 wr.heap.size u:=bX.same (hb7.block _ hXl);clear x0 x1 x2 x3 x4 cI;obtain ⟨x0,x1,x2,x3,x4⟩:=bX7.cell;have hX7:=bX7.lt;have cG:=fix7.bG.cell;have hGl:=fix7.bG.lt;clear no6 trn6 fix6 bX hA6 hb7
   cases hq:M1.rootB S u with
   | false =>
    have HE:Hid (M1.forTo S (i+1)=M1.forTo S i):=(by rw [HST.out,hq];simp:_=_)
    clear hq;go_wp2_with fail
    exact ⟨⟨i+1,v,by omega,by go_num,by rw [HE.out];exact no7,trn7⟩,by simp [intOf];omega⟩
   | true =>
    have HE:Hid (M1.forTo S (i+1)=M1.forTo S i ++ M1.growF S m u ((0:Nat):Int)):=(by rw [HST.out,hq];simp:_=_)
    have HR:Hid (M1.rootB S u=true):=hq;clear hq;go_wp2_with fail
    refine (grow_any HSO.out hm (by omega) huS HR m 0 u v (M1.forTo S i) W7 (by omega) huS (M1.sub_refl S u) (by omega) fix7 no7).mono ?_;rintro e W8 ⟨rfl,v',no8,trn8⟩;have trn9:=trn7.trans trn8;clear no7 trn7 trn8;go_wp2_with fail
    exact ⟨⟨i+1,v',by omega,by go_num,by rw [HE.out];exact no8,trn9⟩,by simp [intOf];omega⟩
  ·have him:i=m:=by omega
   have HE:Hid (M1.fors us tr=M1.forTo S i):=(by rw [HF.out];unfold M1.forest;rw [hm.out,him]:_=_)
   have hBf:=hB5.trans (hBr.mono (by omega));obtain ⟨z,hz⟩:∃ z,Hid ((M1.forTo S i).length=z):=⟨_,rfl⟩
   obtain ⟨bN,ow⟩:=no;rw [hz.out] at ow;obtain ⟨va,vc,hve⟩:∃ va vc,v=.slice va z vc:=by
    rcases ow.2 with ⟨hv0,hn0⟩ | ⟨g,cap,cur,hv,_⟩
    ·exact ⟨none,0,by rw [hv0,hn0]⟩
    ·exact ⟨_,_,hv⟩
   subst hve;have mn:=MN.of_owns hz.out ow;have cN:=bN.cell;have hNl:=bN.lt;clear him;go_wp2_with fail
   go_ret
   refine ⟨⟨va,vc,?_,?_⟩,hBf⟩
   ·rw [HE.out,hz.out];rfl
   ·rw [HE.out,hz.out];exact mn.wide (by omega) (Nat.le_refl _)
end Go.Proofs.YtgcinolbkllkkaaGreat
