/-
  Texts of one proof, joined: Cv4, Cv4k0.
-/
import Derived.Test.YtgcinolbkllkkaaGreatZFConverged24
import Derived.Test.YtgcinolbkllkkaaGreatZFConverged26
set_option linter.unusedSimpArgs false
set_option linter.unusedVariables false
namespace M1
theorem vec_rise {l:List (Int × Int)}(h:vecOk l=true):∀ j,j<l.length→(j:Int)+1≤rg l j∧rg l j≤5
 | 0,hj=>by
  have:=vecOk_all h 0 hj;unfold vokAt at this;rw [Bool.and_eq_true] at this;have:=dotOk_true this.1;constructor <;> omega
 | j+1,hj=>by
  have h1:=vec_rise h j (by omega);have:=vecOk_all h (j+1) hj;unfold vokAt at this;rw [Bool.and_eq_true] at this;have h2:=dotOk_true this.1;have h3:=this.2;simp at h3
  constructor <;> omega
theorem vec_len {l:List (Int × Int)}(h:vecOk l=true):l.length≤5:=by
 by_cases e:l.length=0
 ·omega
 ·have:=vec_rise h (l.length-1) (by omega)
  omega
theorem is_setA (r:Rg)(x:OpV)(now:Int):setOk (isR r x now).us=true:=by
 rcases is_cases r x now with ⟨_,_,q,_⟩ | ⟨q,_,q2,_⟩ | ⟨q0,_,q,_,q2⟩
 ·rw [q];rfl
 ·rw [q2];exact rOk_set q
 ·rw [q];show setOk (insD r.us (nuU r x now))=true;rw [←(nu_set q0).1];exact q2
theorem wOk_has {now:Int}{rs:List Rg}{ms:List Ml}(h:wOk now rs ms=true):inB now 0 1000000000=true∧2≤rs.length∧rs.length≤5∧ms.length≤40∧(∀ i,i<rs.length→rOk (rgA rs i)=true)∧(∀ i,i<ms.length→1≤(mlA ms i).tt∧(mlA ms i).tt≤(rs.length:Int)∧vecOk (mlA ms i).vec=true∧(mlA ms i).del.length≤3)∧(∃ l,uni rs rs.length=some l)∧Bd rs ms:=by
 cases hh:wHead now rs.length ms.length with
 | false=>rw [wOk_1 hh] at h;cases h
 | true =>
  have hd:=hh;unfold wHead at hd;rw [Bool.and_eq_true,Bool.and_eq_true] at hd;have h2:=inB_true hd.2.1;have h40:ms.length≤40:=by simpa using hd.2.2
  cases ha:wAll rs rs.length with
  | none=>rw [wOk_2 hh ha] at h;cases h
  | some l =>
   rw [wOk_3 hh ha] at h;have hu:uni rs rs.length=some l:=by
    cases q:uni rs rs.length with
    | none=>rw [wAll_2 q] at ha;cases ha
    | some m =>
     cases z:ownsB rs rs.length m with
     | false=>rw [wAll_3 q z] at ha;cases ha
     | true =>
      cases t:regsB rs rs.length with
      | false=>rw [wAll_1 t] at ha;cases ha
      | true=>rw [wAll_0 t q z] at ha;exact ha
   have hr:∀ i,i<rs.length→rOk (rgA rs i)=true:=fun i hi=>by
    cases t:regsB rs rs.length with
    | false=>rw [wAll_1 t] at ha;cases ha
    | true=>exact (regsB_at t i hi).2
   have hm:∀ i,i<ms.length→mailB rs.length l (mlA ms i)=true:=by
    have h':=h;unfold mailsB at h'
    simpa using h'
   have hm':∀ i,i<ms.length→1≤(mlA ms i).tt∧(mlA ms i).tt≤(rs.length:Int)∧vecOk (mlA ms i).vec=true∧(mlA ms i).del.length≤3:=fun i hi=>by
    have q:=hm i hi;unfold mailB at q;rw [Bool.and_eq_true,Bool.and_eq_true,Bool.and_eq_true] at q;obtain ⟨_,q2,_,q4⟩:=q;have q2:=inB_true q2;by_cases e:(mlA ms i).ask=true
    ·rw [if_pos e,Bool.and_eq_true] at q4
     exact ⟨q2.1,q2.2,q4.1,by have:=q4.2;simp at this;rw [this];exact Nat.zero_le _⟩
    ·rw [if_neg e,Bool.and_eq_true,Bool.and_eq_true] at q4
     have e1:(mlA ms i).vec=[]:=by have:=q4.1;simpa using this
     have e2:=q4.2.1;simp at e2
     exact ⟨q2.1,q2.2,by rw [e1];rfl,e2.2⟩
   refine ⟨hd.1,by omega,by omega,h40,hr,hm',⟨l,hu⟩,by omega,by omega,fun i hi=>?_,fun i hi=>?_⟩
   ·have:=setOk_len (rOk_set (hr i hi));omega
   ·have:=hm' i hi
    have:=vec_len this.2.2.1;omega
end M1
namespace Go.Proofs.YtgcinolbkllkkaaGreat
open Go.ChangeShapes Go.WideShapes Go.ChangeAt Go.RowKit
abbrev R11 (w:World)(p:Nat)(kd wh tt ta:Int)(x:M1.OpV):Prop:=RowAt w p 11 (fun o=>[.int .i64 kd,.int .i64 wh,.int .i64 tt,.int .i64 ta,.int .i64 x.k,.int .i64 x.t,.int .i64 x.id,.int .i64 x.pa,.string x.s,.int .i64 x.st,.int .i64 x.en].getD o undef)
theorem r11_new (w:World)(kd wh tt ta:Int)(x:M1.OpV)(t:TypeId):R11 (w.alloc (.cells #[.int .i64 kd,.int .i64 wh,.int .i64 tt,.int .i64 ta,.int .i64 x.k,.int .i64 x.t,.int .i64 x.id,.int .i64 x.pa,.string x.s,.int .i64 x.st,.int .i64 x.en] t)) w.heap.size kd wh tt ta x :=
 (RowAt.new w #[.int .i64 kd,.int .i64 wh,.int .i64 tt,.int .i64 ta,.int .i64 x.k,.int .i64 x.t,.int .i64 x.id,.int .i64 x.pa,.string x.s,.int .i64 x.st,.int .i64 x.en] t).same fun o ho=>by
  match o,ho with
  | 0,_=>rfl
  | 1,_=>rfl
  | 2,_=>rfl
  | 3,_=>rfl
  | 4,_=>rfl
  | 5,_=>rfl
  | 6,_=>rfl
  | 7,_=>rfl
  | 8,_=>rfl
  | 9,_=>rfl
  | 10,_=>rfl
theorem r11_cells {w:World}{p:Nat}{kd wh tt ta:Int}{x:M1.OpV}(h:R11 w p kd wh tt ta x):w.cell? ⟨p,0,none⟩=some (.int .i64 kd)∧w.cell? ⟨p,1,none⟩=some (.int .i64 wh)∧w.cell? ⟨p,2,none⟩=some (.int .i64 tt)∧w.cell? ⟨p,3,none⟩=some (.int .i64 ta)∧w.cell? ⟨p,4,none⟩=some (.int .i64 x.k)∧w.cell? ⟨p,5,none⟩=some (.int .i64 x.t)∧w.cell? ⟨p,6,none⟩=some (.int .i64 x.id)∧w.cell? ⟨p,7,none⟩=some (.int .i64 x.pa)∧w.cell? ⟨p,8,none⟩=some (.string x.s)∧w.cell? ⟨p,9,none⟩=some (.int .i64 x.st)∧w.cell? ⟨p,10,none⟩=some (.int .i64 x.en) :=
 ⟨h.cell (o:=0) (by omega),h.cell (o:=1) (by omega),h.cell (o:=2) (by omega),h.cell (o:=3) (by omega),h.cell (o:=4) (by omega),h.cell (o:=5) (by omega),h.cell (o:=6) (by omega),h.cell (o:=7) (by omega),h.cell (o:=8) (by omega),h.cell (o:=9) (by omega),h.cell (o:=10) (by omega)⟩
def opq (a b:M1.OpV):Bool:=decide (a.k=b.k∧a.t=b.t∧a.id=b.id∧a.pa=b.pa∧a.s.toList=b.s.toList∧a.st=b.st∧a.en=b.en)
set_option maxHeartbeats 8000000 in
set_option maxRecDepth 100000 in
theorem eqOp (a b:M1.OpV)(w:World):(Op.equalIn 10000 110 (.agg #[.int .i64 a.k,.int .i64 a.t,.int .i64 a.id,.int .i64 a.pa,.string a.s,.int .i64 a.st,.int .i64 a.en]) (.agg #[.int .i64 b.k,.int .i64 b.t,.int .i64 b.id,.int .i64 b.pa,.string b.s,.int .i64 b.st,.int .i64 b.en])).run Tryz.prog w=.ok (opq a b) w:=by
 have h:=run_equalIn_agg (P:=Tryz.prog) w 9999 110 #[.int .i64 a.k,.int .i64 a.t,.int .i64 a.id,.int .i64 a.pa,.string a.s,.int .i64 a.st,.int .i64 a.en] #[.int .i64 b.k,.int .i64 b.t,.int .i64 b.id,.int .i64 b.pa,.string b.s,.int .i64 b.st,.int .i64 b.en] (by kernel_rfl) (by kernel_rfl);rw [h];simp [go_sem]
 simp only [ite_chain];unfold opq
 congr 1
 simp
theorem eqOp0 (a:M1.OpV)(w:World):(Op.equalIn 10000 110 (.agg #[.int .i64 a.k,.int .i64 a.t,.int .i64 a.id,.int .i64 a.pa,.string a.s,.int .i64 a.st,.int .i64 a.en]) (.agg #[.int .i64 0,.int .i64 0,.int .i64 0,.int .i64 0,.string ⟨#[]⟩,.int .i64 0,.int .i64 0])).run Tryz.prog w=.ok (opq a ⟨0,0,0,0,⟨#[]⟩,0,0⟩) w:=eqOp a ⟨0,0,0,0,⟨#[]⟩,0,0⟩ w
attribute [local go_sem high] eqOp0
theorem noUpds0 (w:World):IsUpds w none 0 0 []:=⟨rfl,Nat.le_refl _,Nat.zero_le _,fun _ hi=>absurd hi (Nat.not_lt_zero _),Or.inl rfl⟩
theorem ask_step {w1 v0 w4:World}{pa pw gR:Nat}{X:Value}(h:(∀ o,v0.cell? ⟨pa,o,none⟩=w1.cell? ⟨pa,o,none⟩)∧v0.cell? ⟨pw,1,none⟩=some X∧(∀ o,v0.cell? ⟨gR,o,none⟩=w1.cell? ⟨gR,o,none⟩))(hb:Below v0.heap.size v0 w4)(h1:pa<v0.heap.size)(h2:pw<v0.heap.size)(h3:gR<v0.heap.size):(∀ o,w4.cell? ⟨pa,o,none⟩=w1.cell? ⟨pa,o,none⟩)∧w4.cell? ⟨pw,1,none⟩=some X∧(∀ o,w4.cell? ⟨gR,o,none⟩=w1.cell? ⟨gR,o,none⟩) :=
 ⟨fun o=>(hb.cell (p:=⟨pa,o,none⟩) h1).trans (h.1 o),(hb.cell (p:=⟨pw,1,none⟩) h2).trans h.2.1,fun o=>(hb.cell (p:=⟨gR,o,none⟩) h3).trans (h.2.2 o)⟩
theorem step_appMs {ops:Array Oper}{o:Oper}{a:Act}{w:World}{K:Act→World→Prop}{Q:Exit→Act→World→Prop}{E:Prop}(hg:o.guard=none)(s x:Operand)
  (ho:o.op=.call { callee:=.builtin .append,args:=#[s,x],argTypes:=#[25,25] })
  (base:Nat) (xv:Option Addr) (xc n:Nat) (xs:List Value) (hs:a.eval s=.slice xv n xc) (hown:w.ownsRow base 62 5 (.slice xv n xc) n xs)
  (yv:Option Addr) (m yc:Nat) (zs:List Value) (hx:a.eval x=.slice yv m yc) (hz:zs.length=m*5) (h1:∀ u∈zs,u.oneCell'=true) (hnews:m=0∨∃ ad,yv=some ad∧∀ j u,zs[j]?=some u→w.cell? (ad.add j)=some u) (hlen:n+m≤1000000) (hbase:base≤w.heap.size)
  (h:∀ av cap w',w'.ownsRow base 62 5 (.slice av (n+m) cap) (n+m) (xs ++ zs)→Below base w w'→K (a.put o.dst (.slice av (n+m) cap)) w') :
  if Region.wanted o (yielded ops a.tmps)=true then Oper.wp Tryz.prog o a w K Q else E:=by
 have hw:Region.wanted o (yielded ops a.tmps)=true:=by simp [Region.wanted,hg]
 rw [if_pos hw];obtain ⟨ti,hi1,hi2,hi3,hi4⟩:=infoMail;by_cases hm0:m=0
 ·subst hm0
  have hzs:zs=[]:=List.eq_nil_of_length_eq_zero (by simpa using hz);subst hzs;have hrun:=run_append_zero (P:=Tryz.prog) (w:=w) base 25 o.type 62 ti 5 Tryz.underlying25 hi1 (.slice xv n xc) n xs hown yv yc;unfold Oper.wp;simp [execOp,ho,resolve,invoke,builtin,hs,hx,hrun,Result.andThen]
  exact h xv xc w (by simpa using hown) (Below.refl _ _)
 ·rcases hnews with h0 | ⟨ad,rfl,hn⟩
  ·exact absurd h0 hm0
  refine wp_append_lies w s x 25 ho base 62 ti _ 5 72 Tryz.underlying25 hi1 hi2 hi3 hi4 rfl (by omega) (.slice xv n xc) n xs hs hown ad m yc zs hx hz hn h1 (by omega) (by unfold maxLen;omega) (by omega) hbase _ rfl ?_;intro g cap w' hown' hgrow hat hlt;exact h _ cap w' hown' ((Below.refl base w).grown hgrow hbase (owns_base hown))
theorem ownsM0 (w:World)(e:TypeId){H:Nat}(hH:H≤w.heap.size):(w.alloc (.cells #[] e)).ownsRow H e 5 (.slice (some ⟨w.heap.size,0,none⟩) 0 0) 0 []:=by
 refine ⟨rfl,Or.inr ⟨w.heap.size,0,#[],rfl,hH,?_,Nat.le_refl _,by unfold maxLen;omega,rfl,rfl⟩⟩;show (w.heap.push (.cells #[] e))[w.heap.size]?=_
 simp
theorem mlx_one {w:World}{S D:Nat→Prop}{ys:List Value}{ms:List M1.Ml}(h:MlX w S D (fx ys) ms)(hl:ys.length=ms.length*5):∀ u∈ys,u.oneCell'=true:=by
 intro u hu;obtain ⟨j,hj,e⟩:=List.getElem_of_mem hu;obtain ⟨v,n,c,v2,n2,c2,h0,h1,h2,h3,h4,_⟩:=h (j / 5) (by omega);have hf:fx ys j=u:=by unfold fx;rw [←e];simp [List.getD,hj]
 have hr:j=j / 5*5+j % 5:=by omega
 have h5:j % 5<5:=by omega
 rw [hr] at hf;generalize j % 5=q at hf h5
 match q,h5 with
 | 0,_=>rw [←hf];show (fx ys (j / 5*5)).oneCell'=true;rw [h0];rfl
 | 1,_=>rw [←hf,h1];rfl
 | 2,_=>rw [←hf,h2];rfl
 | 3,_=>rw [←hf,h3];rfl
 | 4,_=>rw [←hf,h4];rfl
theorem fx_take {ys:List Value}{k o:Nat}(h:o<k):fx (ys.take k) o=fx ys o:=by
 unfold fx;simp [List.getD,h]
theorem fx_drop {ys:List Value}{k o:Nat}:fx (ys.drop k) o=fx ys (k+o):=by
 unfold fx;simp [List.getD]
theorem MlX.erase {w:World}{S D:Nat→Prop}{ys:List Value}{ms:List M1.Ml}(h:MlX w S D (fx ys) ms)(hl:ys.length=ms.length*5){i:Nat}(hi:i<ms.length):MlX w S D (fx (ys.take (i*5) ++ ys.drop ((i+1)*5))) (ms.eraseIdx i):=fun j hj=>by
 have hle:(ms.eraseIdx i).length=ms.length-1:=List.length_eraseIdx_of_lt hi;have htl:(ys.take (i*5)).length=i*5:=by rw [List.length_take];omega
 by_cases e:j<i
 ·have em:M1.mlA (ms.eraseIdx i) j=M1.mlA ms j:=by unfold M1.mlA;simp [List.getD,List.getElem?_eraseIdx,e]
  have ef:∀ t,t<5→fx (ys.take (i*5) ++ ys.drop ((i+1)*5)) (j*5+t)=fx ys (j*5+t):=fun t ht=>by rw [fx_app (by omega),fx_take (by omega)]
  obtain ⟨v,n,c,v2,n2,c2,h0,h1,h2,h3,h4,r⟩:=h j (by omega);rw [em];exact ⟨v,n,c,v2,n2,c2,(ef 0 (by omega)).trans h0,(ef 1 (by omega)).trans h1,(ef 2 (by omega)).trans h2,(ef 3 (by omega)).trans h3,(ef 4 (by omega)).trans h4,r⟩
 ·have em:M1.mlA (ms.eraseIdx i) j=M1.mlA ms (j+1):=by unfold M1.mlA;simp [List.getD,List.getElem?_eraseIdx,e]
  have ef:∀ t,t<5→fx (ys.take (i*5) ++ ys.drop ((i+1)*5)) (j*5+t)=fx ys ((j+1)*5+t):=fun t ht=>by
   rw [show j*5+t=i*5+((j-i)*5+t) by omega,fx_new htl,fx_drop]
   congr 1;omega
  obtain ⟨v,n,c,v2,n2,c2,h0,h1,h2,h3,h4,r⟩:=h (j+1) (by omega);rw [em];exact ⟨v,n,c,v2,n2,c2,(ef 0 (by omega)).trans h0,(ef 1 (by omega)).trans h1,(ef 2 (by omega)).trans h2,(ef 3 (by omega)).trans h3,(ef 4 (by omega)).trans h4,r⟩
theorem bd_erase {rs:List M1.Rg}{ms:List M1.Ml}(h:M1.Bd rs ms){i:Nat}(hi:i<ms.length):M1.Bd rs (ms.eraseIdx i):=by
 have hle:(ms.eraseIdx i).length=ms.length-1:=List.length_eraseIdx_of_lt hi;refine ⟨h.1,by have:=h.2.1;omega,h.2.2.1,fun j hj=>?_⟩;by_cases e:j<i
 ·have em:M1.mlA (ms.eraseIdx i) j=M1.mlA ms j:=by unfold M1.mlA;simp [List.getD,List.getElem?_eraseIdx,e]
  rw [em];exact h.2.2.2 j (by omega)
 ·have em:M1.mlA (ms.eraseIdx i) j=M1.mlA ms (j+1):=by unfold M1.mlA;simp [List.getD,List.getElem?_eraseIdx,e]
  rw [em];exact h.2.2.2 (j+1) (by omega)
theorem WT.erase {w w9:World}{lo:Nat}{rv:Value}{mv mv':Value}{xs ys:List Value}{rs:List M1.Rg}{ms:List M1.Ml}{T T':Nat→Prop}(h:WT w lo rv mv xs ys rs ms T)(hTl:∀ k,T k→k<w.heap.size)(hlo:lo≤w.heap.size)(hb:Below w.heap.size w w9){i:Nat}(hi:i<ms.length)(own:w9.ownsRow w.heap.size 62 5 mv' (ms.length-1) (ys.take (i*5) ++ ys.drop ((i+1)*5)))(hT:∀ k,T' k→(T k∨w.heap.size≤k∧¬mv'.ownBlock=some k)):WT w9 lo rv mv' xs (ys.take (i*5) ++ ys.drop ((i+1)*5)) rs (ms.eraseIdx i) T':=by
 have hle:(ms.eraseIdx i).length=ms.length-1:=List.length_eraseIdx_of_lt hi;have hS:∀ k,k<w.heap.size→SB lo rv mv' k→SB lo rv mv k:=fun k hk q=>by
  rcases q with q | q | q
  ·exact Or.inl q
  ·exact Or.inr (Or.inl q)
  ·have:=(own.lt k q).1;omega
 have hST:∀ k,k<w.heap.size→(SB lo rv mv' k∨T' k)→(SB lo rv mv k∨T k):=fun k hk q=>by
  rcases q with q | q
  ·exact Or.inl (hS k hk q)
  ·rcases hT k q with z | z
   ·exact Or.inr z
   ·omega
 refine ⟨⟨⟨(h.c.below hb).r.own,(h.c.r.x.move hS (fun _ _ q=>q)).below hb,fun h0=>?_⟩,?_,((h.c.x.erase h.c.own.1 hi).move hS (fun _ _ q=>q)).below hb,fun k e q=>?_⟩,(h.x.move hST (fun _ _ q=>q)).below hb,((h.m.erase h.c.own.1 hi).move hST (fun _ _ q=>q)).below hb,fun k q z=>?_⟩
 ·have:=(h.c.r.f.move hS).gs (gs_below hb)
  exact this h0
 ·rw [hle]
  exact ⟨own.1,own.2.imp id fun ⟨g,cap,cur,hv,hg,r⟩=>⟨g,cap,cur,hv,by omega,r⟩⟩
 ·have:=(h.c.r.own.lt k e).2;have:=(own.lt k q).1;omega
 ·rcases hT k q with y | y
  ·rcases z with z | z
   ·exact h.t k y (Or.inl z)
   ·have:=(own.lt k z).1;have:=hTl k y;omega
  ·rcases z with z | z
   ·have:=(h.c.r.own.lt k z).2;omega
   ·exact y.2 z
theorem gs_more {S:Nat→Prop}{w w9 wz:World}{pz:Nat}(h:Gs S w w9)(hz:Gs (fun k=>k=pz) w9 wz)(hp:w.heap.size≤pz):Gs S w wz :=
 ⟨hz.os.trans h.os,hz.tape.trans h.tape,hz.output.trans h.output,Nat.le_trans h.size hz.size,fun k hk hn=>(hz.block k (Nat.lt_of_lt_of_le hk h.size) (fun e=>by omega)).trans (h.block k hk hn)⟩
end Go.Proofs.YtgcinolbkllkkaaGreat
namespace Go.Proofs.YtgcinolbkllkkaaGreat
open Go.ChangeShapes Go.WideShapes Go.ChangeAt Go.RowKit
attribute [local go_sem high] eqOp0
set_option maxHeartbeats 64000000 in
set_option maxRecDepth 100000 in
theorem l6Act_0 (now:Int)(a:Option Addr)(n c3:Nat)(a2:Option Addr)(n2 c4:Nat)(xs ys:List Value)(rs:List M1.Rg)(ms:List M1.Ml)(lo:Nat)(kd wh tt ta:Int)(x:M1.OpV)(w:World){T:Nat→Prop}(HT:WT w lo (.slice a n c3) (.slice a2 n2 c4) xs ys rs ms T)(hTl:∀ k,T k→k<w.heap.size)(hlo:lo≤w.heap.size)(hxs:x.s.size≤maxLen)(hwk:Hid (M1.wOk now rs ms=true))(hk:Hid (¬kd=1∧¬kd=2∧¬kd=3∧¬kd=4∧¬kd=5)) :
  Calls Tryz.prog 111 #[.agg #[.int .i64 now,.slice a n c3,.slice a2 n2 c4],.agg #[.int .i64 kd,.int .i64 wh,.int .i64 tt,.int .i64 ta,.int .i64 x.k,.int .i64 x.t,.int .i64 x.id,.int .i64 x.pa,.string x.s,.int .i64 x.st,.int .i64 x.en]] w fun e w'=>WA w w' (OB (.slice a n c3) (.slice a2 n2 c4)) T e now:=by
 have HW:=HT.c;have hrg:=HW.rgs;have hmg:=HW.mls;have hm1:=hrg.hcap;have hm2:=hrg.hmost;have hm3:=hmg.hcap;have hm4:=hmg.hmost;unfold maxLen at hm2 hm4;have hl1:Hid (rs.length=n):=hrg.hlen;have hl2:Hid (ms.length=n2):=hmg.hlen;obtain ⟨_,hn2',hn5',hn40',hok0,hml0,_,hbd0⟩:=M1.wOk_has hwk.out;have hok:Hid (∀ i,i<n→M1.rOk (M1.rgA rs i)=true):=fun i hi=>hok0 i (by rw [hl1.out];exact hi);have hml:Hid (∀ i,i<n2→1≤(M1.mlA ms i).tt∧(M1.mlA ms i).tt≤(n:Int)∧M1.vecOk (M1.mlA ms i).vec=true∧(M1.mlA ms i).del.length≤3):=fun i hi=>by
  have:=hml0 i (by rw [hl2.out];exact hi);rw [hl1.out] at this;exact this
 have hbd:Hid (M1.Bd rs ms):=hbd0;have hn2:2≤n:=by have:=hl1.out;omega
 have hn5:n≤5:=by have:=hl1.out;omega
 have hn40:n2≤40:=by have:=hl2.out;omega
 clear hn2' hn5' hn40' hok0 hml0 hbd0;have hA:Below w.heap.size w (((w.alloc (.cells #[.int .i64 now,.slice a n c3,.slice a2 n2 c4] 27)).alloc (.cells #[.int .i64 kd,.int .i64 wh,.int .i64 tt,.int .i64 ta,.int .i64 x.k,.int .i64 x.t,.int .i64 x.id,.int .i64 x.pa,.string x.s,.int .i64 x.st,.int .i64 x.en] 112)).alloc (.cells #[.int .i64 0,.slice none 0 0,.slice none 0 0] 27)):=(((Below.refl _ _).alloc (Nat.le_refl _) _).alloc (by simp) _).alloc (by simp <;> omega) _;have A0:R3 (((w.alloc (.cells #[.int .i64 now,.slice a n c3,.slice a2 n2 c4] 27)).alloc (.cells #[.int .i64 kd,.int .i64 wh,.int .i64 tt,.int .i64 ta,.int .i64 x.k,.int .i64 x.t,.int .i64 x.id,.int .i64 x.pa,.string x.s,.int .i64 x.st,.int .i64 x.en] 112)).alloc (.cells #[.int .i64 0,.slice none 0 0,.slice none 0 0] 27)) w.heap.size (.int .i64 now) (.slice a n c3) (.slice a2 n2 c4):=((r3_new w (.int .i64 now) (.slice a n c3) (.slice a2 n2 c4) 27).alloc _).alloc _;have C0:R11 (((w.alloc (.cells #[.int .i64 now,.slice a n c3,.slice a2 n2 c4] 27)).alloc (.cells #[.int .i64 kd,.int .i64 wh,.int .i64 tt,.int .i64 ta,.int .i64 x.k,.int .i64 x.t,.int .i64 x.id,.int .i64 x.pa,.string x.s,.int .i64 x.st,.int .i64 x.en] 112)).alloc (.cells #[.int .i64 0,.slice none 0 0,.slice none 0 0] 27)) (w.alloc (.cells #[.int .i64 now,.slice a n c3,.slice a2 n2 c4] 27)).heap.size kd wh tt ta x:=(r11_new (w.alloc (.cells #[.int .i64 now,.slice a n c3,.slice a2 n2 c4] 27)) kd wh tt ta x 112).alloc _;have Z0:R3 (((w.alloc (.cells #[.int .i64 now,.slice a n c3,.slice a2 n2 c4] 27)).alloc (.cells #[.int .i64 kd,.int .i64 wh,.int .i64 tt,.int .i64 ta,.int .i64 x.k,.int .i64 x.t,.int .i64 x.id,.int .i64 x.pa,.string x.s,.int .i64 x.st,.int .i64 x.en] 112)).alloc (.cells #[.int .i64 0,.slice none 0 0,.slice none 0 0] 27)) ((w.alloc (.cells #[.int .i64 now,.slice a n c3,.slice a2 n2 c4] 27)).alloc (.cells #[.int .i64 kd,.int .i64 wh,.int .i64 tt,.int .i64 ta,.int .i64 x.k,.int .i64 x.t,.int .i64 x.id,.int .i64 x.pa,.string x.s,.int .i64 x.st,.int .i64 x.en] 112)).heap.size (.int .i64 0) (.slice none 0 0) (.slice none 0 0):=r3_new ((w.alloc (.cells #[.int .i64 now,.slice a n c3,.slice a2 n2 c4] 27)).alloc (.cells #[.int .i64 kd,.int .i64 wh,.int .i64 tt,.int .i64 ta,.int .i64 x.k,.int .i64 x.t,.int .i64 x.id,.int .i64 x.pa,.string x.s,.int .i64 x.st,.int .i64 x.en] 112)) (.int .i64 0) (.slice none 0 0) (.slice none 0 0) 27;rw [show (w.alloc (.cells #[.int .i64 now,.slice a n c3,.slice a2 n2 c4] 27)).heap.size=w.heap.size+1 by simp] at C0;rw [show ((w.alloc (.cells #[.int .i64 now,.slice a n c3,.slice a2 n2 c4] 27)).alloc (.cells #[.int .i64 kd,.int .i64 wh,.int .i64 tt,.int .i64 ta,.int .i64 x.k,.int .i64 x.t,.int .i64 x.id,.int .i64 x.pa,.string x.s,.int .i64 x.st,.int .i64 x.en] 112)).heap.size=w.heap.size+1+1 by simp] at Z0;go_enter Tryz.func111,Tryz.ntmps111
 go_upto_region 1 with fail
 obtain ⟨w1,hw1⟩:∃ W,(((w.alloc (.cells #[.int .i64 now,.slice a n c3,.slice a2 n2 c4] 27)).alloc (.cells #[.int .i64 kd,.int .i64 wh,.int .i64 tt,.int .i64 ta,.int .i64 x.k,.int .i64 x.t,.int .i64 x.id,.int .i64 x.pa,.string x.s,.int .i64 x.st,.int .i64 x.en] 112)).alloc (.cells #[.int .i64 0,.slice none 0 0,.slice none 0 0] 27))=W:=⟨_,rfl⟩
 rw [hw1] at hA A0 C0 Z0 ⊢;clear hw1;obtain ⟨pz,hpz⟩:∃ z,Hid (w.heap.size+1+1=z):=⟨_,rfl⟩
 obtain ⟨pa,hpa⟩:∃ z,Hid (w.heap.size+1=z):=⟨_,rfl⟩
 obtain ⟨pw,hpw⟩:∃ z,Hid (w.heap.size=z):=⟨_,rfl⟩
 rw [hpz.out] at Z0 ⊢;rw [hpa.out] at C0 ⊢;rw [hpw.out] at A0 ⊢;have k1:w.heap.size≤pw:=by have:=hpw.out;omega
 have k2:w.heap.size≤pa:=by have:=hpa.out;omega
 have k3:w.heap.size≤pz:=by have:=hpz.out;omega
 have k4:¬pw=pz:=by have:=hpw.out;have:=hpz.out;omega
 have k5:¬pa=pz:=by have:=hpa.out;have:=hpz.out;omega
 have k6:¬pw=pa:=by have:=hpw.out;have:=hpa.out;omega
 have HW1:=HW.below hA;have hs1:=hA.size;have kz:pz<w1.heap.size:=Z0.lt;have kpw:pw<w1.heap.size:=A0.lt;have kpa:pa<w1.heap.size:=C0.lt;obtain ⟨d0,d1,d2⟩:=r3_cells A0;obtain ⟨e0,e1,e2,e3,e4,e5,e6,e7,e8,e9,e10⟩:=r11_cells C0;obtain ⟨z0,z1,z2⟩:=r3_cells Z0;obtain ⟨f0,f1,f2⟩:=r3_free Z0;have dl:=A0.lt;have el:=C0.lt;have zl:=Z0.lt;obtain ⟨qo,hqo⟩:∃ q,Hid (opq x ⟨0,0,0,0,⟨#[]⟩,0,0⟩=q):=⟨_,rfl⟩
 go_upto_region 3 with fail
 rw [hqo.out];obtain ⟨y1,y2,y3,y4,y5⟩:=hk.out;have n1':(kd==1)=false:=by simp [y1]
 have n2':(kd==2)=false:=by simp [y2]
 have n3':(kd==3)=false:=by simp [y3]
 have n4':(kd==4)=false:=by simp [y4]
 have n5':(kd==5)=false:=by simp [y5]
 clear y1 y2 y3 y4 y5;have Z9:=r3_set2 (r3_set1 (r3_set0 Z0 (.int .i64 now)) (.slice a n c3)) (.slice a2 n2 c4);have B9:=((hA.setCell (p:=⟨pz,0,none⟩) k3 (.int .i64 now)).setCell (p:=⟨pz,1,none⟩) k3 (.slice a n c3)).setCell (p:=⟨pz,2,none⟩) k3 (.slice a2 n2 c4);have HW9:=HW.below B9;go_wp2_with fail
 obtain ⟨Wz,hWz⟩:∃ W,((w1.setCell ⟨pz,0,none⟩ (.int .i64 now)).setCell ⟨pz,1,none⟩ (.slice a n c3)).setCell ⟨pz,2,none⟩ (.slice a2 n2 c4)=W:=⟨_,rfl⟩
 rw [hWz] at Z9 HW9 B9 ⊢;clear hWz z0 z1 z2 f0 f1 f2;obtain ⟨z0,z1,z2⟩:=r3_cells Z9;refine bodyPost_ret (v:=.tuple #[.agg #[.int .i64 now,.slice a n c3,.slice a2 n2 c4],.int .i64 2]) (by simp [results,Tryz.results111,go_sem,z0,z1,z2]) rfl ?_;exact ⟨_,_,_,_,_,_,rs,ms,2,rfl,fun wz hz=>HT.still (gs_trans (gs_below B9) hz),hbd.out,gs_below B9⟩
end Go.Proofs.YtgcinolbkllkkaaGreat
