/-
  Texts of one proof, joined: Math21, Math22.
-/
import Derived.Test.YtgcinolbkllkkaaGreatZFConverged42
set_option linter.unusedSimpArgs false
set_option linter.unusedVariables false
namespace M1
def itr (S:List Upd):Nat→Upd→Option Upd
 | 0,x=>some x
 | n+1,x=>match par S x with
  | none=>none
  | some y=>itr S n y
theorem itr_succ {S:List Upd}{n:Nat}{x y:Upd}(h:par S x=some y):itr S (n+1) x=itr S n y:=by
 show (match par S x with | none=>none | some y=>itr S n y)=_
 rw [h]
theorem itr_none {S:List Upd}{n:Nat}{x:Upd}(h:par S x=none):itr S (n+1) x=none:=by
 show (match par S x with | none=>none | some y=>itr S n y)=_
 rw [h]
theorem itr_add {S:List Upd}:∀ {a b:Nat} {x y:Upd},itr S a x=some y→itr S (a+b) x=itr S b y
 | 0,b,x,y,h=>by
  have h':x=y:=by simpa [itr] using h
  rw [Nat.zero_add,h']
 | a+1,b,x,y,h=>by
  cases e:par S x with
  | none=>rw [itr_none e] at h;cases h
  | some z =>
   rw [itr_succ e] at h;rw [show a+1+b=(a+b)+1 by omega,itr_succ e];exact itr_add h
theorem itr_one {S:List Upd}{x:Upd}:itr S 1 x=par S x:=by
 cases e:par S x with
 | none=>exact itr_none e
 | some y=>rw [itr_succ e];rfl
theorem itr_mem {S:List Upd}:∀ {n:Nat} {x y:Upd},x∈S→itr S n x=some y→y∈S
 | 0,x,y,hx,h=>by
  have h':x=y:=by simpa [itr] using h
  rw [←h'];exact hx
 | n+1,x,y,_,h=>by
  cases e:par S x with
  | none=>rw [itr_none e] at h;cases h
  | some z=>rw [itr_succ e] at h;exact itr_mem (par_mem e) h
theorem itr_back {S:List Upd}{a b:Nat}{x y:Upd}(h:itr S (a+b) x=some y):∃ z,itr S a x=some z∧itr S b z=some y:=by
 cases e:itr S a x with
 | none =>
  exfalso
  have:∀ (a:Nat) (x:Upd),itr S a x=none→itr S (a+b) x=none:=by
   intro a
   induction a with
   | zero=>intro x q;cases q
   | succ a ih =>
    intro x q
    cases e2:par S x with
    | none=>rw [show a+1+b=(a+b)+1 by omega];exact itr_none e2
    | some z =>
     rw [itr_succ e2] at q;rw [show a+1+b=(a+b)+1 by omega,itr_succ e2];exact ih z q
  rw [this a x e] at h;cases h
 | some z=>exact ⟨z,rfl,by rw [←itr_add e];exact h⟩
theorem walk_goR {S:List Upd}{x:Upd}:∀ {n:Nat} {y:Upd},(∀ m z,m≤n→itr S m y=some z→x.id≤z.id)→(∃ z,itr S n y=some z∧z.id=x.id)→∃ f,goR S x f (some y)=true
 | 0,y,_,⟨z,h1,h2⟩=>by
  have h':y=z:=by simpa [itr] using h1
  refine ⟨1,?_⟩;unfold goR;rw [h',if_neg (by omega),if_pos h2]
 | n+1,y,h,⟨z,h1,h2⟩=>by
  by_cases c:y.id=x.id
  ·refine ⟨1,?_⟩
   unfold goR;rw [if_neg (by omega),if_pos c]
  ·have hy:=h 0 y (by omega) rfl
   cases e:par S y with
   | none=>rw [itr_none e] at h1;cases h1
   | some w =>
    rw [itr_succ e] at h1;obtain ⟨f,hf⟩:=walk_goR (n:=n) (y:=w) (fun m z hm hz=>h (m+1) z (by omega) (by rw [itr_succ e];exact hz)) ⟨z,h1,h2⟩;refine ⟨f+1,?_⟩;unfold goR;rw [if_neg (by omega),if_neg c,e];exact hf
theorem min_at (f:Nat→Int):∀ n,∃ j,j≤n∧∀ i,i≤n→f j≤f i
 | 0=>⟨0,Nat.le_refl _,fun i hi=>by rw [show i=0 by omega];exact Int.le_refl _⟩
 | n+1=>by
  obtain ⟨j,hj,h⟩:=min_at f n;by_cases c:f (n+1)<f j
  ·refine ⟨n+1,Nat.le_refl _,fun i hi=>?_⟩
   by_cases e:i=n+1
   ·rw [e];exact Int.le_refl _
   ·have:=h i (by omega);omega
  ·refine ⟨j,by omega,fun i hi=>?_⟩
   by_cases e:i=n+1
   ·rw [e];omega
   ·exact h i (by omega)
theorem itr_round {S:List Upd}{s:Upd}{n:Nat}(h:itr S (n+1) s=some s):∀ m,∃ j,j≤n∧itr S m s=itr S j s:=by
 intro m
 induction m using Nat.strongRecOn with
 | ind m ih =>
  by_cases c:m≤n
  ·exact ⟨m,c,rfl⟩
  ·obtain ⟨j,hj,e⟩:=ih (m-(n+1)) (by omega)
   refine ⟨j,hj,?_⟩;have em:itr S m s=itr S ((n+1)+(m-(n+1))) s:=by rw [show (n+1)+(m-(n+1))=m by omega]
   rw [em,itr_add h];exact e
theorem circle {S:List Upd}(hS:S.Pairwise idlt){s:Upd}(hs:s∈S){n:Nat}(h:itr S (n+1) s=some s):∃ j x,j≤n∧itr S j s=some x∧rootB S x=true:=by
 have hall:∀ m,m≤n→∃ z,itr S m s=some z:=fun m hm=>by
  obtain ⟨z,h1,_⟩:=itr_back (a:=m) (b:=n+1-m) (by rw [show m+(n+1-m)=n+1 by omega];exact h);exact ⟨z,h1⟩
 obtain ⟨j,hj,hmin⟩:=min_at (fun i=>((itr S i s).getD zeroU).id) n;obtain ⟨x,hx⟩:=hall j hj;refine ⟨j,x,hj,hx,?_⟩;have hxS:=itr_mem hs hx;have hge:∀ m z,itr S m x=some z→x.id≤z.id:=fun m z hz=>by
  rw [←itr_add hx] at hz;obtain ⟨i,hi,e⟩:=itr_round h (j+m);rw [e] at hz;have:=hmin i hi;simp only [hx,hz,Option.getD_some] at this;exact this
 have hback:itr S (n+1) x=some x:=by
  rw [←itr_add hx,show j+(n+1)=n+1+j by omega,itr_add h,hx]
 unfold rootB
 cases e:par S x with
 | none=>rfl
 | some y =>
  rw [itr_succ e] at hback;obtain ⟨f,hf⟩:=walk_goR (x:=x) (n:=n) (y:=y) (fun m z _ hz=>hge (m+1) z (by rw [itr_succ e];exact hz)) ⟨x,hback,rfl⟩;exact goR_enough hS (par_mem e) hf
def Sub (S:List Upd)(s x:Upd)(j:Nat):Prop:=itr S j x=some s∧∀ i y,i<j→itr S i x=some y→rootB S y=false
theorem sub_refl (S:List Upd)(s:Upd):Sub S s s 0:=⟨rfl,fun _ _ hi=>absurd hi (Nat.not_lt_zero _)⟩
theorem sub_step {S:List Upd}{s k x:Upd}{j:Nat}(h:Sub S k x j)(hp:par S k=some s)(hk:rootB S k=false):Sub S s x (j+1):=by
 refine ⟨?_,fun i y hi hy=>?_⟩
 ·rw [itr_add h.1,itr_one,hp]
 ·by_cases c:i<j
  ·exact h.2 i y c hy
  ·have:i=j:=by omega
   rw [this,h.1] at hy;injection hy with hy;rw [←hy];exact hk
theorem no_round {S:List Upd}(hS:S.Pairwise idlt){s k:Upd}(hs:s∈S)(hp:par S k=some s)(hk:rootB S k=false){j:Nat}:¬Sub S k s j:=fun h=>by
 have hr:itr S (j+1) s=some s:=by rw [itr_add h.1,itr_one,hp]
 obtain ⟨i,x,hi,hx,hroot⟩:=circle hS hs hr;by_cases c:i<j
 ·rw [h.2 i x c hx] at hroot;cases hroot
 ·have:i=j:=by omega
  rw [this,h.1] at hx;injection hx with hx;rw [←hx,hk] at hroot;cases hroot
theorem sub_one {S:List Upd}(hS:S.Pairwise idlt){s k l x:Upd}(hs:s∈S)(hk:par S k=some s)(hl:par S l=some s)(rk:rootB S k=false)(rl:rootB S l=false){a b:Nat}(h1:Sub S k x a)(h2:Sub S l x b):k=l:=by
 have key:∀ (k l:Upd) (a b:Nat),par S k=some s→par S l=some s→rootB S l=false→Sub S k x a→Sub S l x b→a<b→False:=by
  intro k l a b hk hl rl h1 h2 hab;refine no_round hS hs hl rl (j:=b-a-1) ⟨?_,fun i y hi hy=>h2.2 (a+1+i) y (by omega) ?_⟩
  ·have:=h2.1
   rw [show b=a+(b-a) by omega,itr_add h1.1,show b-a=(b-a-1)+1 by omega,itr_succ hk] at this;exact this
  ·rw [show a+1+i=a+(i+1) by omega,itr_add h1.1,itr_succ hk];exact hy
 rcases Nat.lt_trichotomy a b with q | q | q
 ·exact (key k l a b hk hl rl h1 h2 q).elim
 ·subst q
  have:=h1.1.symm.trans h2.1;injection this
 ·exact (key l k b a hl hk rk h2 h1 q).elim
theorem sub_root {S:List Upd}{r q x:Upd}(hr:rootB S r=true)(hq:rootB S q=true){a b:Nat}(h1:Sub S r x a)(h2:Sub S q x b):r=q∧a=b:=by
 rcases Nat.lt_trichotomy a b with c | c | c
 ·have:=h2.2 a r c h1.1;rw [hr] at this;cases this
 ·subst c
  have:=h1.1.symm.trans h2.1;injection this with this;exact ⟨this,rfl⟩
 ·have:=h1.2 b q c h2.1;rw [hq] at this;cases this
theorem sub_deep {S:List Upd}(hS:S.Pairwise idlt){r x:Upd}(hx:x∈S){d:Nat}(h:Sub S r x d):d<S.length:=by
 have hall:∀ m,m≤d→∃ z,itr S m x=some z∧z∈S:=fun m hm=>by
  obtain ⟨z,h1,_⟩:=itr_back (a:=m) (b:=d-m) (by rw [show m+(d-m)=d by omega];exact h.1);exact ⟨z,h1,itr_mem hx h1⟩
 have hne:∀ i j,i<j→j≤d→¬((itr S i x).getD zeroU).id=((itr S j x).getD zeroU).id:=fun i j hij hj e=>by
  obtain ⟨y,hy,hyS⟩:=hall i (by omega);obtain ⟨z,hz,hzS⟩:=hall j hj;rw [hy,hz] at e;have eyz:y=z:=id_inj hS hyS hzS e;subst eyz;have hround:itr S (j-i-1+1) y=some y:=by
   rw [←itr_add hy,show i+(j-i-1+1)=j by omega];exact hz
  obtain ⟨q,u,hq,hu,hroot⟩:=circle hS hyS hround;rw [←itr_add hy] at hu;rw [h.2 (i+q) u (by omega) hu] at hroot;cases hroot
 have hnd:((List.range (d+1)).map (fun i=>((itr S i x).getD zeroU).id)).Nodup:=by
  rw [List.nodup_iff_pairwise_ne,List.pairwise_map];refine (List.pairwise_lt_range (n:=d+1)).imp_of_mem (fun {a b} ha hb hab=>hne a b hab (by simp at hb;omega))
 have:=int_nodup_sub (m:=S.map (·.id)) hnd fun i hi=>by
  obtain ⟨m,hm,e⟩:=List.mem_map.1 hi;simp at hm
  obtain ⟨z,hz,hzS⟩:=hall m (by omega);rw [hz] at e;exact List.mem_map.2 ⟨z,hzS,e⟩
 simp at this
 omega
def stlt (a b:Upd):Prop:=a.st<b.st∨a.st=b.st∧a.id<b.id
def stB (a b:Upd):Bool:=decide (a.st<b.st) || (decide (a.st=b.st) && decide (a.id<b.id))
theorem stB_iff (a b:Upd):stB a b=true↔stlt a b:=by unfold stB stlt;simp
theorem st_irr (a:Upd):¬stlt a a:=by unfold stlt;omega
theorem st_trans {a b c:Upd}(h1:stlt a b)(h2:stlt b c):stlt a c:=by unfold stlt at *;omega
theorem st_asym {a b:Upd}(h1:stlt a b):¬stlt b a:=by unfold stlt at *;omega
theorem st_tri {a b:Upd}(h:¬a.id=b.id):stlt a b∨stlt b a:=by unfold stlt;omega
def insSt (x:Upd):List Upd→List Upd
 | []=>[x]
 | y :: t=>if stB x y=true then x :: y :: t else y :: insSt x t
def bySt:List Upd→List Upd
 | []=>[]
 | x :: t=>insSt x (bySt t)
theorem insSt_perm (x:Upd):∀ l,(insSt x l).Perm (x :: l)
 | []=>List.Perm.refl _
 | y :: t=>by
  unfold insSt
  split
  ·exact List.Perm.refl _
  ·exact ((insSt_perm x t).cons y).trans (List.Perm.swap x y t)
theorem bySt_perm:∀ l,(bySt l).Perm l
 | []=>List.Perm.refl _
 | x :: t=>(insSt_perm x (bySt t)).trans ((bySt_perm t).cons x)
theorem insSt_sorted {x:Upd}:∀ {l:List Upd},l.Pairwise stlt→(∀ y∈l,¬x.id=y.id)→(insSt x l).Pairwise stlt
 | [],_,_=>by simp [insSt]
 | y :: t,h,hn=>by
  unfold insSt;rw [List.pairwise_cons] at h
  split
  ·rename_i c
   have c':=(stB_iff x y).1 c;rw [List.pairwise_cons,List.pairwise_cons];refine ⟨fun z hz=>?_,h⟩;rcases List.mem_cons.1 hz with e | hz
   ·rw [e];exact c'
   ·exact st_trans c' (h.1 z hz)
  ·rename_i c
   rw [List.pairwise_cons];refine ⟨fun z hz=>?_,insSt_sorted h.2 fun z hz=>hn z (by simp [hz])⟩;rcases List.mem_cons.1 ((insSt_perm x t).mem_iff.1 hz) with e | hz
   ·rw [e]
    rcases st_tri (hn y (by simp)) with q | q
    ·exact absurd ((stB_iff x y).2 q) c
    ·exact q
   ·exact h.1 z hz
theorem bySt_sorted:∀ {S:List Upd},ids S→(bySt S).Pairwise stlt
 | [],_=>List.Pairwise.nil
 | x :: t,h=>by
  unfold ids at h;rw [List.pairwise_cons] at h;exact insSt_sorted (bySt_sorted h.2) fun y hy=>h.1 y ((bySt_perm t).mem_iff.1 hy)
theorem st_unique:∀ {a b:List Upd},a.Pairwise stlt→b.Pairwise stlt→a.Perm b→a=b
 | [],b,_,_,h=>(List.perm_nil.1 h.symm).symm
 | x :: a,[],_,_,h=>by simp at h
 | x :: a,y :: b,ha,hb,h=>by
  rw [List.pairwise_cons] at ha hb;have hx:x=y:=by
   rcases List.mem_cons.1 (h.mem_iff.1 (List.mem_cons_self (a:=x) (l:=a))) with e | e
   ·exact e
   ·rcases List.mem_cons.1 (h.mem_iff.2 (List.mem_cons_self (a:=y) (l:=b))) with e' | e'
    ·exact e'.symm
    ·exact absurd (hb.1 x e) (st_asym (ha.1 y e'))
  subst hx;rw [st_unique ha.2 hb.2 (List.Perm.cons_inv h)]
def kids (S:List Upd)(s:Upd):List Upd:=(bySt S).filter fun k=>decide (k.pa=s.id)
theorem kids_mem {S:List Upd}{s k:Upd}:k∈kids S s↔k∈S∧k.pa=s.id:=by
 unfold kids;rw [List.mem_filter,(bySt_perm S).mem_iff];simp
theorem kids_sorted {S:List Upd}(hS:S.Pairwise idlt)(s:Upd):(kids S s).Pairwise stlt:=(bySt_sorted (ids_of hS)).sublist List.filter_sublist
theorem kids_par {S:List Upd}(hS:S.Pairwise idlt){s k:Upd}(hs:s∈S)(hk:k∈kids S s):par S k=some s:=by
 unfold par;rw [(kids_mem.1 hk).2];exact fj_mem hS hs
theorem up_in {S:List Upd}{i:Nat}(h:i<S.length):up S i∈S:=by
 have:up S i=S[i]:=by simp [up,List.getD,h]
 rw [this];exact List.getElem_mem h
theorem kid_lt {S:List Upd}(hS:S.Pairwise idlt)(s:Upd){i j:Nat}(hij:i<j)(hj:j<(kids S s).length):stlt (up (kids S s) i) (up (kids S s) j):=by
 have h:=kids_sorted hS s;rw [List.pairwise_iff_getElem] at h;have:=h i j (by omega) hj hij;have e1:up (kids S s) i=(kids S s)[i]:=by simp [up,List.getD,show i<(kids S s).length by omega]
 have e2:up (kids S s) j=(kids S s)[j]:=by simp [up,List.getD,hj]
 rw [e1,e2];exact this
def growF (S:List Upd):Nat→Upd→Int→List (Upd × Int)
 | 0,_,_=>[]
 | f+1,s,d=>(s,d) :: (kids S s).flatMap fun k=>if rootB S k=true then [] else growF S f k (d+1)
def kidsTo (S:List Upd)(f:Nat)(s:Upd)(d:Int)(i:Nat):List (Upd × Int):=((kids S s).take i).flatMap fun k=>if rootB S k=true then [] else growF S f k (d+1)
theorem kidsTo_step {S:List Upd}{f:Nat}{s:Upd}{d:Int}{i:Nat}(hi:i<(kids S s).length):kidsTo S f s d (i+1)=kidsTo S f s d i ++ (if rootB S (up (kids S s) i)=true then [] else growF S f (up (kids S s) i) (d+1)):=by
 unfold kidsTo;rw [List.take_succ_eq_append_getElem hi,List.flatMap_append];have e:up (kids S s) i=(kids S s)[i]:=by simp [up,List.getD,hi]
 rw [e];simp
theorem growF_all (S:List Upd)(f:Nat)(s:Upd)(d:Int):growF S (f+1) s d=(s,d) :: kidsTo S f s d (kids S s).length:=by
 unfold kidsTo;rw [List.take_length];rfl
theorem grow_mem {S:List Upd}(hS:S.Pairwise idlt):∀ {f:Nat} {s:Upd} {d:Int} {q:Upd × Int},s∈S→q∈growF S f s d→q.1∈S∧∃ j,Sub S s q.1 j
 | 0,s,d,q,_,h=>by cases h
 | f+1,s,d,q,hs,h=>by
  have h':q=(s,d)∨q∈(kids S s).flatMap fun k=>if rootB S k=true then [] else growF S f k (d+1):=List.mem_cons.1 h;rcases h' with e | h'
  ·rw [e];exact ⟨hs,0,sub_refl S s⟩
  ·obtain ⟨k,hk,hq⟩:=List.mem_flatMap.1 h'
   by_cases c:rootB S k=true
   ·rw [if_pos c] at hq;cases hq
   ·rw [if_neg c] at hq
    obtain ⟨h1,j,hj⟩:=grow_mem hS (kids_mem.1 hk).1 hq;exact ⟨h1,j+1,sub_step hj (kids_par hS hs hk) (by simpa using c)⟩
theorem kidsTo_mem {S:List Upd}(hS:S.Pairwise idlt){f:Nat}{s:Upd}{d:Int}{i:Nat}{q:Upd × Int}(hi:i≤(kids S s).length)(h:q∈kidsTo S f s d i):∃ j,j<i∧rootB S (up (kids S s) j)=false∧q.1∈S∧∃ a,Sub S (up (kids S s) j) q.1 a:=by
 obtain ⟨k,hk,hq⟩:=List.mem_flatMap.1 h;obtain ⟨j,hj,e⟩:=List.getElem_of_mem hk;rw [List.length_take] at hj;rw [List.getElem_take] at e;have e2:up (kids S s) j=k:=by rw [←e];simp [up,List.getD,show j<(kids S s).length by omega]
 by_cases c:rootB S k=true
 ·rw [if_pos c] at hq;cases hq
 ·rw [if_neg c] at hq
  have hkS:=(kids_mem.1 (up_in (show j<(kids S s).length by omega))).1;rw [e2] at hkS;obtain ⟨h1,a,ha⟩:=grow_mem hS hkS hq;exact ⟨j,by omega,by rw [e2];simpa using c,h1,a,by rw [e2];exact ha⟩
structure Pre (S:List Upd)(r s:Upd)(d:Nat)(O:List (Upd × Int)):Prop where
 sS:s∈S
 rr:rootB S r=true
 sub:Sub S r s d
 no:∀ q∈O,q.1∈S∧∀ j,¬Sub S s q.1 j
 yes:s=r∨∃ q∈O,q.1=r
theorem Pre.out {S:List Upd}{r s:Upd}{d:Nat}{O:List (Upd × Int)}(h:Pre S r s d O):∀ q∈O,¬q.1.id=s.id∨¬S.Pairwise idlt:=fun q hq=>by
 by_cases hS:S.Pairwise idlt
 ·left
  intro e;have:=id_inj hS (h.no q hq).1 h.sS e;exact (h.no q hq).2 0 (by rw [this];exact sub_refl S s)
 ·exact Or.inr hS
theorem pre_kid {S:List Upd}(hS:S.Pairwise idlt){r s:Upd}{d f:Nat}{D:Int}{O:List (Upd × Int)}(h:Pre S r s d O){i:Nat}(hi:i<(kids S s).length)(hk:rootB S (up (kids S s) i)=false) :
  Pre S r (up (kids S s) i) (d+1) (O ++ (s,D) :: kidsTo S f s D i):=by
 have hkm:=up_in hi;have hkS:=(kids_mem.1 hkm).1;have hp:=kids_par hS h.sS hkm;refine ⟨hkS,h.rr,?_,fun q hq=>?_,Or.inr ?_⟩
 ·refine ⟨by rw [itr_succ hp];exact h.sub.1,fun j y hj hy=>?_⟩
  cases j with
  | zero =>
   have:up (kids S s) i=y:=by simpa [itr] using hy
   rw [←this];exact hk
  | succ j=>rw [itr_succ hp] at hy;exact h.sub.2 j y (by omega) hy
 ·rcases List.mem_append.1 hq with hq | hq
  ·exact ⟨(h.no q hq).1,fun j hj=>(h.no q hq).2 (j+1) (sub_step hj hp hk)⟩
  ·rcases List.mem_cons.1 hq with e | hq
   ·rw [e];exact ⟨h.sS,fun j hj=>no_round hS h.sS hp hk hj⟩
   ·obtain ⟨j,hj,hr,hqS,a,ha⟩:=kidsTo_mem hS (by omega) hq
    refine ⟨hqS,fun b hb=>?_⟩;have hjm:=up_in (show j<(kids S s).length by omega);have e:=sub_one hS h.sS (kids_par hS h.sS hjm) hp hr hk ha hb;exact st_irr _ (by have:=kid_lt hS s hj hi;rw [e] at this;exact this)
 ·rcases h.yes with e | ⟨q,hq,e⟩
  ·exact ⟨(s,D),by simp,e⟩
  ·exact ⟨q,by simp [hq],e⟩
def forTo (S:List Upd)(i:Nat):List (Upd × Int):=(S.take i).flatMap fun s=>if rootB S s=true then growF S S.length s 0 else []
def forest (S:List Upd):List (Upd × Int):=forTo S S.length
theorem forTo_step {S:List Upd}{i:Nat}(hi:i<S.length):forTo S (i+1)=forTo S i ++ (if rootB S (up S i)=true then growF S S.length (up S i) 0 else []):=by
 unfold forTo;rw [List.take_succ_eq_append_getElem hi,List.flatMap_append];have e:up S i=S[i]:=by simp [up,List.getD,hi]
 rw [e];simp
theorem pre_root {S:List Upd}(hS:S.Pairwise idlt){i:Nat}(hi:i<S.length)(hr:rootB S (up S i)=true):Pre S (up S i) (up S i) 0 (forTo S i):=by
 refine ⟨up_in hi,hr,sub_refl S _,fun q hq=>?_,Or.inl rfl⟩;obtain ⟨s,hs,h⟩:=List.mem_flatMap.1 hq;obtain ⟨j,hj,e⟩:=List.getElem_of_mem hs;rw [List.length_take] at hj;rw [List.getElem_take] at e;have e2:up S j=s:=by rw [←e];simp [up,List.getD,show j<S.length by omega]
 by_cases c:rootB S s=true
 ·rw [if_pos c] at h
  have hsS:s∈S:=by rw [←e2];exact up_in (by omega)
  obtain ⟨h1,a,ha⟩:=grow_mem hS hsS h;refine ⟨h1,fun b hb=>?_⟩;have:=(sub_root c hr ha hb).1;rw [List.pairwise_iff_getElem] at hS;have hlt:=hS j i (by omega) hi (by omega);have e3:up S i=S[i]:=by simp [up,List.getD,hi]
  rw [e,this,e3] at hlt;unfold idlt at hlt;omega
 ·rw [if_neg c] at h;cases h
end M1
