/-
  Texts of one proof, joined: Math8, Math13, Math12, Math11, Math13a, Math14.
-/
import Derived.Test.YtgcinolbkllkkaaGreatZFConverged06
set_option linter.unusedSimpArgs false
set_option linter.unusedVariables false
namespace M1
def sinceTo (us:List Upd)(ds:List (Int × Int))(most:Int):Nat→List Upd
 | 0=>[]
 | k+1=>if ((sinceTo us ds most k).length:Int)<most∧lk ds (up us k).dr<(up us k).dn then sinceTo us ds most k ++ [up us k] else sinceTo us ds most k
theorem since_yes {us:List Upd}{ds:List (Int × Int)}{most:Int}{k:Nat}(h:((sinceTo us ds most k).length:Int)<most∧lk ds (up us k).dr<(up us k).dn):sinceTo us ds most (k+1)=sinceTo us ds most k ++ [up us k]:=if_pos h
theorem since_no {us:List Upd}{ds:List (Int × Int)}{most:Int}{k:Nat}(h:¬(((sinceTo us ds most k).length:Int)<most∧lk ds (up us k).dr<(up us k).dn)):sinceTo us ds most (k+1)=sinceTo us ds most k:=if_neg h
theorem since_len (us:List Upd)(ds:List (Int × Int))(most:Int):∀ k,(sinceTo us ds most k).length≤k
 | 0=>Nat.le_refl _
 | k+1=>by
  have:=since_len us ds most k;by_cases h:((sinceTo us ds most k).length:Int)<most∧lk ds (up us k).dr<(up us k).dn
  ·rw [since_yes h];simp;omega
  ·rw [since_no h];omega
theorem since_full {us:List Upd}{ds:List (Int × Int)}{most:Int}{k:Nat}(h:most≤((sinceTo us ds most k).length:Int)):∀ j,sinceTo us ds most (k+j)=sinceTo us ds most k
 | 0=>rfl
 | j+1=>by
  have ih:=since_full h j;show sinceTo us ds most (k+j+1)=_
  rw [since_no (by rw [ih];omega),ih]
theorem since_end {us:List Upd}{ds:List (Int × Int)}{most:Int}{k n:Nat}(h:most≤((sinceTo us ds most k).length:Int))(hk:k≤n):sinceTo us ds most n=sinceTo us ds most k:=by
 have:=since_full h (n-k)
 rwa [show k+(n-k)=n from by omega] at this
theorem since_mem {us:List Upd}{ds:List (Int × Int)}{most:Int}:∀ (k:Nat) (x:Upd),x∈sinceTo us ds most k→∃ j,j<k∧x=up us j
 | 0,x,h=>by cases h
 | k+1,x,h=>by
  by_cases q:((sinceTo us ds most k).length:Int)<most∧lk ds (up us k).dr<(up us k).dn
  ·rw [since_yes q] at h
   rcases List.mem_append.1 h with h | h
   ·obtain ⟨j,hj,e⟩:=since_mem k x h;exact ⟨j,by omega,e⟩
   ·simp at h;exact ⟨k,by omega,h⟩
  ·rw [since_no q] at h
   obtain ⟨j,hj,e⟩:=since_mem k x h;exact ⟨j,by omega,e⟩
theorem up_mem {us:List Upd}{i:Nat}(h:i<us.length):up us i∈us:=by
 unfold up;simp [List.getD,h]
theorem toList_len (s:ByteArray):s.toList.length=s.size:=by
 have key:∀ (n i:Nat) (r:List UInt8),s.size-i=n→(ByteArray.toList.loop s i r).length=r.length+n:=by
  intro n
  induction n with
  | zero=>intro i r h;unfold ByteArray.toList.loop;rw [if_neg (by omega)];simp
  | succ n ih=>intro i r h;unfold ByteArray.toList.loop;rw [if_pos (by omega),ih (i+1) _ (by omega)];simp;omega
 have:=key s.size 0 [] (by omega)
 simpa [ByteArray.toList] using this
theorem ok_txt {u:Upd}(h:okU u=true):u.s.size≤12:=by
 unfold okU updB kindB at h;rw [Bool.and_eq_true] at h;have h2:=h.2;by_cases k1:u.k=1
 ·rw [if_pos k1] at h2
  simp [spanB,nameB] at h2
  exact h2.1.1.1.2.1.2
 ·rw [if_neg k1] at h2
  have key:zeroB u.id u.pa u.s u.st u.en=true→u.s.size≤12:=by
   intro hz;simp [zeroB] at hz
   have h3:=toList_len u.s;rw [hz.1.1.2] at h3;simp at h3
   omega
  by_cases k2:u.k=2
  ·rw [if_pos k2] at h2;simp at h2;exact key h2.1
  ·rw [if_neg k2] at h2
   by_cases k3:u.k=3
   ·rw [if_pos k3] at h2;simp at h2;exact key h2.1
   ·rw [if_neg k3] at h2;cases h2
abbrev dd (a b:Upd):Prop:=dahead a.dr a.dn b.dr b.dn=true
theorem dd_iff {a b:Upd}:dd a b↔a.dr<b.dr∨(a.dr=b.dr∧a.dn<b.dn):=by simp [dd,dahead]
theorem dd_trans {a b c:Upd}(h1:dd a b)(h2:dd b c):dd a c:=by rw [dd_iff] at *;omega
theorem dd_irr {a b:Upd}(h:dd a b):¬(a.dr=b.dr∧a.dn=b.dn):=by rw [dd_iff] at h;omega
theorem dd_tot {a b:Upd}(h:¬(a.dr=b.dr∧a.dn=b.dn))(h2:dahead b.dr b.dn a.dr a.dn=false):dd a b:=by
 rw [dd_iff];simp [dahead] at h2
 omega
def insD:List Upd→Upd→List Upd
 | [],u=>[u]
 | x :: t,u=>if dahead x.dr x.dn u.dr u.dn=true then x :: insD t u else if x.dr=u.dr∧x.dn=u.dn then x :: t else u :: x :: t
theorem putR_ins:∀ {us:List Upd}{u:Upd}{ns:List Upd},PutR us u ns→ns=insD us u
 | [],u,ns,h=>by
  obtain ⟨k,hk,_,_,⟨h1,_⟩ | ⟨_,e⟩⟩:=h
  ·simp at h1
  ·simp at hk;subst hk;simpa [insD] using e
 | x :: t,u,ns,h=>by
  obtain ⟨k,hk,hlo,hhi,hr⟩:=h;unfold insD
  cases k with
  | zero =>
   have hx:dahead x.dr x.dn u.dr u.dn=false:=by
    rcases hhi with e | e
    ·simp at e
    ·exact e
   rw [if_neg (by rw [hx];simp)];rcases hr with ⟨_,h1,h2,e⟩ | ⟨h1,e⟩
   ·have h1':x.dr=u.dr:=h1
    have h2':x.dn=u.dn:=h2;rw [if_pos ⟨h1',h2'⟩,e];simp
   ·have:¬(x.dr=u.dr∧x.dn=u.dn):=fun q=>h1 ⟨by simp,q.1,q.2⟩
    rw [if_neg this,e];simp
  | succ k =>
   have hx:dahead x.dr x.dn u.dr u.dn=true:=hlo 0 (by omega);rw [if_pos hx];have ih:=putR_ins (us:=t) (u:=u) (ns:=ns.tail) ⟨k,by simp at hk;omega,fun j hj=>hlo (j+1) (by omega),hhi.imp (fun e=>by simp at e;omega) (fun e=>e),by
    rcases hr with ⟨h0,h1,h2,e⟩ | ⟨h1,e⟩
    ·exact Or.inl ⟨by simp at h0;omega,h1,h2,by rw [e];simp⟩
    ·exact Or.inr ⟨fun q=>h1 ⟨by simp;omega,q.2⟩,by rw [e];simp⟩⟩
   rw [←ih];rcases hr with ⟨_,_,_,e⟩ | ⟨_,e⟩ <;> (rw [e];simp)
theorem insD_mem {u x:Upd}:∀ {us:List Upd},x∈insD us u→x∈us∨x=u
 | [],h=>by simp [insD] at h;exact Or.inr h
 | y :: t,h=>by
  unfold insD at h
  split at h
  ·rcases List.mem_cons.1 h with h | h
   ·exact Or.inl (by simp [h])
   ·rcases insD_mem h with h | h
    ·exact Or.inl (by simp [h])
    ·exact Or.inr h
  ·split at h
   ·exact Or.inl h
   ·rcases List.mem_cons.1 h with h | h
    ·exact Or.inr h
    ·exact Or.inl h
theorem insD_sorted {u:Upd}:∀ {us:List Upd},us.Pairwise dd→(insD us u).Pairwise dd
 | [],_=>by simp [insD]
 | x :: t,h=>by
  rw [List.pairwise_cons] at h;unfold insD
  split
  ·rename_i hx
   rw [List.pairwise_cons];refine ⟨fun y hy=>?_,insD_sorted h.2⟩;rcases insD_mem hy with hy | hy
   ·exact h.1 y hy
   ·rw [hy];exact hx
  ·rename_i hx
   split
   ·rw [List.pairwise_cons];exact h
   ·rename_i hne
    rw [List.pairwise_cons,List.pairwise_cons];have hux:dd u x:=dd_tot (fun q=>hne ⟨q.1.symm,q.2.symm⟩) (by simpa using hx);refine ⟨fun y hy=>?_,h⟩;rcases List.mem_cons.1 hy with hy | hy
    ·rw [hy];exact hux
    ·exact dd_trans hux (h.1 y hy)
theorem insD_there {u:Upd}:∀ {us:List Upd},us.Pairwise dd→(∃ x∈us,x.dr=u.dr∧x.dn=u.dn)→insD us u=us
 | [],_,⟨x,hx,_⟩=>by cases hx
 | x :: t,h,⟨y,hy,he⟩=>by
  rw [List.pairwise_cons] at h;unfold insD;rcases List.mem_cons.1 hy with e | e
  ·subst e
   have:¬dahead y.dr y.dn u.dr u.dn=true:=fun q=>dd_irr (a:=y) (b:=u) q he;rw [if_neg this,if_pos he]
  ·have hxy:=h.1 y e
   have hxu:dahead x.dr x.dn u.dr u.dn=true:=by
    have:=dd_iff.1 hxy;exact dd_iff.2 (by omega)
   rw [if_pos hxu,insD_there h.2 ⟨y,e,he⟩]
theorem insD_new {u:Upd}:∀ {us:List Upd},(∀ x∈us,¬(x.dr=u.dr∧x.dn=u.dn))→(insD us u).Perm (u :: us)
 | [],_=>by simp [insD]
 | x :: t,h=>by
  unfold insD
  split
  ·exact ((insD_new (us:=t) fun y hy=>h y (by simp [hy])).cons x).trans (List.Perm.swap u x t)
  ·rw [if_neg (h x (by simp))]
def jlTo (xs ys:List Upd):Nat→List Upd
 | 0=>xs
 | k+1=>insD (jlTo xs ys k) (up ys k)
theorem fd_mem {vs:List Upd}{r n:Int}:(fd vs r n).isSome=true↔∃ x∈vs,x.dr=r∧x.dn=n:=by
 induction vs with
 | nil=>simp [fd]
 | cons v vs ih =>
  unfold fd;by_cases c:v.dr=r∧v.dn=n
  ·rw [if_pos c];simp [c]
  ·rw [if_neg c,ih]
   constructor
   ·rintro ⟨x,hx,e⟩;exact ⟨x,by simp [hx],e⟩
   ·rintro ⟨x,hx,e⟩
    rcases List.mem_cons.1 hx with h | h
    ·subst h;exact absurd e c
    ·exact ⟨x,h,e⟩
theorem jl_step {us vs:List Upd}{u:Upd}(hs:us.Pairwise dd)(hp:vs.Perm us):(insD us u).Pairwise dd∧(putL vs u).Perm (insD us u):=by
 refine ⟨insD_sorted hs,?_⟩;by_cases h:∃ x∈us,x.dr=u.dr∧x.dn=u.dn
 ·rw [insD_there hs h]
  have:(fd vs u.dr u.dn).isSome=true:=fd_mem.2 (by
   obtain ⟨x,hx,e⟩:=h;exact ⟨x,hp.mem_iff.2 hx,e⟩)
  unfold putL;rw [if_pos this];exact hp
 ·have hn:¬(fd vs u.dr u.dn).isSome=true:=fun q=>by
   obtain ⟨x,hx,e⟩:=fd_mem.1 q;exact h ⟨x,hp.mem_iff.1 hx,e⟩
  unfold putL;rw [if_neg hn];have h2:=insD_new (us:=us) (u:=u) fun x hx e=>h ⟨x,hx,e⟩;exact (List.perm_append_comm.trans ((hp.cons u))).trans h2.symm
theorem jl_all {xs ys:List Upd}(hs:xs.Pairwise dd):∀ k,(jlTo xs ys k).Pairwise dd∧(putsTo xs ys k).Perm (jlTo xs ys k)
 | 0=>⟨hs,List.Perm.refl _⟩
 | k+1=>by
  have ih:=jl_all (ys:=ys) hs k;exact jl_step ih.1 ih.2
theorem ok_sorted {us:List Upd}(h:∀ j,j<us.length→okAt us j=true):us.Pairwise dd:=by
 rw [List.pairwise_iff_getElem];have key:∀ j i,i<j→j<us.length→dd (up us i) (up us j):=by
  intro j
  induction j with
  | zero=>intro i hi;omega
  | succ j ih =>
   intro i hi hj;have hstep:dd (up us j) (up us (j+1)):=by
    have h1:=h (j+1) hj;unfold okAt at h1;rw [Bool.and_eq_true] at h1;have h2:fol (up us j) (up us (j+1))=true:=by simpa using h1.2
    exact dd_iff.2 (fol_ahead h2)
   by_cases e:i=j
   ·rw [e];exact hstep
   ·exact dd_trans (ih i (by omega) (by omega)) hstep
 intro i j hi hj hij;have:=key j i hij hj;have ei:up us i=us[i]:=by simp [up,List.getD,hi]
 have ej:up us j=us[j]:=by simp [up,List.getD,hj]
 rwa [ei,ej] at this
theorem sorted_unique:∀ {a b:List Upd},a.Pairwise dd→b.Pairwise dd→a.Perm b→a=b
 | [],b,_,_,h=>(List.perm_nil.1 h.symm).symm
 | x :: a,[],_,_,h=>by simp at h
 | x :: a,y :: b,ha,hb,h=>by
  rw [List.pairwise_cons] at ha hb;have hx:x=y:=by
   rcases List.mem_cons.1 (h.mem_iff.1 (List.mem_cons_self (a:=x) (l:=a))) with e | e
   ·exact e
   ·rcases List.mem_cons.1 (h.mem_iff.2 (List.mem_cons_self (a:=y) (l:=b))) with e' | e'
    ·exact e'.symm
    ·have h1:=dd_iff.1 (hb.1 x e)
     have h2:=dd_iff.1 (ha.1 y e');omega
  subst hx;rw [sorted_unique ha.2 hb.2 (List.Perm.cons_inv h)]
theorem told_is {us ns js:List Upd}(hj:js.Pairwise dd)(h1:us.Perm js)(h2:ns.Perm us)(h3:∀ i j,i<j→j<ns.length→dahead (up ns j).dr (up ns j).dn (up ns i).dr (up ns i).dn=false):ns=js:=by
 have hp:ns.Perm js:=h2.trans h1;refine sorted_unique ?_ hj hp;have hnd:(js.map fun u=>(u.dr,u.dn)).Nodup:=by
  rw [List.nodup_iff_pairwise_ne,List.pairwise_map];exact hj.imp (fun {a b:Upd} (h:dd a b) (e:(a.dr,a.dn)=(b.dr,b.dn))=>dd_irr h (by simpa using e))
 have hnd2:(ns.map fun u=>(u.dr,u.dn)).Nodup:=(hp.map _).nodup_iff.2 hnd;rw [List.nodup_iff_pairwise_ne,List.pairwise_map,List.pairwise_iff_getElem] at hnd2;rw [List.pairwise_iff_getElem];intro i j hi hj' hij;have:=h3 i j hij hj';have ei:up ns i=ns[i]:=by simp [up,List.getD,hi]
 have ej:up ns j=ns[j]:=by simp [up,List.getD,hj']
 rw [ei,ej] at this;exact dd_tot (fun e=>hnd2 i j hi hj' hij (by simp [e.1,e.2])) this
theorem ueq_eq {a b:Upd}(h:ueq a b=true):a=b:=by
 simp [ueq] at h
 obtain ⟨h1,h2,h3,h4,h5,h6,h7,h8,h9,h10,h11,h12,h13⟩:=h;exact upd_ext h1 h2 h3 h4 h5 h6 h7 h8 h9 (by
  have e:∀ x y:ByteArray,x.toList=y.toList→x=y:=fun x y q=>by
   rw [Go.ByteArray.toList_eq,Go.ByteArray.toList_eq] at q;exact Go.WideShapes.bytes_inj q
  exact e _ _ (by simpa using h10)) h11 h12 h13
theorem next_dn {us:List Upd}(h:∀ j,j<us.length→okAt us j=true){k:Nat}(hk:k<us.length):(up us k).dn=lastN us k (up us k).dr+1:=by
 have h1:=h k hk;unfold okAt at h1;rw [Bool.and_eq_true] at h1
 cases k with
 | zero =>
  have h2:=h1.2;simp at h2
  rw [h2];rfl
 | succ k =>
  have h2:fol (up us k) (up us (k+1))=true:=by simpa using h1.2
  unfold fol at h2;by_cases e:(up us (k+1)).dr=(up us k).dr
  ·rw [if_pos e] at h2
   rw [Bool.and_eq_true] at h2;have h3:(up us (k+1)).dn=(up us k).dn+1:=of_decide_eq_true h2.1;rw [h3,lastN_succ,if_pos e.symm]
  ·rw [if_neg e] at h2
   rw [Bool.and_eq_true] at h2;have h3:(up us (k+1)).dn=1:=of_decide_eq_true h2.2;have h4:(up us k).dr<(up us (k+1)).dr:=of_decide_eq_true h2.1;have h5:lastN us (k+1) (up us (k+1)).dr=0:=lastN_none _ fun j hj=>by
    have:=ok_mono h (i:=j) k (by omega) (by omega);omega
   rw [h3,h5];rfl
theorem lastN_bd {us:List Upd}(h:∀ j,j<us.length→okAt us j=true)(r:Int):∀ k,k≤us.length→0≤lastN us k r∧lastN us k r≤1000000
 | 0,_=>by simp [lastN]
 | k+1,hk=>by
  have ih:=lastN_bd h r k (by omega);have hr:=ok_rg h (show k<us.length by omega);rw [lastN_succ];by_cases e:(up us k).dr=r
  ·rw [if_pos e];omega
  ·rw [if_neg e];exact ih
theorem lastN_ge {us:List Upd}(h:∀ j,j<us.length→okAt us j=true){j:Nat}:∀ k,j<k→k≤us.length→(up us j).dn≤lastN us k (up us j).dr
 | 0,hj,_=>absurd hj (Nat.not_lt_zero _)
 | k+1,hj,hk=>by
  rw [lastN_succ];by_cases e:(up us k).dr=(up us j).dr
  ·rw [if_pos e]
   by_cases ej:j=k
   ·rw [ej];exact Int.le_refl _
   ·have ih:=lastN_ge h (j:=j) k (by omega) (by omega)
    have:=next_dn h (show k<us.length by omega);rw [e] at this;omega
  ·rw [if_neg e]
   have ej:¬j=k:=fun ej=>e (by rw [ej]);exact lastN_ge h k (by omega) (by omega)
theorem vecU_lk {us:List Upd}(h:∀ j,j<us.length→okAt us j=true){r:Int}(h1:1≤r)(h5:r≤5):lk (vecU us) r=lastN us us.length r:=by
 unfold vecU;rw [lk_dlTo];have:=(lastN_bd h r _ (Nat.le_refl us.length)).1;by_cases e:0<lastN us us.length r
 ·rw [if_pos ⟨h1,h5,e⟩]
 ·rw [if_neg (fun q=>e q.2.2)];omega
theorem vecU_ge {us:List Upd}(h:∀ j,j<us.length→okAt us j=true){j:Nat}(hj:j<us.length):(up us j).dn≤lk (vecU us) (up us j).dr:=by
 have hr:=ok_rg h hj;rw [vecU_lk h hr.1 hr.2.1];exact lastN_ge h _ hj (Nat.le_refl _)
def endAt (us:List Upd)(i:Nat):Prop:=i+1=us.length∨¬(up us (i+1)).dr=(up us i).dr
instance (us:List Upd) (i:Nat):Decidable (endAt us i):=by unfold endAt;exact inferInstance
def l3To (us:List Upd):Nat→List (Int × Int)
 | 0=>[]
 | k+1=>if endAt us k then l3To us k ++ [((up us k).dr,(up us k).dn)] else l3To us k
def l3v (us:List Upd):List (Int × Int):=l3To us us.length
theorem l3To_yes {us:List Upd}{k:Nat}(h:endAt us k):l3To us (k+1)=l3To us k ++ [((up us k).dr,(up us k).dn)]:=by simp [l3To,h]
theorem l3To_no {us:List Upd}{k:Nat}(h:¬endAt us k):l3To us (k+1)=l3To us k:=by simp [l3To,h]
theorem l3To_len (us:List Upd):∀ k,(l3To us k).length≤k
 | 0=>by simp [l3To]
 | k+1=>by
  have:=l3To_len us k;by_cases h:endAt us k
  ·rw [l3To_yes h];simp;omega
  ·rw [l3To_no h];omega
theorem l3v_len (us:List Upd):(l3v us).length≤us.length:=l3To_len us us.length
def fm:List (Int × Int)→Int→Int
 | [],_=>0
 | d :: l,r=>if d.1=r then d.2 else fm l r
theorem fm_none {r:Int}:∀ {l:List (Int × Int)},(∀ j,j<l.length→¬rg l j=r)→fm l r=0
 | [],_=>rfl
 | d :: l,h=>by
  have h0:¬d.1=r:=h 0 (by simp);unfold fm;rw [if_neg h0];exact fm_none fun j hj=>h (j+1) (by simpa using hj)
theorem fm_at {r:Int}:∀ {l:List (Int × Int)} {k:Nat},k<l.length→rg l k=r→(∀ j,j<k→¬rg l j=r)→fm l r=nm l k
 | [],k,hk,_,_=>absurd hk (by simp)
 | d :: l,0,_,h,_=>by
  have h0:d.1=r:=h;unfold fm;rw [if_pos h0];rfl
 | d :: l,k+1,hk,h,hall=>by
  have h0:¬d.1=r:=hall 0 (by omega);unfold fm;rw [if_neg h0];exact fm_at (l:=l) (k:=k) (by simpa using hk) h fun j hj=>hall (j+1) (by omega)
def jl (xs ys:List Upd):List Upd:=jlTo xs ys ys.length
def jOk (xs ys:List Upd):Bool:=agreeB xs ys && setOk (jl xs ys)
def jL (xs ys:List Upd):List Upd:=if jOk xs ys=true then jl xs ys else []
theorem j_no {xs ys:List Upd}(h:agreeB xs ys=false):jOk xs ys=false∧jL xs ys=[]:=by
 have:jOk xs ys=false:=by unfold jOk;rw [h];rfl
 exact ⟨this,by unfold jL;rw [this];rfl⟩
theorem j_not {xs ys:List Upd}(h:setOk (jl xs ys)=false):jOk xs ys=false∧jL xs ys=[]:=by
 have:jOk xs ys=false:=by unfold jOk;rw [h];simp
 exact ⟨this,by unfold jL;rw [this];rfl⟩
theorem j_yes {xs ys:List Upd}(h:agreeB xs ys=true)(h2:setOk (jl xs ys)=true):jOk xs ys=true∧jL xs ys=jl xs ys:=by
 have:jOk xs ys=true:=by unfold jOk;rw [h,h2];rfl
 exact ⟨this,by unfold jL;rw [if_pos this]⟩
theorem agreeB_true {xs ys:List Upd}(h:agreeB xs ys=true):setOk xs=true∧setOk ys=true∧agreeTo xs ys ys.length:=by
 unfold agreeB at h;simp at h
 exact h
theorem puts_mem {xs ys:List Upd}{x:Upd}:∀ {k:Nat},x∈putsTo xs ys k→x∈xs∨∃ j,j<k∧x=up ys j
 | 0,h=>Or.inl h
 | k+1,h=>by
  unfold putsTo putL at h
  split at h
  ·rcases puts_mem h with h | ⟨j,hj,e⟩
   ·exact Or.inl h
   ·exact Or.inr ⟨j,by omega,e⟩
  ·rcases List.mem_append.1 h with h | h
   ·rcases puts_mem h with h | ⟨j,hj,e⟩
    ·exact Or.inl h
    ·exact Or.inr ⟨j,by omega,e⟩
   ·simp at h;exact Or.inr ⟨k,by omega,h⟩
theorem puts_len {xs ys:List Upd}:∀ k,(putsTo xs ys k).length≤xs.length+k
 | 0=>Nat.le_refl _
 | k+1=>by
  have:=puts_len (xs:=xs) (ys:=ys) k;unfold putsTo putL
  split
  ·omega
  ·simp;omega
theorem mem_up {l:List Upd}{x:Upd}(h:x∈l):∃ i,i<l.length∧up l i=x:=by
 obtain ⟨i,hi,e⟩:=List.getElem_of_mem h;exact ⟨i,hi,by rw [←e];simp [up,List.getD,hi]⟩
theorem puts_same {xs ys:List Upd}(h:agreeB xs ys=true){k:Nat}(hk:k<ys.length):∀ x,fd (putsTo xs ys k) (up ys k).dr (up ys k).dn=some x→x=up ys k:=fun x hx=>by
 obtain ⟨_,h2,h3⟩:=agreeB_true h;obtain ⟨i,hi,e,e1,e2⟩:=fd_some hx;have hm:x∈putsTo xs ys k:=by
  rw [←e];have:up (putsTo xs ys k) i=(putsTo xs ys k)[i]:=by simp [up,List.getD,hi]
  rw [this];exact List.getElem_mem hi
 rcases puts_mem hm with hm | ⟨j,hj,e⟩
 ·obtain ⟨q,hq,e⟩:=mem_up hm
  have:=h3 k hk q hq (by rw [e];exact ⟨e1,e2⟩);rw [e] at this;exact ueq_eq this
 ·rw [e] at e1 e2
  exact absurd ⟨e1,e2⟩ (ok_apart (setOk_all h2) j k hj hk)
theorem puts_txt {xs ys:List Upd}(h:agreeB xs ys=true):∀ i,i<(putsTo xs ys ys.length).length→(up (putsTo xs ys ys.length) i).s.size≤1000:=fun i hi=>by
 obtain ⟨h1,h2,_⟩:=agreeB_true h;have hm:up (putsTo xs ys ys.length) i∈putsTo xs ys ys.length:=by
  have:up (putsTo xs ys ys.length) i=(putsTo xs ys ys.length)[i]:=by simp [up,List.getD,hi]
  rw [this];exact List.getElem_mem hi
 rcases puts_mem hm with hm | ⟨j,hj,e⟩
 ·obtain ⟨q,hq,e⟩:=mem_up hm
  have:=ok_txt (okAt_ok (setOk_all h1 q hq));rw [e] at this;omega
 ·have:=ok_txt (okAt_ok (setOk_all h2 j hj))
  rw [e];omega
theorem fm_val {r v:Int}:∀ {l:List (Int × Int)},(∃ d∈l,d.1=r)→(∀ d∈l,d.1=r→d.2=v)→fm l r=v
 | [],⟨d,hd,_⟩,_=>by cases hd
 | e :: l,⟨d,hd,he⟩,h=>by
  unfold fm;by_cases c:e.1=r
  ·rw [if_pos c];exact h e (by simp) c
  ·rw [if_neg c]
   refine fm_val ?_ fun x hx=>h x (by simp [hx]);rcases List.mem_cons.1 hd with q | q
   ·subst q;exact absurd he c
   ·exact ⟨d,q,he⟩
theorem fm_zero {r:Int}:∀ {l:List (Int × Int)},(∀ d∈l,¬d.1=r)→fm l r=0
 | [],_=>rfl
 | e :: l,h=>by
  unfold fm;rw [if_neg (h e (by simp))];exact fm_zero fun x hx=>h x (by simp [hx])
theorem l3To_mem {us:List Upd}{d:Int × Int}:∀ {k:Nat},d∈l3To us k→∃ i,i<k∧endAt us i∧d=((up us i).dr,(up us i).dn)
 | 0,h=>by cases h
 | k+1,h=>by
  by_cases c:endAt us k
  ·rw [l3To_yes c] at h
   rcases List.mem_append.1 h with h | h
   ·obtain ⟨i,hi,q⟩:=l3To_mem h;exact ⟨i,by omega,q⟩
   ·simp at h;exact ⟨k,by omega,c,h⟩
  ·rw [l3To_no c] at h
   obtain ⟨i,hi,q⟩:=l3To_mem h;exact ⟨i,by omega,q⟩
theorem l3To_has {us:List Upd}{i:Nat}(c:endAt us i):∀ {k:Nat},i<k→((up us i).dr,(up us i).dn)∈l3To us k
 | 0,h=>by omega
 | k+1,h=>by
  by_cases e:i=k
  ·subst e;rw [l3To_yes c];simp
  ·have ih:=l3To_has c (k:=k) (by omega)
   by_cases c2:endAt us k
   ·rw [l3To_yes c2];simp [ih]
   ·rw [l3To_no c2];exact ih
theorem srt_idx {us:List Upd}(h:us.Pairwise dd){i j:Nat}(hij:i<j)(hj:j<us.length):dd (up us i) (up us j):=by
 have:=List.pairwise_iff_getElem.1 h i j (by omega) hj hij;have ei:up us i=us[i]:=by simp [up,List.getD,show i<us.length by omega]
 have ej:up us j=us[j]:=by simp [up,List.getD,hj]
 rw [ei,ej];exact this
theorem fm_max {us:List Upd}(h:us.Pairwise dd){x:Upd}(hx:x∈us)(hm:∀ y∈us,y.dr=x.dr→y.dn≤x.dn):fm (l3v us) x.dr=x.dn:=by
 obtain ⟨i,hi,e⟩:=mem_up hx;subst e;have hend:endAt us i:=by
  by_cases c:i+1=us.length
  ·exact Or.inl c
  ·refine Or.inr fun e=>?_
   have hj:i+1<us.length:=by omega
   have h1:=dd_iff.1 (srt_idx h (show i<i+1 by omega) hj);have h2:=hm (up us (i+1)) (by
    have:up us (i+1)=us[i+1]:=by simp [up,List.getD,hj]
    rw [this];exact List.getElem_mem hj) e
   omega
 refine fm_val ⟨_,l3To_has hend hi,rfl⟩ fun d hd he=>?_;obtain ⟨j,hj,hje,rfl⟩:=l3To_mem hd;have he':(up us j).dr=(up us i).dr:=he;show (up us j).dn=(up us i).dn
 by_cases c1:j<i
 ·exfalso
  rcases hje with q | q
  ·omega
  ·have h1:=dd_iff.1 (srt_idx h (show j<j+1 by omega) (by omega))
   by_cases c2:j+1=i
   ·rw [c2] at q;exact q he'.symm
   ·have h2:=dd_iff.1 (srt_idx h (show j+1<i by omega) hi)
    omega
 ·by_cases c2:i<j
  ·have h1:=dd_iff.1 (srt_idx h c2 hj)
   have h2:=hm (up us j) (by
    have:up us j=us[j]:=by simp [up,List.getD,hj]
    rw [this];exact List.getElem_mem hj) he'
   omega
  ·have:i=j:=by omega
   rw [this]
theorem fm_out {us:List Upd}{r:Int}(h:∀ x∈us,¬x.dr=r):fm (l3v us) r=0:=fm_zero fun d hd=>by
 obtain ⟨i,hi,_,rfl⟩:=l3To_mem hd;refine h (up us i) ?_;have:up us i=us[i]:=by simp [up,List.getD,hi]
 rw [this];exact List.getElem_mem hi
structure LInv (L:Int→Int)(us:List Upd):Prop where
 el:∀ x∈us,1≤x.dr∧x.dr≤5∧1≤x.dn∧x.dn≤L x.dr
 bd:∀ r,0≤L r∧L r≤1000000
 has:∀ r,1≤r→r≤5→0<L r→∃ x∈us,x.dr=r∧x.dn=L r
theorem LInv.fm {L:Int→Int}{us:List Upd}(h:LInv L us)(hs:us.Pairwise dd){r:Int}(h1:1≤r)(h5:r≤5):M1.fm (l3v us) r=L r:=by
 by_cases c:0<L r
 ·obtain ⟨x,hx,e1,e2⟩:=h.has r h1 h5 c
  have:=fm_max hs hx fun y hy e=>by
   have:=(h.el y hy).2.2.2;rw [e,e1] at this;omega
  rw [e1,e2] at this;exact this
 ·have h0:L r=0:=by have:=(h.bd r).1;omega
  rw [h0];exact fm_out fun x hx e=>by
   have:=h.el x hx;rw [e] at this;omega
theorem LInv.put {L:Int→Int}{us:List Upd}(h:LInv L us){u:Upd}(hu:1≤u.dr∧u.dr≤5∧1≤u.dn∧u.dn≤1000000)(hn:u.dn=L u.dr+1):(∀ x∈us,¬(x.dr=u.dr∧x.dn=u.dn))∧LInv (fun r=>if r=u.dr then u.dn else L r) (insD us u):=by
 have hnew:∀ x∈us,¬(x.dr=u.dr∧x.dn=u.dn):=fun x hx e=>by
  have:=(h.el x hx).2.2.2;rw [e.1] at this;omega
 refine ⟨hnew,⟨fun x hx=>?_,fun r=>?_,fun r h1 h5 hr=>?_⟩⟩
 ·rcases insD_mem hx with hx | hx
  ·have q:=h.el x hx
   refine ⟨q.1,q.2.1,q.2.2.1,?_⟩;by_cases e:x.dr=u.dr
   ·simp only [if_pos e];have:=q.2.2.2;rw [e] at this;omega
   ·simp only [if_neg e];exact q.2.2.2
  ·subst hx;simp;omega
 ·by_cases e:r=u.dr
  ·simp only [if_pos e];omega
  ·simp only [if_neg e];exact h.bd r
 ·have hp:=insD_new hnew
  by_cases e:r=u.dr
  ·exact ⟨u,hp.mem_iff.2 (by simp),e.symm,by simp [e]⟩
  ·simp only [if_neg e] at hr ⊢
   obtain ⟨x,hx,q⟩:=h.has r h1 h5 hr;exact ⟨x,hp.mem_iff.2 (by simp [hx]),q⟩
theorem LInv.start {xs:List Upd}(h:∀ j,j<xs.length→okAt xs j=true):LInv (lastN xs xs.length) xs:=by
 refine ⟨fun x hx=>?_,fun r=>lastN_bd h r _ (Nat.le_refl _),fun r h1 h5 hr=>?_⟩
 ·obtain ⟨i,hi,e⟩:=mem_up hx
  have q:=ok_rg h hi;have g:=lastN_ge h xs.length hi (Nat.le_refl _);rw [e] at q g;exact ⟨q.1,q.2.1,q.2.2.1,g⟩
 ·have key:∀ k,k≤xs.length→0<lastN xs k r→∃ x∈xs,x.dr=r∧x.dn=lastN xs k r:=by
   intro k
   induction k with
   | zero=>intro _ h;simp [lastN] at h
   | succ k ih =>
    intro hk hpos;rw [lastN_succ] at hpos ⊢;by_cases e:(up xs k).dr=r
    ·rw [if_pos e]
     refine ⟨up xs k,?_,e,rfl⟩;have:up xs k=xs[k]:=by simp [up,List.getD,show k<xs.length by omega]
     rw [this];exact List.getElem_mem (by omega)
    ·rw [if_neg e] at hpos ⊢;exact ih (by omega) hpos
  exact key _ (Nat.le_refl _) hr
def tkL (xs ys:List Upd):Nat→Int→Int
 | 0=>lastN xs xs.length
 | k+1=>if (up ys k).dn=tkL xs ys k (up ys k).dr+1 then fun r=>if r=(up ys k).dr then (up ys k).dn else tkL xs ys k r else tkL xs ys k
def tkO (xs ys:List Upd):Nat→List Upd
 | 0=>xs
 | k+1=>if (up ys k).dn=tkL xs ys k (up ys k).dr+1 then insD (tkO xs ys k) (up ys k) else tkO xs ys k
def tkM (xs ys:List Upd):Nat→List Upd
 | 0=>xs
 | k+1=>if (up ys k).dn=tkL xs ys k (up ys k).dr+1 then putL (tkM xs ys k) (up ys k) else tkM xs ys k
theorem tk_all {xs ys:List Upd}(hx:∀ j,j<xs.length→okAt xs j=true)(hy:∀ j,j<ys.length→okU (up ys j)=true):∀ k,k≤ys.length→(tkO xs ys k).Pairwise dd∧(tkM xs ys k).Perm (tkO xs ys k)∧LInv (tkL xs ys k) (tkO xs ys k)
 | 0,_=>⟨ok_sorted hx,List.Perm.refl _,LInv.start hx⟩
 | k+1,hk=>by
  obtain ⟨h1,h2,h3⟩:=tk_all hx hy k (by omega);have hd:=okU_dot (hy k (by omega));by_cases c:(up ys k).dn=tkL xs ys k (up ys k).dr+1
  ·simp only [tkO,tkM,tkL,if_pos c]
   have q:=jl_step (u:=up ys k) h1 h2;exact ⟨q.1,q.2,(h3.put hd c).2⟩
  ·simp only [tkO,tkM,tkL,if_neg c]
   exact ⟨h1,h2,h3⟩
theorem tk_mem {xs ys:List Upd}{x:Upd}:∀ {k:Nat},x∈tkO xs ys k→x∈xs∨∃ j,j<k∧x=up ys j
 | 0,h=>Or.inl h
 | k+1,h=>by
  unfold tkO at h
  split at h
  ·rcases insD_mem h with h | h
   ·rcases tk_mem h with h | ⟨j,hj,e⟩
    ·exact Or.inl h
    ·exact Or.inr ⟨j,by omega,e⟩
   ·exact Or.inr ⟨k,by omega,h⟩
  ·rcases tk_mem h with h | ⟨j,hj,e⟩
   ·exact Or.inl h
   ·exact Or.inr ⟨j,by omega,e⟩
theorem tkM_len {xs ys:List Upd}:∀ k,(tkM xs ys k).length≤xs.length+k
 | 0=>Nat.le_refl _
 | k+1=>by
  have:=tkM_len (xs:=xs) (ys:=ys) k;unfold tkM putL
  split
  ·split
   ·omega
   ·simp;omega
  ·omega
def tpre (xs ys:List Upd):Bool:=setOk xs && decide (ys.length≤60) && allR ys
def tO (xs ys:List Upd):List Upd:=tkO xs ys ys.length
def tOk (xs ys:List Upd):Bool:=tpre xs ys && setOk (tO xs ys)
def tL (xs ys:List Upd):List Upd:=if tOk xs ys=true then tO xs ys else []
theorem t_no {xs ys:List Upd}(h:tpre xs ys=false):tOk xs ys=false∧tL xs ys=[]:=by
 have:tOk xs ys=false:=by unfold tOk;rw [h];rfl
 exact ⟨this,by unfold tL;rw [this];rfl⟩
theorem t_not {xs ys:List Upd}(h:setOk (tO xs ys)=false):tOk xs ys=false∧tL xs ys=[]:=by
 have:tOk xs ys=false:=by unfold tOk;rw [h];simp
 exact ⟨this,by unfold tL;rw [this];rfl⟩
theorem t_yes {xs ys:List Upd}(h:tpre xs ys=true)(h2:setOk (tO xs ys)=true):tOk xs ys=true∧tL xs ys=tO xs ys:=by
 have:tOk xs ys=true:=by unfold tOk;rw [h,h2];rfl
 exact ⟨this,by unfold tL;rw [if_pos this]⟩
theorem tpre_true {xs ys:List Upd}(h:tpre xs ys=true):setOk xs=true∧ys.length≤60∧allR ys=true:=by
 unfold tpre at h;simp at h
 exact ⟨h.1.1,h.1.2,h.2⟩
theorem tk_txt {xs ys:List Upd}(h:tpre xs ys=true){k:Nat}(hk:k≤ys.length){x:Upd}(hx:x∈tkO xs ys k):x.s.size≤12:=by
 obtain ⟨h1,_,h3⟩:=tpre_true h;rcases tk_mem hx with hm | ⟨j,hj,e⟩
 ·obtain ⟨q,hq,e⟩:=mem_up hm
  have:=ok_txt (okAt_ok (setOk_all h1 q hq))
  rwa [e] at this
 ·have:=ok_txt (allR_all h3 j (by omega))
  rw [e];exact this
end M1
