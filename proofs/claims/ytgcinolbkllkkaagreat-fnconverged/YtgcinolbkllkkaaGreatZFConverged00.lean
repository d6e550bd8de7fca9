/-
  Texts of one proof, joined: Math1, Math2, Math3, Math4, Math5, Math14a, Math6, Math7, Kept, Walk1.
-/
import Derived.WalkKit
import Derived.OrdersHeld
import Derived.Deep.RegionHeld
import Derived.Below
import Derived.Test.YtgcinolbkllkkaaGreatRows
import Derived.ProofKit
import Derived.OpenShut
set_option linter.unusedSimpArgs false
set_option linter.unusedVariables false
namespace M1
def inB (n lo hi:Int):Bool:=decide (lo≤n) && decide (n≤hi)
theorem inB_true {n lo hi:Int}(h:inB n lo hi=true):lo≤n∧n≤hi:=by
 simpa [inB] using h
def stOk (a b c:Int):Bool:=inB a 0 1000000000 && inB b 0 1000000 && inB c 1 5
theorem stOk_true {a b c:Int}(h:stOk a b c=true):0≤a∧a≤1000000000∧0≤b∧b≤1000000∧1≤c∧c≤5:=by
 simp [stOk,inB] at h;omega
theorem stOk_mk {a b c:Int}(h:0≤a∧a≤1000000000∧0≤b∧b≤1000000∧1≤c∧c≤5):stOk a b c=true:=by
 simp [stOk,inB];omega
def aheadB (a b c x y z:Int):Bool :=
 if a=x then (if b=y then decide (c<z) else decide (b<y)) else decide (a<x)
structure St where
 a:Int
 b:Int
 c:Int
 ok:Bool
def nextP (a b c now:Int):St :=
 if a<now then ⟨now,0,c,true⟩ else if b=1000000 then ⟨0,0,0,false⟩ else ⟨a,b+1,c,true⟩
def tickP (a b c now:Int):St :=
 if stOk a b c=true∧inB now 0 1000000000=true then nextP a b c now else ⟨0,0,0,false⟩
def overB (a b x y:Int):Bool:=decide (a<x) || (decide (x=a) && decide (b<y))
def metP (a b c x y z now:Int):St :=
 if stOk a b c=true∧stOk x y z=true∧inB now 0 1000000000=true then
  (if overB a b x y=true then nextP x y c now else nextP a b c now) else ⟨0,0,0,false⟩
theorem next_props {a b c now:Int}(h:stOk a b c=true)(hn:inB now 0 1000000000=true)(hk:(nextP a b c now).ok=true) :
  aheadB a b c (nextP a b c now).a (nextP a b c now).b (nextP a b c now).c=true∧now≤(nextP a b c now).a∧(nextP a b c now).c=c∧stOk (nextP a b c now).a (nextP a b c now).b (nextP a b c now).c=true∧(a<(nextP a b c now).a∨((nextP a b c now).a=a∧b<(nextP a b c now).b)):=by
 have h1:=stOk_true h;have h2:=inB_true hn;unfold nextP at hk ⊢;by_cases e1:a<now
 ·simp only [if_pos e1]
  have e2:¬a=now:=by omega
  refine ⟨by simp [aheadB,e2,e1],by omega,by trivial,stOk_mk (by omega),by omega⟩
 ·simp only [if_neg e1] at hk ⊢
  by_cases e2:b=1000000
  ·simp [e2] at hk
  ·simp only [if_neg e2] at hk ⊢
   have e3:¬b=b+1:=by omega
   refine ⟨?_,by omega,by trivial,stOk_mk (by omega),by first | omega | (simp;done) | (simp;omega)⟩;unfold aheadB;rw [if_pos rfl,if_neg e3]
   simp;omega
def rg (l:List (Int × Int))(i:Nat):Int:=(l.getD i (0,0)).1
def nm (l:List (Int × Int))(i:Nat):Int:=(l.getD i (0,0)).2
def dotOk (a b:Int):Bool:=inB a 1 5 && inB b 1 1000000
theorem dotOk_true {a b:Int}(h:dotOk a b=true):1≤a∧a≤5∧1≤b∧b≤1000000:=by
 simp [dotOk,inB] at h;omega
def vokAt (l:List (Int × Int))(i:Nat):Bool:=dotOk (rg l i) (nm l i) && (decide (i=0) || decide (rg l (i-1)<rg l i))
def vecOk (l:List (Int × Int)):Bool:=(List.range l.length).all (vokAt l)
theorem vecOk_yes {l:List (Int × Int)}(h:∀ j,j<l.length→vokAt l j=true):vecOk l=true:=by
 simp [vecOk];exact h
theorem vecOk_no {l:List (Int × Int)}{j:Nat}(hj:j<l.length)(h:vokAt l j=false):vecOk l=false:=by
 simp [vecOk];exact ⟨j,hj,h⟩
theorem vecOk_all {l:List (Int × Int)}(h:vecOk l=true):∀ j,j<l.length→vokAt l j=true:=by
 simpa [vecOk] using h
theorem list_ext {l m:List (Int × Int)}(hl:l.length=m.length)(h:∀ i,i<l.length→rg l i=rg m i∧nm l i=nm m i):l=m:=by
 apply List.ext_getElem hl
 intro i h1 h2;have:=h i h1;simp [rg,nm,List.getD,h1,h2] at this
 exact Prod.ext this.1 this.2
def lkTo (l:List (Int × Int)):Nat→Int→Int
 | 0,_=>0
 | k+1,r=>if rg l k=r then nm l k else lkTo l k r
def lk (l:List (Int × Int))(r:Int):Int:=lkTo l l.length r
theorem lkTo_succ (l:List (Int × Int))(k:Nat)(r:Int):lkTo l (k+1) r=if rg l k=r then nm l k else lkTo l k r:=rfl
def lastR (l:List (Int × Int)):Nat→Int
 | 0=>0
 | k+1=>rg l k
theorem vokAt_last {l:List (Int × Int)}{k:Nat}(hd:dotOk (rg l k) (nm l k)=true)(h:lastR l k<rg l k):vokAt l k=true:=by
 cases k with
 | zero=>simp [vokAt,hd]
 | succ j=>simp [vokAt,hd];exact h
theorem vokAt_not {l:List (Int × Int)}{k:Nat}(hd:dotOk (rg l k) (nm l k)=true)(h:¬lastR l k<rg l k):vokAt l k=false:=by
 cases k with
 | zero=>have:=dotOk_true hd;simp [lastR] at h;omega
 | succ j=>simp [vokAt,hd];simpa [lastR] using h
theorem vok_step {l:List (Int × Int)}{j:Nat}(h:vokAt l (j+1)=true):rg l j<rg l (j+1):=by
 simp [vokAt] at h;exact h.2
theorem vok_rise {l:List (Int × Int)}(h:vecOk l=true){i:Nat}:∀ j,i<j→j<l.length→rg l i<rg l j
 | 0,hij,_=>absurd hij (Nat.not_lt_zero _)
 | j+1,hij,hj=>by
  have hs:=vok_step (vecOk_all h (j+1) hj);by_cases e:i=j
  ·rw [e];exact hs
  ·exact Int.lt_trans (vok_rise h j (by omega) (by omega)) hs
theorem lkTo_none {l:List (Int × Int)}{r:Int}:∀ k,(∀ j,j<k→¬rg l j=r)→lkTo l k r=0
 | 0,_=>rfl
 | k+1,h=>by rw [lkTo_succ,if_neg (h k (by omega))];exact lkTo_none k (fun j hj=>h j (by omega))
theorem lkTo_at {l:List (Int × Int)}(h:vecOk l=true){j:Nat}:∀ k,j<k→k≤l.length→lkTo l k (rg l j)=nm l j
 | 0,hj,_=>absurd hj (Nat.not_lt_zero _)
 | k+1,hj,hk=>by
  rw [lkTo_succ];by_cases e:j=k
  ·rw [e,if_pos rfl]
  ·have:=vok_rise h k (i:=j) (by omega) (by omega)
   rw [if_neg (by omega)];exact lkTo_at h k (by omega) (by omega)
theorem lk_at {l:List (Int × Int)}(h:vecOk l=true){j:Nat}(hj:j<l.length):lk l (rg l j)=nm l j:=lkTo_at h _ hj (Nat.le_refl _)
theorem lk_none {l:List (Int × Int)}{r:Int}(h:∀ j,j<l.length→¬rg l j=r):lk l r=0:=lkTo_none _ h
def dlTo (f:Int→Int):Nat→List (Int × Int)
 | 0=>[]
 | k+1=>dlTo f k ++ (if 0<f (k+1) then [((k:Int)+1,f (k+1))] else [])
theorem dlTo_yes {f:Int→Int}{k:Nat}(h:0<f (k+1)):dlTo f (k+1)=dlTo f k ++ [((k:Int)+1,f (k+1))]:=by simp [dlTo,h]
theorem dlTo_no {f:Int→Int}{k:Nat}(h:¬0<f (k+1)):dlTo f (k+1)=dlTo f k:=by simp [dlTo,h]
theorem dlTo_len (f:Int→Int):∀ k,(dlTo f k).length≤k
 | 0=>by simp [dlTo]
 | k+1=>by
  have:=dlTo_len f k;by_cases h:0<f (k+1)
  ·rw [dlTo_yes h];simp;omega
  ·rw [dlTo_no h];omega
theorem dl_step (f:Int→Int)(k:Nat)(r:Int)(hr:(k:Int)+1=r)(h:0<f r):dlTo f (k+1)=dlTo f k ++ [(r,f r)]:=by subst hr;exact dlTo_yes h
theorem dl_stay (f:Int→Int)(k:Nat)(r:Int)(hr:(k:Int)+1=r)(h:¬0<f r):dlTo f (k+1)=dlTo f k:=by subst hr;exact dlTo_no h
def letB (c:UInt8):Bool:=decide (97≤(c.toNat:Int)) && decide ((c.toNat:Int)≤122)
def allB (s:ByteArray):Bool:=s.data.toList.all letB
def nameB (s:ByteArray):Bool:=(decide (1≤s.size) && decide (s.size≤12)) && allB s
theorem allB_yes {s:ByteArray}(h:∀ j (hj:j<s.size),letB s[j]=true):allB s=true:=by
 unfold allB;rw [List.all_eq_true];intro x hx;obtain ⟨j,hj,rfl⟩:=List.mem_iff_getElem.1 hx;have h2:letB s.data[j]=true:=h j (by simpa using hj)
 simpa using h2
theorem allB_no {s:ByteArray}{j:Nat}(hj:j<s.size)(h:letB s[j]=false):allB s=false:=by
 unfold allB;rw [List.all_eq_false];refine ⟨s[j],?_,by simp [h]⟩;show s.data[j]∈_
 simp
def spanB (id parent:Int)(s:ByteArray)(start fin:Int):Bool :=
 inB id 1 1000 && inB parent 0 1000 && (parent != id) && nameB s && inB start 0 1000000000 && inB fin start 1000000000
theorem spanB_eq (id parent:Int)(s:ByteArray)(start fin:Int):spanB id parent s start fin =
  (inB id 1 1000 && inB parent 0 1000 && (parent != id) && nameB s && inB start 0 1000000000 && inB fin 0 1000000000 && decide (start≤fin)):=by
 unfold spanB;generalize nameB s=b;generalize (parent != id)=c;rw [Bool.eq_iff_iff];cases b <;> cases c
 all_goals first | (simp [inB];done) | (simp [inB];omega)
def zeroB (id pa:Int)(s:ByteArray)(st en:Int):Bool:=decide (id=0) && decide (pa=0) && decide (s.toList=[]) && decide (st=0) && decide (en=0)
def headB (dr dn sw sc sr tr:Int):Bool:=dotOk dr dn && stOk sw sc sr && decide (sr=dr) && inB tr 1 1000
def kindB (k id pa:Int)(s:ByteArray)(st en lv:Int):Bool :=
 if k=1 then spanB id pa s st en && (lv==0)
 else if k=2 then zeroB id pa s st en && (lv==0)
 else if k=3 then zeroB id pa s st en && inB lv 1 1000000
 else false
def updB (dr dn sw sc sr k tr id pa:Int)(s:ByteArray)(st en lv:Int):Bool:=headB dr dn sw sc sr tr && kindB k id pa s st en lv
structure Upd where
 dr:Int
 dn:Int
 sw:Int
 sc:Int
 sr:Int
 k:Int
 tr:Int
 id:Int
 pa:Int
 s:ByteArray
 st:Int
 en:Int
 lv:Int
def zeroU:Upd:=⟨0,0,0,0,0,0,0,0,0,ByteArray.empty,0,0,0⟩
def up (us:List Upd)(i:Nat):Upd:=us.getD i zeroU
def okU (u:Upd):Bool:=updB u.dr u.dn u.sw u.sc u.sr u.k u.tr u.id u.pa u.s u.st u.en u.lv
def fol (a b:Upd):Bool :=
 if b.dr=a.dr then decide (b.dn=a.dn+1) && aheadB a.sw a.sc a.sr b.sw b.sc b.sr else decide (a.dr<b.dr) && decide (b.dn=1)
def okAt (us:List Upd)(j:Nat):Bool:=okU (up us j) && (if j=0 then decide ((up us j).dn=1) else fol (up us (j-1)) (up us j))
def setOk (us:List Upd):Bool:=decide (us.length≤60) && (List.range us.length).all (okAt us)
theorem setOk_yes {l:List Upd}(h:∀ j,j<l.length→okAt l j=true):setOk l=decide (l.length≤60):=by
 have:(List.range l.length).all (okAt l)=true:=by simp;exact h
 unfold setOk;rw [this];simp
theorem setOk_no {l:List Upd}{j:Nat}(hj:j<l.length)(h:okAt l j=false):setOk l=false:=by
 simp [setOk];intro _;exact ⟨j,hj,h⟩
theorem setOk_all {l:List Upd}(h:setOk l=true):∀ j,j<l.length→okAt l j=true:=by
 simp [setOk] at h;exact h.2
theorem setOk_len {l:List Upd}(h:setOk l=true):l.length≤60:=by
 simp [setOk] at h;exact h.1
theorem okAt_ok {l:List Upd}{j:Nat}(h:okAt l j=true):okU (up l j)=true:=by
 simp [okAt] at h;exact h.1
theorem upd_ext {u v:Upd}(h1:u.dr=v.dr)(h2:u.dn=v.dn)(h3:u.sw=v.sw)(h4:u.sc=v.sc)(h5:u.sr=v.sr)(h6:u.k=v.k)(h7:u.tr=v.tr)(h8:u.id=v.id)(h9:u.pa=v.pa)(h10:u.s=v.s)(h11:u.st=v.st)(h12:u.en=v.en)(h13:u.lv=v.lv):u=v:=by
 cases u;cases v;simp at *;simp [*]
theorem okU_dot {u:Upd}(h:okU u=true):1≤u.dr∧u.dr≤5∧1≤u.dn∧u.dn≤1000000:=by
 simp [okU,updB,headB] at h
 exact dotOk_true h.1.1.1.1
def dahead (a b x y:Int):Bool:=decide (a<x) || (decide (a=x) && decide (b<y))
def cmpI (x y:Int):Int:=if x<y then -1 else if y<x then 1 else 0
def orI (x y:Int):Int:=if x=0 then y else x
theorem dahead_cmp (a b x y:Int):decide (orI (cmpI a x) (cmpI b y)<0)=dahead a b x y:=by
 unfold orI cmpI dahead;by_cases h1:a<x
 ·simp [h1]
 ·by_cases h2:x<a
  ·have h3:¬a=x:=by omega
   simp [h1,h2,h3]
  ·have h3:a=x:=by omega
   by_cases h4:b<y
   ·simp [h3,h4]
   ·by_cases h5:y<b
    ·simp [h3,h4,h5]
    ·simp [h3,h4,h5]
def allR (ys:List Upd):Bool:=(List.range ys.length).all fun j=>okU (up ys j)
theorem allR_yes {ys:List Upd}(h:∀ j,j<ys.length→okU (up ys j)=true):allR ys=true:=by simp [allR];exact h
theorem allR_no {ys:List Upd}{j:Nat}(hj:j<ys.length)(h:okU (up ys j)=false):allR ys=false:=by simp [allR];exact ⟨j,hj,h⟩
theorem allR_all {ys:List Upd}(h:allR ys=true):∀ j,j<ys.length→okU (up ys j)=true:=by simp [allR] at h;exact h
theorem rg_app {l:List (Int × Int)}{d:Int × Int}{i:Nat}(h:i<l.length):rg (l ++ [d]) i=rg l i∧nm (l ++ [d]) i=nm l i:=by
 simp [rg,nm,List.getD,List.getElem?_append_left h]
theorem rg_last (l:List (Int × Int))(d:Int × Int):rg (l ++ [d]) l.length=d.1∧nm (l ++ [d]) l.length=d.2:=by
 simp [rg,nm,List.getD]
theorem lkTo_app {l:List (Int × Int)}{d:Int × Int}{r:Int}:∀ k,k≤l.length→lkTo (l ++ [d]) k r=lkTo l k r
 | 0,_=>rfl
 | k+1,h=>by
  have:=rg_app (d:=d) (show k<l.length by omega);rw [lkTo_succ,lkTo_succ,this.1,this.2,lkTo_app k (by omega)]
theorem lk_snoc (l:List (Int × Int))(d:Int × Int)(r:Int):lk (l ++ [d]) r=if d.1=r then d.2 else lk l r:=by
 unfold lk;rw [show (l ++ [d]).length=l.length+1 from by simp,lkTo_succ,(rg_last l d).1,(rg_last l d).2,lkTo_app _ (Nat.le_refl _)]
theorem lk_dlTo (f:Int→Int):∀ (k:Nat) (r:Int),lk (dlTo f k) r=if 1≤r∧r≤k∧0<f r then f r else 0
 | 0,r=>by rw [if_neg (by omega)];rfl
 | k+1,r=>by
  by_cases h:0<f (k+1)
  ·rw [dlTo_yes h,lk_snoc,lk_dlTo f k r]
   by_cases e:((k:Int)+1)=r
   ·subst e;rw [if_pos rfl,if_pos ⟨by omega,by omega,h⟩]
   ·rw [if_neg e]
    by_cases q:1≤r∧r≤k∧0<f r
    ·rw [if_pos q,if_pos ⟨q.1,by omega,q.2.2⟩]
    ·rw [if_neg q,if_neg (fun q2=>q ⟨q2.1,by omega,q2.2.2⟩)]
  ·rw [dlTo_no h,lk_dlTo f k r]
   by_cases q:1≤r∧r≤k∧0<f r
   ·rw [if_pos q,if_pos ⟨q.1,by omega,q.2.2⟩]
   ·rw [if_neg q,if_neg (fun q2=>q ⟨q2.1,by
     have:r≠(k:Int)+1:=fun e=>h (by rw [←e];exact q2.2.2);omega,q2.2.2⟩)]
def lastN (us:List Upd):Nat→Int→Int
  | 0,_=>0
  | k+1,r=>if (up us k).dr=r then (up us k).dn else lastN us k r
theorem lastN_succ (us:List Upd)(k:Nat)(r:Int):lastN us (k+1) r=if (up us k).dr=r then (up us k).dn else lastN us k r:=rfl
theorem lastN_none {us:List Upd}{r:Int}:∀ k,(∀ j,j<k→¬(up us j).dr=r)→lastN us k r=0
  | 0,_=>rfl
  | k+1,h=>by rw [lastN_succ,if_neg (h k (by omega))];exact lastN_none k (fun j hj=>h j (by omega))
def vecU (us:List Upd):List (Int × Int):=dlTo (lastN us us.length) 5
def vectorOf (us:List Upd):List (Int × Int):=if setOk us=true then vecU us else []
theorem fol_le {a b:Upd}(h:fol a b=true):a.dr≤b.dr:=by
  unfold fol at h;by_cases e:b.dr=a.dr
  · omega
  · rw [if_neg e] at h
    simp at h;omega
theorem ok_step {us:List Upd}{j:Nat}(h:okAt us (j+1)=true):(up us j).dr≤(up us (j+1)).dr:=by
  unfold okAt at h;simp at h
  exact fol_le h.2
theorem ok_mono {us:List Upd}(h:∀ j,j<us.length→okAt us j=true){i:Nat}:∀ j,i≤j→j<us.length→(up us i).dr≤(up us j).dr
  | 0, hij, _ => by have:i=0:=by omega
                    rw [this];exact Int.le_refl _
  | j+1,hij,hj=>by
    by_cases e:i=j+1
    · rw [e];exact Int.le_refl _
    · have h1:=ok_mono h (i:=i) j (by omega) (by omega)
      have h2:=ok_step (h (j+1) hj);omega
theorem ok_rg {us:List Upd}(h:∀ j,j<us.length→okAt us j=true){j:Nat}(hj:j<us.length):1≤(up us j).dr∧(up us j).dr≤5∧1≤(up us j).dn∧(up us j).dn≤1000000:=okU_dot (okAt_ok (h j hj))
end M1
namespace Go.Proofs.YtgcinolbkllkkaaGreat
open Go.RowKit
theorem zZ {A:Type}:(∀ (l:List A) (i:Nat) (h:i<l.toArray.size),l.toArray[i]=l[i]'(by simpa using h))∧(∀ (a:A) (l:List A) (h:0<(a :: l).length),(a :: l)[0]=a)∧(∀ (a:A) (l:List A) (i:Nat) (h:i+1<(a :: l).length),(a :: l)[i+1]=l[i]'(by simpa using h))∧(∀ (l:List A) (i:Nat) (a:A),l.toArray.setIfInBounds i a=(l.set i a).toArray)∧(∀ (a b:A) (l:List A),(a :: l).set 0 b=b :: l)∧(∀ (a b:A) (l:List A) (n:Nat),(a :: l).set (n+1) b=a :: l.set n b) :=
  ⟨fun _ _ h=>List.getElem_toArray h,fun _ _ h=>List.getElem_cons_zero _ _ h,fun _ _ _ h=>List.getElem_cons_succ _ _ _ h,fun _ _ _=>List.setIfInBounds_toArray _ _ _,fun _ _ _=>List.set_cons_zero,fun _ _ _ _=>List.set_cons_succ⟩
theorem pZ:(∀ (a:Act)(d:Tmp)(v:Value),a.put (some d) v={ a with tmps:=a.tmps.setIfInBounds d v })∧(∀ (a:Act) (v:Value),a.put none v=a):=⟨fun _ _ _=>rfl,fun _ _=>rfl⟩
theorem tZ {P:Program}{md:Region.Mode}{ops:Array Oper}{Q:Exit→Act→World→Prop}{S:World→Prop}{i:Nat}{oi:Oper}{v:Value}{fuel:Nat}{listed:Array Bool}{a:Act}{w:World}(hi:ops[i]?=some oi)(hy:YieldsIf P ops S oi v a)(hS:S w)(h:wpAnyH P md ops Q S fuel (listed.setIfInBounds i true) (a.put oi.dst v) w)
    (hs:Region.noSelect ops=true:=by kernel_rfl) (hf:Region.free md ops listed i=true:=by kernel_rfl) (hr:(Region.ready md ops listed).contains i=true:=by kernel_rfl) (hQ:∀ c a w,Q (.panic c) (a.put oi.dst v) w→Q (.panic c) a w:=by exact fun _ _ _ h=>h):wpAnyH P md ops Q S (fuel+1) listed a w :=
  wpAnyH_take hi hs hf hr hQ hy hS h
theorem uZ {P:Program}{md:Region.Mode}{ops:Array Oper}{Q:Exit→Act→World→Prop}{S:World→Prop}(i:Nat){oi:Oper}{v:Value}{fuel:Nat}{listed:Array Bool}{a:Act}{w:World}(h:wpAnyH P md ops Q S fuel (listed.setIfInBounds i true) (a.put oi.dst v) w)(hi:ops[i]?=some oi:=by exact rfl)(hw:Region.wanted oi (yielded ops a.tmps)=true:=by rfl)(hv:∀ w,S w→(execOp a.eval oi).run P w=.ok (.value v) w:=by (intro w hSw;(try dsimp only at hSw);go_simp;try (with_reducible rfl)))
    (hS:S w:=by with_reducible assumption) (hs:Region.noSelect ops=true:=by kernel_rfl) (hf:Region.free md ops listed i=true:=by kernel_rfl) (hr:(Region.ready md ops listed).contains i=true:=by kernel_rfl) (hQ:∀ c a w,Q (.panic c) (a.put oi.dst v) w→Q (.panic c) a w:=by exact fun _ _ _ h=>h):wpAnyH P md ops Q S (fuel+1) listed a w :=
  wpAnyH_take hi hs hf hr hQ (.inl ⟨hw,hv⟩) hS h
theorem vZ {P:Program}{md:Region.Mode}{ops:Array Oper}{Q:Exit→Act→World→Prop}{S:World→Prop}(i:Nat){oi:Oper}{fuel:Nat}{listed:Array Bool}{a:Act}{w:World}(h:wpAnyH P md ops Q S fuel (listed.setIfInBounds i true) (a.put oi.dst undef) w)(hi:ops[i]?=some oi:=by exact rfl)(hw:Region.wanted oi (yielded ops a.tmps)=false:=by rfl)
    (hS:S w:=by with_reducible assumption) (hs:Region.noSelect ops=true:=by kernel_rfl) (hf:Region.free md ops listed i=true:=by kernel_rfl) (hr:(Region.ready md ops listed).contains i=true:=by kernel_rfl) (hQ:∀ c a w,Q (.panic c) (a.put oi.dst undef) w→Q (.panic c) a w:=by exact fun _ _ _ h=>h):wpAnyH P md ops Q S (fuel+1) listed a w :=
  wpAnyH_take hi hs hf hr hQ (.inr ⟨hw,rfl⟩) hS h
theorem rZ {P:Program}{md:Region.Mode}{ops:Array Oper}{Q:Exit→Act→World→Prop}{S:World→Prop}(rs:List Nat){fuel:Nat}{listed:Array Bool}{a:Act}{w:World}(h:AllReadyH P md ops Q S fuel listed a w rs)(hr:Region.ready md ops listed=rs:=by kernel_rfl)(hne:rs≠[]:=by simp):wpAnyH P md ops Q S (fuel+1) listed a w:=wpAnyH_ready hr hne h
theorem sZ {P:Program}{md:Region.Mode}{ops:Array Oper}{Q:Exit→Act→World→Prop}{S:World→Prop}(i:Nat){o:Oper}{fuel:Nat}{listed:Array Bool}{a:Act}{w:World}(h:∀ K':Act→World→Prop,Shut (∀ a w,S w→(S w→wpAnyH P md ops Q S fuel (listed.setIfInBounds i true) a w)→K' a w)→if Region.wanted o (yielded ops a.tmps)=true then Oper.wp P o a w K' Q else K' (a.put o.dst undef) w)(ho:ops[i]?=some o:=by exact rfl)(hr:Region.ready md ops listed=[i]:=by kernel_rfl):wpAnyH P md ops Q S (fuel+1) listed a w:=wpAnyH_ready hr (by simp) (AllReadyH.cons ho h AllReadyH.nil)
theorem dZ {P:Program}{md:Region.Mode}{ops:Array Oper}{Q:Exit→Act→World→Prop}{S:World→Prop}{fuel:Nat}{listed:Array Bool}{a:Act}{w:World}(h:Q .normal a w)(hr:Region.ready md ops listed=[]:=by kernel_rfl):wpAnyH P md ops Q S fuel listed a w:=wpAnyH_done hr h _
theorem bZ {n:Nat}{w w':World}(h:Below n w w':=by repeat (first | (with_reducible exact Below.refl _ _) | ((with_reducible refine Below.setCell ?_ ?_ _);rotate_left;(focus (first | omega | (simp;done) | (simp;omega)))) | ((with_reducible refine Below.alloc ?_ ?_ _);rotate_left;(focus (first | omega | (simp;done) | (simp;omega)))) | (with_reducible refine Below.drew ?_))):Below n w w':=h
abbrev Kp (W0 w':World):Prop:=Below W0.heap.size W0 w'∧(∀ b o,b<W0.heap.size→w'.cell? ⟨b,o,none⟩=W0.cell? ⟨b,o,none⟩)
theorem kp_of {W0 w':World}(h:Below W0.heap.size W0 w'):Kp W0 w':=⟨h,fun b o hb=>h.cell (p:=⟨b,o,none⟩) hb⟩
theorem kp_zero (W0:World):Kp W0 W0.drew:=kp_of (Below.refl _ _).drew
theorem kp_drew {W0 w1:World}(h:Kp W0 w1):Kp W0 w1.drew:=kp_of h.1.drew
theorem kp_step {W0 w1 w2:World}(h:Kp W0 w1)(hb:Below w1.heap.size w1 w2):Kp W0 w2:=kp_of (h.1.trans (hb.mono h.1.size))
theorem bcell {W w1:World}(hb:Below W.heap.size W w1):(∀ b o,b<W.heap.size→w1.cell? ⟨b,o,none⟩=W.cell? ⟨b,o,none⟩)∧(∀ b o,b<W.heap.size→w1.frozen? ⟨b,o,none⟩=W.frozen? ⟨b,o,none⟩) :=
 ⟨fun b o h=>hb.cell (p:=⟨b,o,none⟩) h,fun b o h=>hb.frozen (p:=⟨b,o,none⟩) h⟩
theorem kp_alloc {W0 w1:World}(h:Kp W0 w1)(o:Obj):Kp W0 (w1.alloc o):=kp_of (h.1.alloc h.1.size o)
theorem kp_realloc {W0 w1:World}{o:Obj}(h:Kp W0 (w1.alloc o))(hs:W0.heap.size≤w1.heap.size)(o':Obj):Kp W0 (w1.alloc o') :=
 kp_of ⟨h.1.os,h.1.tape,h.1.output,by simp;omega,fun k hk=>by
  have:=h.1.block k hk;rw [Below.heap_alloc w1 o k (by omega)] at this;rw [Below.heap_alloc w1 o' k (by omega)];exact this⟩
theorem kp_set {W0 w1:World}(h:Kp W0 w1)(p:Addr)(v:Value)(hp:W0.heap.size≤p.block):Kp W0 (w1.setCell p v):=kp_of (h.1.setCell hp v)
end Go.Proofs.YtgcinolbkllkkaaGreat
namespace Go.Proofs.YtgcinolbkllkkaaGreat
open Go.ChangeShapes Go.WideShapes Go.ChangeAt Go.RowKit
theorem l1In_any (n lo hi:Int)(w:World) :
  Calls Tryz.prog 27 #[.int .i64 n,.int .i64 lo,.int .i64 hi] w fun e w'=>e=.returned (.bool (M1.inB n lo hi))∧w'=w:=by
 unfold M1.inB;by_cases h1:lo≤n <;> by_cases h2:n≤hi
 all_goals
  go_enter Tryz.func27,Tryz.ntmps27
  go_wp2
  go_ret
  exact ⟨by simp [*],rfl⟩
theorem inRange_any (n lo hi:Int)(w:World) :
  Calls Tryz.prog 23 #[.int .i64 n,.int .i64 lo,.int .i64 hi] w fun e w'=>e=.returned (.bool (M1.inB n lo hi))∧w'=w:=by
 unfold M1.inB;by_cases h1:lo≤n <;> by_cases h2:n≤hi
 all_goals
  go_enter Tryz.func23,Tryz.ntmps23
  go_wp2
  go_ret
  exact ⟨by simp [*],rfl⟩
theorem timeOk_any (n:Int)(w:World) :
  Calls Tryz.prog 22 #[.int .i64 n] w fun e w'=>e=.returned (.bool (M1.inB n 0 1000000000))∧w'=w:=by
 go_enter Tryz.func22,Tryz.ntmps22
 go_wp2_with ((go_at_call 23;refine (inRange_any _ _ _ _).mono ?_;rintro e w' ⟨rfl,rfl⟩))
 go_ret
 exact ⟨rfl,rfl⟩
theorem stampOk_spec (a b c:Int)(w:World) :
  Calls Tryz.prog 58 #[.agg #[.int .i64 a,.int .i64 b,.int .i64 c]] w fun e w'=>e=.returned (.bool (M1.stOk a b c))∧Below w.heap.size w w':=by
 unfold M1.stOk;go_enter Tryz.func58,Tryz.ntmps58
 go_wp2_with ((go_at_call 27;refine (l1In_any _ _ _ _).mono ?_;rintro e w' ⟨rfl,rfl⟩))
 all_goals (go_ret)
 all_goals (exact ⟨by simp [*],(Below.refl _ _).alloc (Nat.le_refl _) _⟩)
theorem stampOk_impl (a b c:Int)(w:World) :
  Calls Tryz.prog 86 #[.agg #[.int .i64 a,.int .i64 b,.int .i64 c]] w fun e w'=>e=.returned (.bool (M1.stOk a b c))∧Below w.heap.size w w':=by
 unfold M1.stOk;go_enter Tryz.func86,Tryz.ntmps86
 go_wp2_with (first | (go_at_call 23;refine (inRange_any _ _ _ _).mono ?_;rintro e w' ⟨rfl,rfl⟩) | (go_at_call 22;refine (timeOk_any _ _).mono ?_;rintro e w' ⟨rfl,rfl⟩))
 all_goals (go_ret)
 all_goals (exact ⟨by simp [*],(Below.refl _ _).alloc (Nat.le_refl _) _⟩)
theorem ahead_spec (a b c x y z:Int)(w:World) :
  Calls Tryz.prog 92 #[.agg #[.int .i64 a,.int .i64 b,.int .i64 c],.agg #[.int .i64 x,.int .i64 y,.int .i64 z]] w fun e w'=>e=.returned (.bool (M1.aheadB a b c x y z))∧Below w.heap.size w w':=by
 unfold M1.aheadB;go_enter Tryz.func92,Tryz.ntmps92
 go_wp2
 all_goals (go_ret)
 all_goals (exact ⟨by simp_all,((Below.refl _ _).alloc (Nat.le_refl _) _).alloc (by simp) _⟩)
theorem ahead_impl (a b c x y z:Int)(w:World) :
  Calls Tryz.prog 64 #[.agg #[.int .i64 a,.int .i64 b,.int .i64 c],.agg #[.int .i64 x,.int .i64 y,.int .i64 z]] w fun e w'=>e=.returned (.bool (M1.aheadB a b c x y z))∧Below w.heap.size w w':=by
 unfold M1.aheadB;go_enter Tryz.func64,Tryz.ntmps64
 go_wp2
 all_goals (go_ret)
 all_goals (exact ⟨by simp_all,((Below.refl _ _).alloc (Nat.le_refl _) _).alloc (by simp) _⟩)
theorem next_spec (a b c now:Int)(w:World)(hb:0≤b∧b≤1000000) :
  Calls Tryz.prog 165 #[.agg #[.int .i64 a,.int .i64 b,.int .i64 c],.int .i64 now] w fun e w'=>e=.returned (.tuple #[.agg #[.int .i64 (M1.nextP a b c now).a,.int .i64 (M1.nextP a b c now).b,.int .i64 (M1.nextP a b c now).c],.bool (M1.nextP a b c now).ok])∧Below w.heap.size w w':=by
 obtain ⟨hb1,hb2⟩:=hb;by_cases h1:a<now
 ·have e1:M1.nextP a b c now=⟨now,0,c,true⟩:=by simp [M1.nextP,h1]
  rw [e1];clear e1;go_enter Tryz.func165,Tryz.ntmps165
  go_wp2
  refine bodyPost_ret (v:=.tuple #[.agg #[.int .i64 now,.int .i64 0,.int .i64 c],.bool true]) (by simp [results,Tryz.results165,go_sem]) rfl ⟨rfl,?_⟩;exact bZ
 ·by_cases h2:b=1000000
  ·have e1:M1.nextP a b c now=⟨0,0,0,false⟩:=by simp [M1.nextP,h1,h2]
   rw [e1];clear e1;subst h2;go_enter Tryz.func165,Tryz.ntmps165
   go_wp2
   refine bodyPost_ret (v:=.tuple #[.agg #[.int .i64 0,.int .i64 0,.int .i64 0],.bool false]) (by simp [results,Tryz.results165,go_sem]) rfl ⟨rfl,?_⟩;exact bZ
  ·have e1:M1.nextP a b c now=⟨a,b+1,c,true⟩:=by simp [M1.nextP,h1,h2]
   rw [e1];clear e1;have h3:(b==1000000)=false:=by simp [h2]
   go_enter Tryz.func165,Tryz.ntmps165
   go_wp2
   refine bodyPost_ret (v:=.tuple #[.agg #[.int .i64 a,.int .i64 (b+1),.int .i64 c],.bool true]) (by simp [results,Tryz.results165,go_sem]) rfl ⟨rfl,?_⟩;exact bZ
end Go.Proofs.YtgcinolbkllkkaaGreat
