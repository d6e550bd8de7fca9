/-
  Texts of one proof, joined: LevelS, Math36, Math37, Math39.
-/
import Derived.Test.YtgcinolbkllkkaaGreatZFConverged22
import Derived.Test.YtgcinolbkllkkaaGreatZFConverged16
set_option linter.unusedSimpArgs false
set_option linter.unusedVariables false
namespace M1
theorem lvl_nonneg:∀ xs:List Upd,0≤lvl xs:=by
 intro xs;unfold lvl;have key:∀ (xs:List Upd) (m:Int),0≤m→0≤xs.foldl (fun m u=>max m u.lv) m:=by
  intro xs
  induction xs with
  | nil=>intro m h;exact h
  | cons u r ih=>intro m h;exact ih _ (by show (0:Int)≤max m u.lv;omega)
 exact key xs 0 (by omega)
def evenB (n:Int):Bool:=n % 2==0
def keptB (us:List Upd)(tr:Int):Bool:=setOk us && !(ofT 2 tr us us.length).isEmpty
theorem ofT_grow {kd tr:Int}{us:List Upd}{k:Nat}(h:ofT kd tr us k≠[]):∀ m,ofT kd tr us (k+m)≠[]
 | 0=>h
 | m+1=>by
  have:=ofT_grow h m;show ofT kd tr us (k+m+1)≠[]
  by_cases hq:(up us (k+m)).k=kd∧(up us (k+m)).tr=tr
  ·rw [ofT_yes hq];simp
  ·rw [ofT_no hq];exact this
theorem ofT_some {kd tr:Int}{us:List Upd}{k n:Nat}(h:ofT kd tr us k≠[])(hk:k≤n):ofT kd tr us n≠[]:=by
 have:=ofT_grow h (n-k)
 rwa [show k+(n-k)=n from by omega] at this
end M1
namespace Go.Proofs.YtgcinolbkllkkaaGreat
open Go.ChangeShapes Go.WideShapes Go.ChangeAt Go.RowKit
set_option maxHeartbeats 16000000 in
theorem l4Level_any (av:Option Addr)(n cn:Nat)(us:List M1.Upd)(tr:Int)(w:World)(h1:IsUpds w av n cn us) :
  Calls Tryz.prog 151 #[.slice av n cn,.int .i64 tr] w fun e w'=>e=.returned (.int .i64 (M1.lvl (M1.ofT 3 tr us n)))∧w'=w:=by
 have hm1:=h1.hcap;have hm2:=h1.hmost;unfold maxLen at hm2;go_enter Tryz.func151,Tryz.ntmps151
 go_wp2_with fail
 go_loopw [5,6] (fun m i wr=>∃ k:Nat,k≤n∧i=.int .i64 k∧wr=w∧m=.int .i64 (M1.lvl (M1.ofT 3 tr us k))) (fun _ i _=>n-(intOf i).toNat)
 case atStart=>exact ⟨0,Nat.zero_le _,rfl,rfl,rfl⟩
 case round =>
  obtain ⟨k,hk,rfl,rfl,rfl⟩:=hrel;by_cases hlt:k<n
  ·rcases h1.hlies with h0 | ⟨b,off,rfl,hb,hc⟩
   ·omega
   obtain ⟨c0,c1,c2,c3,c4,c5,c6,c7,c8,c9,c10,c11,c12⟩:=hc k hlt;clear hc;have i0:(0:Int)≤(k:Int):=by omega
   have i1:(k:Int)<(n:Int):=by omega
   by_cases hq:(M1.up us k).k=3∧(M1.up us k).tr=tr
   ·have q1:((M1.up us k).k==3)=true:=by simp [hq.1]
    have q2:((M1.up us k).tr==tr)=true:=by simp [hq.2]
    have HT:Hid (M1.ofT 3 tr us (k+1)=M1.ofT 3 tr us k ++ [M1.up us k]):=M1.ofT_yes hq;clear hq;go_wp2_with fail
    all_goals (exact ⟨⟨k+1,by omega,by go_num,by first | trivial | rfl,by rw [HT.out,M1.lvl_snoc];first | done | (congr 1;done) | (congr 1;omega)⟩,by simp [intOf];omega⟩)
   ·have HT:Hid (M1.ofT 3 tr us (k+1)=M1.ofT 3 tr us k):=M1.ofT_no hq
    by_cases hq1:(M1.up us k).k=3
    ·have q1:((M1.up us k).k==3)=true:=by simp [hq1]
     have q2:((M1.up us k).tr==tr)=false:=by simp;exact fun e=>hq ⟨hq1,e⟩
     clear hq hq1;go_wp2_with fail
     exact ⟨⟨k+1,by omega,by go_num,by first | trivial | rfl,by rw [HT.out]⟩,by simp [intOf];omega⟩
    ·have q1:((M1.up us k).k==3)=false:=by simp [hq1]
     clear hq hq1;go_wp2_with fail
     exact ⟨⟨k+1,by omega,by go_num,by first | trivial | rfl,by rw [HT.out]⟩,by simp [intOf];omega⟩
  ·obtain rfl:k=n:=by omega
   go_wp2_with fail
   go_ret
   exact ⟨rfl,rfl⟩
end Go.Proofs.YtgcinolbkllkkaaGreat
namespace M1
structure OpV where
 k:Int
 t:Int
 id:Int
 pa:Int
 s:ByteArray
 st:Int
 en:Int
def opB (o:OpV):Bool:=inB o.t 1 1000 && (if o.k=1 then spanB o.id o.pa o.s o.st o.en else inB o.k 2 4 && zeroB o.id o.pa o.s o.st o.en)
def isF (o:OpV)(now:Int):Bool:=!(inB now 0 1000000000) || !(opB o)
theorem isF_1 {o:OpV}{now:Int}(h:inB now 0 1000000000=false):isF o now=true:=by simp [isF,h]
theorem isF_2 {o:OpV}{now:Int}(h:opB o=false):isF o now=true:=by simp [isF,h]
theorem isF_0 {o:OpV}{now:Int}(h:inB now 0 1000000000=true)(h2:opB o=true):isF o now=false:=by simp [isF,h,h2]
def lvT (us:List Upd)(t:Int):Int:=lvl (ofT 3 t us us.length)
def letsB (us:List Upd)(o:OpV):Bool:=if o.k=3 then evenB (lvT us o.t) else if o.k=4 then !evenB (lvT us o.t) else true
def tk (r:Rg)(now:Int):St:=tickP r.a r.b r.c now
def nuU (r:Rg)(o:OpV)(now:Int):Upd :=
 if o.k=1 then ⟨r.id,lastN r.us r.us.length r.id+1,(tk r now).a,(tk r now).b,(tk r now).c,1,o.t,o.id,o.pa,o.s,o.st,o.en,0⟩
 else if o.k=2 then ⟨r.id,lastN r.us r.us.length r.id+1,(tk r now).a,(tk r now).b,(tk r now).c,2,o.t,0,0,ByteArray.empty,0,0,0⟩
 else ⟨r.id,lastN r.us r.us.length r.id+1,(tk r now).a,(tk r now).b,(tk r now).c,3,o.t,0,0,ByteArray.empty,0,0,lvT r.us o.t+1⟩
theorem nuU_dot (r:Rg)(o:OpV)(now:Int):(nuU r o now).dr=r.id∧(nuU r o now).dn=lastN r.us r.us.length r.id+1∧(nuU r o now).sw=(tk r now).a∧(nuU r o now).sc=(tk r now).b∧(nuU r o now).sr=(tk r now).c:=by
 unfold nuU
 split
 ·exact ⟨rfl,rfl,rfl,rfl,rfl⟩
 ·split <;> exact ⟨rfl,rfl,rfl,rfl,rfl⟩
theorem nuU_1 {r:Rg}{o:OpV}{now:Int}(h:o.k=1):nuU r o now=⟨r.id,lastN r.us r.us.length r.id+1,(tk r now).a,(tk r now).b,(tk r now).c,1,o.t,o.id,o.pa,o.s,o.st,o.en,0⟩:=by
 unfold nuU;rw [if_pos h]
theorem nuU_2 {r:Rg}{o:OpV}{now:Int}(h:o.k=2):nuU r o now=⟨r.id,lastN r.us r.us.length r.id+1,(tk r now).a,(tk r now).b,(tk r now).c,2,o.t,0,0,ByteArray.empty,0,0,0⟩:=by
 unfold nuU;rw [if_neg (by omega),if_pos h]
theorem nuU_3 {r:Rg}{o:OpV}{now:Int}(h:¬o.k=1)(h2:¬o.k=2):nuU r o now=⟨r.id,lastN r.us r.us.length r.id+1,(tk r now).a,(tk r now).b,(tk r now).c,3,o.t,0,0,ByteArray.empty,0,0,lvT r.us o.t+1⟩:=by
 unfold nuU;rw [if_neg h,if_neg h2]
def isC (r:Rg)(o:OpV)(now:Int):Int :=
 if rOk r=true then if isF o now=true then 2 else if letsB r.us o=true then if (tk r now).ok=true then if tOk r.us [nuU r o now]=true then 0 else 3 else 4 else 5 else 1
def isN (r:Rg)(o:OpV)(now:Int):Rg:=⟨r.id,(tk r now).a,(tk r now).b,(tk r now).c,insD r.us (nuU r o now)⟩
def isR (r:Rg)(o:OpV)(now:Int):Rg :=
 if isC r o now=0 then isN r o now else if isC r o now=1 then zeroR else r
def isU (r:Rg)(o:OpV)(now:Int):Upd:=if isC r o now=0 then nuU r o now else zeroU
theorem is_1 {r:Rg}{o:OpV}{now:Int}(h:rOk r=false):isC r o now=1∧isR r o now=zeroR∧isU r o now=zeroU:=by
 have e:isC r o now=1:=by unfold isC;rw [h];rfl
 unfold isR isU;rw [e];exact ⟨rfl,rfl,rfl⟩
theorem is_2 {r:Rg}{o:OpV}{now:Int}(h:rOk r=true)(h2:isF o now=true):isC r o now=2∧isR r o now=r∧isU r o now=zeroU:=by
 have e:isC r o now=2:=by unfold isC;rw [h,h2];rfl
 unfold isR isU;rw [e];exact ⟨rfl,rfl,rfl⟩
theorem is_5 {r:Rg}{o:OpV}{now:Int}(h:rOk r=true)(h2:isF o now=false)(h3:letsB r.us o=false):isC r o now=5∧isR r o now=r∧isU r o now=zeroU:=by
 have e:isC r o now=5:=by unfold isC;rw [h,h2,h3];rfl
 unfold isR isU;rw [e];exact ⟨rfl,rfl,rfl⟩
theorem is_4 {r:Rg}{o:OpV}{now:Int}(h:rOk r=true)(h2:isF o now=false)(h3:letsB r.us o=true)(h4:(tk r now).ok=false):isC r o now=4∧isR r o now=r∧isU r o now=zeroU:=by
 have e:isC r o now=4:=by unfold isC;rw [h,h2,h3,h4];rfl
 unfold isR isU;rw [e];exact ⟨rfl,rfl,rfl⟩
theorem is_3 {r:Rg}{o:OpV}{now:Int}(h:rOk r=true)(h2:isF o now=false)(h3:letsB r.us o=true)(h4:(tk r now).ok=true)(h5:tOk r.us [nuU r o now]=false):isC r o now=3∧isR r o now=r∧isU r o now=zeroU:=by
 have e:isC r o now=3:=by unfold isC;rw [h,h2,h3,h4,h5];rfl
 unfold isR isU;rw [e];exact ⟨rfl,rfl,rfl⟩
theorem is_0 {r:Rg}{o:OpV}{now:Int}(h:rOk r=true)(h2:isF o now=false)(h3:letsB r.us o=true)(h4:(tk r now).ok=true)(h5:tOk r.us [nuU r o now]=true):isC r o now=0∧isR r o now=isN r o now∧isU r o now=nuU r o now:=by
 have e:isC r o now=0:=by unfold isC;rw [h,h2,h3,h4,h5];rfl
 unfold isR isU;rw [e];exact ⟨rfl,rfl,rfl⟩
theorem rOk_all {r:Rg}(h:rOk r=true):inB r.id 1 5=true∧stOk r.a r.b r.c=true∧r.c=r.id∧setOk r.us=true∧noneLater r.us r.a r.b=true:=by
 unfold rOk regOk at h;simp at h;exact ⟨h.1.1.1.1,h.1.1.1.2,h.1.1.2,h.1.2,h.2⟩
theorem nu_new {r:Rg}{o:OpV}{now:Int}(h:rOk r=true):∀ x∈r.us,¬(x.dr=(nuU r o now).dr∧x.dn=(nuU r o now).dn):=fun x hx e=>by
 obtain ⟨d1,d2,_⟩:=nuU_dot r o now;rw [d1,d2] at e;obtain ⟨i,hi,rfl⟩:=mem_up hx;have:=lastN_ge (setOk_all (rOk_set h)) r.us.length hi (Nat.le_refl _);rw [e.1] at this;omega
theorem nu_set {r:Rg}{o:OpV}{now:Int}(h:rOk r=true):tOk r.us [nuU r o now]=setOk (insD r.us (nuU r o now))∧(tOk r.us [nuU r o now]=true→tL r.us [nuU r o now]=insD r.us (nuU r o now)):=by
 have hs:=rOk_set h
 cases hu:okU (nuU r o now) with
 | true =>
  obtain ⟨d1,d2,_⟩:=nuU_dot r o now;obtain ⟨e1,e5,_,_⟩:=okU_dot hu;have hl:=(LInv.start (setOk_all hs)).fm (ok_sorted (setOk_all hs)) e1 e5;have e:=tO_one hs hu;rw [if_pos (by rw [hl,d1,d2])] at e
  cases c:setOk (insD r.us (nuU r o now)) with
  | true =>
   have:=t_yes (one_pre hs hu) (by rw [e];exact c);rw [e] at this;exact ⟨this.1,fun _=>this.2⟩
  | false =>
   have:=t_not (xs:=r.us) (ys:=[nuU r o now]) (by rw [e];exact c);exact ⟨this.1,fun q=>by rw [this.1] at q;cases q⟩
 | false =>
  have a:tOk r.us [nuU r o now]=false:=by
   unfold tOk tpre;rw [allR_no (ys:=[nuU r o now]) (j:=0) (by simp) hu];simp
  refine ⟨?_,fun q=>by rw [a] at q;cases q⟩;rw [a]
  cases c:setOk (insD r.us (nuU r o now)) with
  | false=>rfl
  | true =>
   have hm:nuU r o now∈insD r.us (nuU r o now):=(insD_new (nu_new h)).mem_iff.2 (List.mem_cons_self ..);obtain ⟨i,hi,ei⟩:=mem_up hm;have:=okAt_ok (setOk_all c i hi);rw [ei,hu] at this;cases this
theorem tick_all {r:Rg}{now:Int}(h:rOk r=true)(h4:(tk r now).ok=true):stOk (tk r now).a (tk r now).b (tk r now).c=true∧(tk r now).c=r.id∧(r.a<(tk r now).a∨((tk r now).a=r.a∧r.b<(tk r now).b)):=by
 obtain ⟨_,hst,hc,_,_⟩:=rOk_all h;unfold tk tickP at h4 ⊢;by_cases c:stOk r.a r.b r.c=true∧inB now 0 1000000000=true
 ·rw [if_pos c] at h4 ⊢
  have:=next_props c.1 c.2 h4;exact ⟨this.2.2.2.1,by rw [this.2.2.1,hc],this.2.2.2.2⟩
 ·rw [if_neg c] at h4;cases h4
theorem nu_reg {r:Rg}{o:OpV}{now:Int}(h:rOk r=true)(h4:(tk r now).ok=true):rOk (isN r o now)=tOk r.us [nuU r o now]:=by
 obtain ⟨hid,hst,hc,hs,hl⟩:=rOk_all h;obtain ⟨t1,t2,t3⟩:=tick_all h h4;rw [(nu_set h).1];show regOk r.id (tk r now).a (tk r now).b (tk r now).c (insD r.us (nuU r o now))=_
 cases c:setOk (insD r.us (nuU r o now)) with
 | false=>exact regOk_4 c
 | true =>
  rw [regOk_5 hid t1 t2 c];refine noneLater_yes fun j hj=>?_;rcases insD_mem (up_mem hj) with q | q
  ·obtain ⟨i,hi,ei⟩:=mem_up q
   have:=noneLater_all hl i hi;rw [←ei];simp [laterB] at this ⊢
   omega
  ·rw [q]
   obtain ⟨_,_,d3,d4,_⟩:=nuU_dot r o now;rw [d3,d4];simp [laterB]
def le2 (a b x y:Int):Prop:=a<x∨(x=a∧b≤y)
theorem le2.trans {a b c d e f:Int}(h:le2 a b c d)(k:le2 c d e f):le2 a b e f:=by
 unfold le2 at *;omega
def inU (us:List Upd)(u:Upd):Bool:=(List.range us.length).any fun j=>ueq (up us j) u
theorem inU_yes {us:List Upd}{u:Upd}{j:Nat}(hj:j<us.length)(h:ueq (up us j) u=true):inU us u=true:=by
 simp [inU];exact ⟨j,hj,h⟩
theorem inU_no {us:List Upd}{u:Upd}(h:∀ j,j<us.length→ueq (up us j) u=false):inU us u=false:=by
 simp [inU];exact h
def allIn (l us:List Upd):Bool:=(List.range l.length).all fun i=>inU us (up l i)
theorem allIn_yes {l us:List Upd}(h:∀ i,i<l.length→inU us (up l i)=true):allIn l us=true:=by
 simp [allIn];exact h
theorem allIn_no {l us:List Upd}{i:Nat}(hi:i<l.length)(h:inU us (up l i)=false):allIn l us=false:=by
 simp [allIn];exact ⟨i,hi,h⟩
def regsB (rs:List Rg):Nat→Bool
 | 0=>true
 | k+1=>regsB rs k && (decide ((rgA rs k).id=(k:Int)+1) && rOk (rgA rs k))
theorem regsB_no {rs:List Rg}{k:Nat}(h:regsB rs k=false):∀ j,regsB rs (k+j)=false
 | 0=>h
 | j+1=>by show (regsB rs (k+j) && _)=false;rw [regsB_no h j];rfl
theorem regsB_fail {rs:List Rg}{k n:Nat}(h:regsB rs k=false)(hk:k≤n):regsB rs n=false:=by
 have:=regsB_no h (n-k);rwa [show k+(n-k)=n by omega] at this
theorem regsB_at {rs:List Rg}{n:Nat}(h:regsB rs n=true):∀ i,i<n→(rgA rs i).id=(i:Int)+1∧rOk (rgA rs i)=true:=fun i hi=>by
 cases q:regsB rs (i+1) with
 | false=>rw [regsB_fail q (by omega)] at h;cases h
 | true =>
  unfold regsB at q;simp at q
  exact q.2
def uni (rs:List Rg):Nat→Option (List Upd)
 | 0=>some []
 | k+1=>match uni rs k with
  | none=>none
  | some l=>if jOk l (rgA rs k).us=true then some (jL l (rgA rs k).us) else none
theorem uni_yes {rs:List Rg}{k:Nat}{l:List Upd}(h:uni rs k=some l)(hj:jOk l (rgA rs k).us=true):uni rs (k+1)=some (jL l (rgA rs k).us):=by
 unfold uni;rw [h];simp [hj]
theorem uni_no {rs:List Rg}{k:Nat}{l:List Upd}(h:uni rs k=some l)(hj:jOk l (rgA rs k).us=false):uni rs (k+1)=none:=by
 unfold uni;rw [h];simp [hj]
theorem uni_none {rs:List Rg}{k:Nat}(h:uni rs k=none):∀ j,uni rs (k+j)=none
 | 0=>h
 | j+1=>by show (match uni rs (k+j) with | none=>none | some l=>if jOk l (rgA rs (k+j)).us=true then some (jL l (rgA rs (k+j)).us) else none)=none;rw [uni_none h j]
theorem uni_fail {rs:List Rg}{k n:Nat}(h:uni rs k=none)(hk:k≤n):uni rs n=none:=by
 have:=uni_none h (n-k);rwa [show k+(n-k)=n by omega] at this
theorem uni_set {rs:List Rg}:∀ {k:Nat} {l:List Upd},uni rs k=some l→setOk l=true
 | 0,l,h=>by unfold uni at h;injection h with h;rw [←h];rfl
 | k+1,l,h=>by
  cases q:uni rs k with
  | none=>rw [uni_fail q (Nat.le_succ k)] at h;cases h
  | some m =>
   cases c:jOk m (rgA rs k).us with
   | false=>rw [uni_no q c] at h;cases h
   | true =>
    rw [uni_yes q c] at h;injection h with h;rw [←h];unfold jL;rw [if_pos c];exact (jOk_true c).2
def ownB (rs:List Rg)(n:Nat)(u:Upd):Bool:=decide (u.dr≤(n:Int)) && inU (rgA rs (u.dr-1).toNat).us u
def ownsB (rs:List Rg)(n:Nat)(l:List Upd):Bool:=(List.range l.length).all fun i=>ownB rs n (up l i)
theorem ownsB_yes {rs:List Rg}{n:Nat}{l:List Upd}(h:∀ i,i<l.length→ownB rs n (up l i)=true):ownsB rs n l=true:=by
 simp [ownsB];exact h
theorem ownsB_no {rs:List Rg}{n:Nat}{l:List Upd}{i:Nat}(hi:i<l.length)(h:ownB rs n (up l i)=false):ownsB rs n l=false:=by
 simp [ownsB];exact ⟨i,hi,h⟩
def wAll (rs:List Rg)(n:Nat):Option (List Upd):=if regsB rs n=true then (match uni rs n with | none=>none | some l=>if ownsB rs n l=true then some l else none) else none
def mailB (n:Nat)(all:List Upd)(m:Ml):Bool:=inB m.fr 1 n && (inB m.tt 1 n && (!(m.fr==m.tt) && (if m.ask=true then vecOk m.vec && decide (m.del.length=0) else decide (m.vec.length=0) && (decide (1≤m.del.length∧m.del.length≤3) && allIn m.del all))))
def mailsB (n:Nat)(all:List Upd)(ms:List Ml):Bool:=(List.range ms.length).all fun i=>mailB n all (mlA ms i)
theorem mailsB_yes {n:Nat}{all:List Upd}{ms:List Ml}(h:∀ i,i<ms.length→mailB n all (mlA ms i)=true):mailsB n all ms=true:=by
 simp [mailsB];exact h
theorem mailsB_no {n:Nat}{all:List Upd}{ms:List Ml}{i:Nat}(hi:i<ms.length)(h:mailB n all (mlA ms i)=false):mailsB n all ms=false:=by
 simp [mailsB];exact ⟨i,hi,h⟩
def wHead (now:Int)(n m:Nat):Bool:=inB now 0 1000000000 && (inB n 2 5 && decide (m≤40))
def wOk (now:Int)(rs:List Rg)(ms:List Ml):Bool:=wHead now rs.length ms.length && (match wAll rs rs.length with | none=>false | some l=>mailsB rs.length l ms)
theorem wOk_1 {now:Int}{rs:List Rg}{ms:List Ml}(h:wHead now rs.length ms.length=false):wOk now rs ms=false:=by unfold wOk;rw [h];rfl
theorem wOk_2 {now:Int}{rs:List Rg}{ms:List Ml}(h:wHead now rs.length ms.length=true)(h2:wAll rs rs.length=none):wOk now rs ms=false:=by unfold wOk;rw [h,h2];rfl
theorem wOk_3 {now:Int}{rs:List Rg}{ms:List Ml}{l:List Upd}(h:wHead now rs.length ms.length=true)(h2:wAll rs rs.length=some l):wOk now rs ms=mailsB rs.length l ms:=by unfold wOk;rw [h,h2];rfl
theorem wAll_1 {rs:List Rg}{n:Nat}(h:regsB rs n=false):wAll rs n=none:=by unfold wAll;rw [h];rfl
theorem wAll_2 {rs:List Rg}{n:Nat}(h:uni rs n=none):wAll rs n=none:=by unfold wAll;rw [h];split <;> rfl
theorem wAll_3 {rs:List Rg}{n:Nat}{l:List Upd}(h:uni rs n=some l)(h2:ownsB rs n l=false):wAll rs n=none:=by unfold wAll;rw [h];split <;> simp [h2]
theorem wAll_0 {rs:List Rg}{n:Nat}{l:List Upd}(h0:regsB rs n=true)(h:uni rs n=some l)(h2:ownsB rs n l=true):wAll rs n=some l:=by unfold wAll;rw [h0,h];simp [h2]
end M1
