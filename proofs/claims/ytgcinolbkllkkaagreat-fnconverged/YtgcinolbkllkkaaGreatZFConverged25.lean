/-
  Texts of one proof, joined: Is2, Is3, Is1, Is4, Is5.
-/
import Derived.Test.YtgcinolbkllkkaaGreatZFConverged23
set_option linter.unusedSimpArgs false
set_option linter.unusedVariables false
namespace M1
theorem lets_0 {us:List Upd}{o:OpV}(hk:¬o.k=3)(hk2:¬o.k=4):letsB us o=true:=by
 unfold letsB;rw [if_neg hk,if_neg hk2]
end M1
namespace Go.Proofs.YtgcinolbkllkkaaGreat
open Go.ChangeShapes Go.WideShapes Go.ChangeAt Go.RowKit
abbrev OpAt (w:World)(p:Nat)(x:M1.OpV):Prop:=RowAt w p 7 (fun o=>[.int .i64 x.k,.int .i64 x.t,.int .i64 x.id,.int .i64 x.pa,.string x.s,.int .i64 x.st,.int .i64 x.en].getD o undef)
theorem op_new (w:World)(x:M1.OpV)(t:TypeId):OpAt (w.alloc (.cells #[.int .i64 x.k,.int .i64 x.t,.int .i64 x.id,.int .i64 x.pa,.string x.s,.int .i64 x.st,.int .i64 x.en] t)) w.heap.size x :=
 (RowAt.new w #[.int .i64 x.k,.int .i64 x.t,.int .i64 x.id,.int .i64 x.pa,.string x.s,.int .i64 x.st,.int .i64 x.en] t).same fun o ho=>by
  match o,ho with
  | 0,_=>rfl
  | 1,_=>rfl
  | 2,_=>rfl
  | 3,_=>rfl
  | 4,_=>rfl
  | 5,_=>rfl
  | 6,_=>rfl
theorem OpAt.cells {w:World}{p:Nat}{x:M1.OpV}(h:OpAt w p x):w.cell? ⟨p,0,none⟩=some (.int .i64 x.k)∧w.cell? ⟨p,1,none⟩=some (.int .i64 x.t)∧w.cell? ⟨p,2,none⟩=some (.int .i64 x.id)∧w.cell? ⟨p,3,none⟩=some (.int .i64 x.pa)∧w.cell? ⟨p,4,none⟩=some (.string x.s)∧w.cell? ⟨p,5,none⟩=some (.int .i64 x.st)∧w.cell? ⟨p,6,none⟩=some (.int .i64 x.en):=⟨h.cell (o:=0) (by omega),h.cell (o:=1) (by omega),h.cell (o:=2) (by omega),h.cell (o:=3) (by omega),h.cell (o:=4) (by omega),h.cell (o:=5) (by omega),h.cell (o:=6) (by omega)⟩
end Go.Proofs.YtgcinolbkllkkaaGreat
namespace M1
theorem lvT_bd {us:List Upd}(h:setOk us=true)(t:Int):lvT us t≤1000000:=by
 have key:∀ k,k≤us.length→lvl (ofT 3 t us k)≤1000000:=by
  intro k
  induction k with
  | zero=>intro _;show (0:Int)≤1000000;omega
  | succ k ih =>
   intro hk;have ih:=ih (by omega);by_cases c:(up us k).k=3∧(up us k).tr=t
   ·rw [ofT_yes c,lvl_snoc]
    have hu:=okAt_ok (setOk_all h k (by omega));have:(up us k).lv≤1000000:=by
     unfold okU updB kindB at hu;rw [c.1] at hu;simp [inB] at hu
     omega
    omega
   ·rw [ofT_no c];exact ih
 exact key _ (Nat.le_refl _)
end M1
namespace Go.Proofs.YtgcinolbkllkkaaGreat
open Go.ChangeShapes Go.WideShapes Go.ChangeAt Go.RowKit
def u0 (r:M1.Rg)(x:M1.OpV)(a b c:Int)(n:Nat):M1.Upd:=⟨r.id,M1.lastN r.us n r.id+1,a,b,c,0,x.t,0,0,ByteArray.empty,0,0,0⟩
def nuV (r:M1.Rg)(x:M1.OpV)(a b c:Int)(n:Nat):M1.Upd:=if x.k=1 then ⟨r.id,M1.lastN r.us n r.id+1,a,b,c,1,x.t,x.id,x.pa,x.s,x.st,x.en,0⟩ else if x.k=2 then ⟨r.id,M1.lastN r.us n r.id+1,a,b,c,2,x.t,0,0,ByteArray.empty,0,0,0⟩ else ⟨r.id,M1.lastN r.us n r.id+1,a,b,c,3,x.t,0,0,ByteArray.empty,0,0,M1.lvT r.us x.t+1⟩
theorem nuV_nu {r:M1.Rg}{x:M1.OpV}{now:Int}:nuV r x (M1.tk r now).a (M1.tk r now).b (M1.tk r now).c r.us.length=M1.nuU r x now:=rfl
end Go.Proofs.YtgcinolbkllkkaaGreat
namespace M1
theorem zero_cases (id pa:Int)(s:ByteArray)(st en:Int):(id=0∧pa=0∧s.toList=[]∧st=0∧en=0)∨(id=0∧pa=0∧s.toList=[]∧st=0∧¬en=0)∨(id=0∧pa=0∧s.toList=[]∧¬st=0)∨(id=0∧pa=0∧¬s.toList=[])∨(id=0∧¬pa=0)∨¬id=0:=by
 by_cases h1:id=0
 ·by_cases h2:pa=0
  ·by_cases h3:s.toList=[]
   ·by_cases h4:st=0
    ·by_cases h5:en=0
     ·exact .inl ⟨h1,h2,h3,h4,h5⟩
     ·exact .inr (.inl ⟨h1,h2,h3,h4,h5⟩)
    ·exact .inr (.inr (.inl ⟨h1,h2,h3,h4⟩))
   ·exact .inr (.inr (.inr (.inl ⟨h1,h2,h3⟩)))
  ·exact .inr (.inr (.inr (.inr (.inl ⟨h1,h2⟩))))
 ·exact .inr (.inr (.inr (.inr (.inr h1))))
theorem opB_open (k t id pa:Int)(s:ByteArray)(st en:Int):opB ⟨k,t,id,pa,s,st,en⟩=(inB t 1 1000 && (if k=1 then spanB id pa s st en else inB k 2 4 && zeroB id pa s st en)):=rfl
end M1
namespace Go.Proofs.YtgcinolbkllkkaaGreat
open Go.ChangeShapes Go.WideShapes Go.ChangeAt Go.RowKit
set_option maxHeartbeats 16000000 in
theorem l5Form_any (k t id pa st en:Int)(s:ByteArray)(w:World)(hs:s.size≤maxLen) :
  Calls Tryz.prog 150 #[.agg #[.int .i64 k,.int .i64 t,.int .i64 id,.int .i64 pa,.string s,.int .i64 st,.int .i64 en]] w fun e w'=>e=.returned (.bool (M1.opB ⟨k,t,id,pa,s,st,en⟩))∧Below w.heap.size w w':=by
 have HB:=M1.opB_open k t id pa s st en;obtain ⟨B,hB⟩:∃ B,M1.opB ⟨k,t,id,pa,s,st,en⟩=B:=⟨_,rfl⟩
 rw [hB] at HB ⊢;clear hB;have HB':Hid (B=(M1.inB t 1 1000 && (if k=1 then M1.spanB id pa s st en else M1.inB k 2 4 && M1.zeroB id pa s st en))):=HB;clear HB
 cases ht:M1.inB t 1 1000 with
 | false =>
  go_enter Tryz.func150,Tryz.ntmps150
  go_wp2_with (go_at_call 27;refine (l1In_any _ _ _ _).mono ?_;(first | rw [ht] | rw [hk2]);rintro e w' ⟨rfl,rfl⟩)
  go_ret
  exact ⟨by rw [HB'.out,ht];rfl,by repeat (first | (with_reducible exact Below.refl _ _) | ((with_reducible refine Below.setCell ?_ ?_ _);rotate_left;(focus (first | omega | (simp;done) | (simp;omega)))) | ((with_reducible refine Below.alloc ?_ ?_ _);rotate_left;(focus (first | omega | (simp;done) | (simp;omega)))) | (with_reducible refine Below.drew ?_))⟩
 | true =>
  by_cases k1:k=1
  ·subst k1
   have hA:Below w.heap.size w ((w.alloc (.cells #[.int .i64 1,.int .i64 t,.int .i64 id,.int .i64 pa,.string s,.int .i64 st,.int .i64 en] 110)).alloc (.cells #[.int .i64 0,.int .i64 0,.string ByteArray.empty,.int .i64 0,.int .i64 0] 70)):=((Below.refl _ _).alloc (Nat.le_refl _) _).alloc (by simp) _;go_enter Tryz.func150,Tryz.ntmps150
   go_wp2_with ((go_at_call 27;refine (l1In_any _ _ _ _).mono ?_;(first | rw [ht] | rw [hk2]);rintro e w' ⟨rfl,rfl⟩))
   refine (spanOk_spec _ _ _ _ _ _ hs).mono ?_;rintro e w1 ⟨rfl,hb1⟩;go_wp2_with fail
   go_ret
   exact ⟨by rw [HB'.out,ht];rfl,hA.trans (hb1.mono hA.size)⟩
  ·have q1:(k==1)=false:=by simpa using k1
   by_cases hk:k=2∨k=3∨k=4
   ·have hk2:M1.inB k 2 4=true:=by simp [M1.inB];omega
    have E:Hid (B=M1.zeroB id pa s st en):=(by rw [HB'.out,ht,if_neg k1,hk2];rfl:B=M1.zeroB id pa s st en)
    clear hk
    all_goals (rcases M1.zero_cases id pa s st en with ⟨z1,z2,z3,z4,z5⟩ | ⟨z1,z2,z3,z4,z5⟩ | ⟨z1,z2,z3,z4⟩ | ⟨z1,z2,z3⟩ | ⟨z1,z2⟩ | z1)
    all_goals (go_enter Tryz.func150,Tryz.ntmps150)
    all_goals (go_wp2_with (go_at_call 27;refine (l1In_any _ _ _ _).mono ?_;(first | rw [ht] | rw [hk2]);rintro e w' ⟨rfl,rfl⟩))
    all_goals go_ret
    all_goals (refine ⟨by rw [E.out];simp [M1.zeroB, *],by repeat (first | (with_reducible exact Below.refl _ _) | ((with_reducible refine Below.setCell ?_ ?_ _);rotate_left;(focus (first | omega | (simp;done) | (simp;omega)))) | ((with_reducible refine Below.alloc ?_ ?_ _);rotate_left;(focus (first | omega | (simp;done) | (simp;omega)))) | (with_reducible refine Below.drew ?_))⟩)
   ·have hk2:M1.inB k 2 4=false:=by simp [M1.inB];omega
    have q2:(k==2)=false:=by simp;omega
    have q3:(k==3)=false:=by simp;omega
    have q4:(k==4)=false:=by simp;omega
    clear hk;go_enter Tryz.func150,Tryz.ntmps150
    go_wp2_with (go_at_call 27;refine (l1In_any _ _ _ _).mono ?_;(first | rw [ht] | rw [hk2]);rintro e w' ⟨rfl,rfl⟩)
    go_ret
    exact ⟨by rw [HB'.out,ht,if_neg k1,hk2];rfl,by repeat (first | (with_reducible exact Below.refl _ _) | ((with_reducible refine Below.setCell ?_ ?_ _);rotate_left;(focus (first | omega | (simp;done) | (simp;omega)))) | ((with_reducible refine Below.alloc ?_ ?_ _);rotate_left;(focus (first | omega | (simp;done) | (simp;omega)))) | (with_reducible refine Below.drew ?_))⟩
theorem mu_put13 {w:World}{av:Option Addr}{n cap lo hi z:Nat}{f:Nat→Value}(h:MU w av n cap lo hi f)(hz:z<lo)(u:M1.Upd):MU (((((((((((((w.setCell ⟨z,0,none⟩ (.int .i64 u.dr)).setCell ⟨z,1,none⟩ (.int .i64 u.dn)).setCell ⟨z,2,none⟩ (.int .i64 u.sw)).setCell ⟨z,3,none⟩ (.int .i64 u.sc)).setCell ⟨z,4,none⟩ (.int .i64 u.sr)).setCell ⟨z,5,none⟩ (.int .i64 u.k)).setCell ⟨z,6,none⟩ (.int .i64 u.tr)).setCell ⟨z,7,none⟩ (.int .i64 u.id)).setCell ⟨z,8,none⟩ (.int .i64 u.pa)).setCell ⟨z,9,none⟩ (.string u.s)).setCell ⟨z,10,none⟩ (.int .i64 u.st)).setCell ⟨z,11,none⟩ (.int .i64 u.en)).setCell ⟨z,12,none⟩ (.int .i64 u.lv)) av n cap lo hi f :=
 ⟨h.1,h.2.1,h.2.2.imp (fun h=>h) fun ⟨k,e,h3,h4,r⟩=>⟨k,e,h3,h4,far13 r (by omega) u⟩⟩
theorem nuV_s {r:M1.Rg}{x:M1.OpV}{a b c:Int}{n:Nat}(h:x.s.size≤maxLen):(nuV r x a b c n).s.size≤maxLen:=by
 unfold nuV
 split
 ·exact h
 ·split <;> exact Nat.zero_le _
end Go.Proofs.YtgcinolbkllkkaaGreat
namespace M1
theorem is_cases (r:Rg)(o:OpV)(now:Int):(rOk r=false∧isC r o now=1∧isR r o now=zeroR∧isU r o now=zeroU)∨(rOk r=true∧(isC r o now=2∨isC r o now=3∨isC r o now=4∨isC r o now=5)∧isR r o now=r∧isU r o now=zeroU)∨(rOk r=true∧isC r o now=0∧isR r o now=isN r o now∧isU r o now=nuU r o now∧tOk r.us [nuU r o now]=true):=by
 cases q:rOk r with
 | false=>exact .inl ⟨rfl,is_1 q⟩
 | true =>
  cases q2:isF o now with
  | true=>have:=is_2 q q2;exact .inr (.inl ⟨rfl,.inl this.1,this.2⟩)
  | false =>
   cases q3:letsB r.us o with
   | false=>have:=is_5 q q2 q3;exact .inr (.inl ⟨rfl,.inr (.inr (.inr this.1)),this.2⟩)
   | true =>
    cases q4:(tk r now).ok with
    | false=>have:=is_4 q q2 q3 q4;exact .inr (.inl ⟨rfl,.inr (.inr (.inl this.1)),this.2⟩)
    | true =>
     cases q5:tOk r.us [nuU r o now] with
     | false=>have:=is_3 q q2 q3 q4 q5;exact .inr (.inl ⟨rfl,.inr (.inl this.1),this.2⟩)
     | true=>have:=is_0 q q2 q3 q4 q5;exact .inr (.inr ⟨rfl,this.1,this.2.1,this.2.2,rfl⟩)
end M1
namespace Go.Proofs.YtgcinolbkllkkaaGreat
open Go.ChangeShapes Go.WideShapes Go.ChangeAt Go.RowKit
theorem far5 {w:World}{k m z:Nat}{f:Nat→Value}(h:RowAt w k m f)(hn:¬z=k)(v0 v1 v2 v3 v4:Value):RowAt (((((w.setCell ⟨z,0,none⟩ (v0)).setCell ⟨z,1,none⟩ (v1)).setCell ⟨z,2,none⟩ (v2)).setCell ⟨z,3,none⟩ (v3)).setCell ⟨z,4,none⟩ (v4)) k m f :=
 ((((h.far (p:=⟨z,0,none⟩) hn v0).far (p:=⟨z,1,none⟩) hn v1).far (p:=⟨z,2,none⟩) hn v2).far (p:=⟨z,3,none⟩) hn v3).far (p:=⟨z,4,none⟩) hn v4
theorem sz13 (w:World)(z:Nat)(u:M1.Upd):w.heap.size≤(((((((((((((w.setCell ⟨z,0,none⟩ (.int .i64 u.dr)).setCell ⟨z,1,none⟩ (.int .i64 u.dn)).setCell ⟨z,2,none⟩ (.int .i64 u.sw)).setCell ⟨z,3,none⟩ (.int .i64 u.sc)).setCell ⟨z,4,none⟩ (.int .i64 u.sr)).setCell ⟨z,5,none⟩ (.int .i64 u.k)).setCell ⟨z,6,none⟩ (.int .i64 u.tr)).setCell ⟨z,7,none⟩ (.int .i64 u.id)).setCell ⟨z,8,none⟩ (.int .i64 u.pa)).setCell ⟨z,9,none⟩ (.string u.s)).setCell ⟨z,10,none⟩ (.int .i64 u.st)).setCell ⟨z,11,none⟩ (.int .i64 u.en)).setCell ⟨z,12,none⟩ (.int .i64 u.lv)).heap.size:=(bel_put (Below.refl 0 w) (Nat.zero_le z) u).size
theorem mu_low {w:World}{av:Option Addr}{n cap lo lo' hi:Nat}{f:Nat→Value}(h:MU w av n cap lo hi f)(hl:lo'≤lo):MU w av n cap lo' hi f :=
 ⟨h.1,h.2.1,h.2.2.imp (fun h=>h) fun ⟨g,e,h1,h2,r⟩=>⟨g,e,by omega,h2,r⟩⟩
theorem mu_high {w:World}{av:Option Addr}{n cap lo hi hi':Nat}{f:Nat→Value}(h:MU w av n cap lo hi f)(hl:hi≤hi'):MU w av n cap lo hi' f :=
 ⟨h.1,h.2.1,h.2.2.imp (fun h=>h) fun ⟨g,e,h1,h2,r⟩=>⟨g,e,h1,by omega,r⟩⟩
theorem mu_both {w:World}{av:Option Addr}{n cap lo z y:Nat}{f:Nat→Value}(h:MU w av n cap lo w.heap.size f)(hz:∀ q,av=some q→¬q.block=z)(hy:y<lo)(v0 v1 v2 v3 v4:Value)(u:M1.Upd):MU ((((((((((((((((((w.setCell ⟨z,0,none⟩ (v0)).setCell ⟨z,1,none⟩ (v1)).setCell ⟨z,2,none⟩ (v2)).setCell ⟨z,3,none⟩ (v3)).setCell ⟨z,4,none⟩ (v4)).setCell ⟨y,0,none⟩ (.int .i64 u.dr)).setCell ⟨y,1,none⟩ (.int .i64 u.dn)).setCell ⟨y,2,none⟩ (.int .i64 u.sw)).setCell ⟨y,3,none⟩ (.int .i64 u.sc)).setCell ⟨y,4,none⟩ (.int .i64 u.sr)).setCell ⟨y,5,none⟩ (.int .i64 u.k)).setCell ⟨y,6,none⟩ (.int .i64 u.tr)).setCell ⟨y,7,none⟩ (.int .i64 u.id)).setCell ⟨y,8,none⟩ (.int .i64 u.pa)).setCell ⟨y,9,none⟩ (.string u.s)).setCell ⟨y,10,none⟩ (.int .i64 u.st)).setCell ⟨y,11,none⟩ (.int .i64 u.en)).setCell ⟨y,12,none⟩ (.int .i64 u.lv)) av n cap lo ((((((((((((((((((w.setCell ⟨z,0,none⟩ (v0)).setCell ⟨z,1,none⟩ (v1)).setCell ⟨z,2,none⟩ (v2)).setCell ⟨z,3,none⟩ (v3)).setCell ⟨z,4,none⟩ (v4)).setCell ⟨y,0,none⟩ (.int .i64 u.dr)).setCell ⟨y,1,none⟩ (.int .i64 u.dn)).setCell ⟨y,2,none⟩ (.int .i64 u.sw)).setCell ⟨y,3,none⟩ (.int .i64 u.sc)).setCell ⟨y,4,none⟩ (.int .i64 u.sr)).setCell ⟨y,5,none⟩ (.int .i64 u.k)).setCell ⟨y,6,none⟩ (.int .i64 u.tr)).setCell ⟨y,7,none⟩ (.int .i64 u.id)).setCell ⟨y,8,none⟩ (.int .i64 u.pa)).setCell ⟨y,9,none⟩ (.string u.s)).setCell ⟨y,10,none⟩ (.int .i64 u.st)).setCell ⟨y,11,none⟩ (.int .i64 u.en)).setCell ⟨y,12,none⟩ (.int .i64 u.lv)).heap.size f :=
 mu_high (mu_put13 (mu_put5 h hz v0 v1 v2 v3 v4) hy u) (sz13 _ y u)
def IsS (w w':World)(e:Ending)(r:M1.Rg)(x:M1.OpV)(now:Int):Prop:=∃ v,e=.returned (.tuple #[v,.agg #[.int .i64 (M1.isU r x now).dr,.int .i64 (M1.isU r x now).dn,.int .i64 (M1.isU r x now).sw,.int .i64 (M1.isU r x now).sc,.int .i64 (M1.isU r x now).sr,.int .i64 (M1.isU r x now).k,.int .i64 (M1.isU r x now).tr,.int .i64 (M1.isU r x now).id,.int .i64 (M1.isU r x now).pa,.string (M1.isU r x now).s,.int .i64 (M1.isU r x now).st,.int .i64 (M1.isU r x now).en,.int .i64 (M1.isU r x now).lv],.int .i64 (M1.isC r x now)])∧RgD w w' v (M1.isR r x now)
end Go.Proofs.YtgcinolbkllkkaaGreat
