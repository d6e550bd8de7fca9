/-
  Texts of one proof, joined: Vec1, Row, Set1, Span1, Span2, ToUpdS.
-/
import Derived.Test.YtgcinolbkllkkaaGreatZFConverged00
import Derived.Deep.RegionHeld3
import Derived.Deep.DrawnRows
import Derived.Deep.DeepCutAuto
import Derived.Deep.LoopGhost
import Derived.OwnWalk
set_option linter.unusedSimpArgs false
set_option linter.unusedVariables false
namespace Go.Proofs.YtgcinolbkllkkaaGreat
open Go.ChangeShapes Go.WideShapes Go.ChangeAt Go.RowKit
structure IsVec (w:World)(av:Option Addr)(len cap:Nat)(ds:List (Int × Int)):Prop where
 hlen:ds.length=len
 hcap:len≤cap
 hmost:cap≤maxLen
 hlies:len=0∨∃ b off,av=some ⟨b,off,none⟩∧b<w.heap.size∧∀ i,i<len→w.cell? ⟨b,off+i*2,none⟩=some (.int .i64 (M1.rg ds i))∧w.cell? ⟨b,off+i*2+1,none⟩=some (.int .i64 (M1.nm ds i))
theorem IsVec.below {w w':World}{av:Option Addr}{len cap:Nat}{ds:List (Int × Int)}(h:IsVec w av len cap ds)(hb:Below w.heap.size w w'):IsVec w' av len cap ds :=
 ⟨h.hlen,h.hcap,h.hmost,h.hlies.imp id fun ⟨b,off,e,hlt,hc⟩=>⟨b,off,e,Nat.lt_of_lt_of_le hlt hb.size,fun i hi=>⟨(hb.cell (p:=⟨b,off+i*2,none⟩) hlt).trans (hc i hi).1,(hb.cell (p:=⟨b,off+i*2+1,none⟩) hlt).trans (hc i hi).2⟩⟩⟩
theorem l1Dot_any (a b:Int)(w:World) :
  Calls Tryz.prog 96 #[.agg #[.int .i64 a,.int .i64 b]] w fun e w'=>e=.returned (.bool (M1.dotOk a b))∧Below w.heap.size w w':=by
 unfold M1.dotOk;go_enter Tryz.func96,Tryz.ntmps96
 go_wp2_with ((go_at_call 27;refine (l1In_any _ _ _ _).mono ?_;rintro e w' ⟨rfl,rfl⟩))
 all_goals (go_ret)
 all_goals (exact ⟨by simp [*],(Below.refl _ _).alloc (Nat.le_refl _) _⟩)
theorem dotOk_any (a b:Int)(w:World) :
  Calls Tryz.prog 97 #[.agg #[.int .i64 a,.int .i64 b]] w fun e w'=>e=.returned (.bool (M1.dotOk a b))∧Below w.heap.size w w':=by
 unfold M1.dotOk;go_enter Tryz.func97,Tryz.ntmps97
 go_wp2_with ((go_at_call 23;refine (inRange_any _ _ _ _).mono ?_;rintro e w' ⟨rfl,rfl⟩))
 all_goals (go_ret)
 all_goals (exact ⟨by simp [*],(Below.refl _ _).alloc (Nat.le_refl _) _⟩)
end Go.Proofs.YtgcinolbkllkkaaGreat
namespace Go.Proofs.YtgcinolbkllkkaaGreat
open Go.RowKit
def RowAt (w:World)(g m:Nat)(f:Nat→Value):Prop:=g<w.heap.size∧∀ o,o<m→w.cell? ⟨g,o,none⟩=some (f o)∧w.frozen? ⟨g,o,none⟩=false
theorem RowAt.lt {w:World}{g m:Nat}{f:Nat→Value}(h:RowAt w g m f):g<w.heap.size:=h.1
theorem RowAt.cell {w:World}{g m:Nat}{f:Nat→Value}(h:RowAt w g m f){o:Nat}(ho:o<m):w.cell? ⟨g,o,none⟩=some (f o):=(h.2 o ho).1
theorem RowAt.free {w:World}{g m:Nat}{f:Nat→Value}(h:RowAt w g m f){o:Nat}(ho:o<m):w.frozen? ⟨g,o,none⟩=false:=(h.2 o ho).2
theorem RowAt.below {w w':World}{g m:Nat}{f:Nat→Value}(h:RowAt w g m f)(hb:Below w.heap.size w w'):RowAt w' g m f :=
 ⟨Nat.lt_of_lt_of_le h.1 hb.size,fun o ho=>⟨(hb.cell (p:=⟨g,o,none⟩) h.1).trans (h.2 o ho).1,(hb.frozen (p:=⟨g,o,none⟩) h.1).trans (h.2 o ho).2⟩⟩
theorem RowAt.same {w:World}{g m:Nat}{f f':Nat→Value}(h:RowAt w g m f)(he:∀ o,o<m→f o=f' o):RowAt w g m f' :=
 ⟨h.1,fun o ho=>by rw [←he o ho];exact h.2 o ho⟩
theorem RowAt.drew {w:World}{g m:Nat}{f:Nat→Value}(h:RowAt w g m f):RowAt w.drew g m f:=h
theorem frozen_setCell (w:World)(p a:Addr)(v:Value):(w.setCell p v).frozen? a=w.frozen? a:=World.frozen?_setCell w p a v
theorem cell_set_same (w:World)(p:Addr)(v:Value)(h:(w.cell? p).isSome=true):(w.setCell p v).cell? p=some v:=by
 obtain ⟨u,hu⟩:=Option.isSome_iff_exists.1 h;exact World.cell?_setCell_same w p v hu
theorem RowAt.set {w:World}{g m:Nat}{f:Nat→Value}(h:RowAt w g m f){o:Nat}(ho:o<m)(v:Value):RowAt (w.setCell ⟨g,o,none⟩ v) g m (fun x=>if x=o then v else f x):=by
 refine ⟨by have:=h.1;simpa [World.setCell] using this,fun x hx=>⟨?_,by rw [frozen_setCell];exact (h.2 x hx).2⟩⟩;by_cases e:x=o
 ·subst e;simp only [if_true];exact World.cell?_setCell_same w _ v (h.2 x hx).1
 ·simp only [if_neg e];rw [World.cell?_setCell_other w _ _ v (by intro e2;exact e (by injection e2 with _ e3 _;exact e3.symm))];exact (h.2 x hx).1
theorem RowAt.far {w:World}{g m:Nat}{f:Nat→Value}(h:RowAt w g m f){p:Addr}(hp:p.block≠g)(v:Value):RowAt (w.setCell p v) g m f :=
 ⟨by have:=h.1;simpa [World.setCell] using this,fun x hx=>⟨by rw [World.cell?_setCell_other w p _ v (fun e=>hp (by rw [e]))];exact (h.2 x hx).1,by rw [frozen_setCell];exact (h.2 x hx).2⟩⟩
theorem RowAt.new (w:World)(cs:Array Value)(t:TypeId):RowAt (w.alloc (.cells cs t)) w.heap.size cs.size (fun o=>cs.getD o undef):=by
 have hh:(w.alloc (.cells cs t)).heap[w.heap.size]?=some (.cells cs t):=by
  show (w.heap.push (.cells cs t))[w.heap.size]?=_
  simp
 refine ⟨by simp,fun o ho=>⟨?_,?_⟩⟩
 ·unfold World.cell?;rw [hh];simp [ho]
 ·unfold World.frozen?;rw [hh];simp
theorem RowAt.alloc {w:World}{g m:Nat}{f:Nat→Value}(h:RowAt w g m f)(o:Obj):RowAt (w.alloc o) g m f:=h.below ((Below.refl _ _).alloc (Nat.le_refl _) o)
theorem RowAt.zero5 (w:World)(t:TypeId)(f:Nat→Value)(hf:∀ o,f o=.int .i64 0):RowAt (w.alloc (.cells #[.int .i64 0,.int .i64 0,.int .i64 0,.int .i64 0,.int .i64 0] t)) w.heap.size 5 f :=
 (RowAt.new w #[.int .i64 0,.int .i64 0,.int .i64 0,.int .i64 0,.int .i64 0] t).same fun o ho=>by
  rw [hf];match o,ho with
  | 0,_=>rfl
  | 1,_=>rfl
  | 2,_=>rfl
  | 3,_=>rfl
  | 4,_=>rfl
theorem RowAt.of_owns {w:World}{base:Nat}{e:TypeId}{size n cap g:Nat}{xs:List Value}(h:w.ownsRow base e size (.slice (some ⟨g,0,none⟩) n cap) n xs):RowAt w g (n*size) (fun o=>xs.getD o undef):=by
 obtain ⟨hl,h2⟩:=h;rcases h2 with ⟨h0,_⟩ | ⟨g',cap',cur,hv,_,hh,hn,_,hcs,ht⟩
 ·simp at h0
 ·simp at hv
  obtain ⟨rfl,rfl⟩:=hv;have hlt:g<w.heap.size:=by
   rcases Nat.lt_or_ge g w.heap.size with h | h
   ·exact h
   ·rw [Array.getElem?_eq_none h] at hh;cases hh
  refine ⟨hlt,fun o ho=>?_⟩;have hle:n*size≤cap*size:=Nat.mul_le_mul_right _ hn;have ho2:o<cur.size:=by omega
  have hx:xs.getD o undef=cur[o]:=by
   rw [←ht];simp [List.getD,ho,ho2]
  constructor
  ·show _=some (xs.getD o undef)
   rw [hx];simp [World.cell?,hh,ho2]
  ·simp [World.frozen?,hh]
end Go.Proofs.YtgcinolbkllkkaaGreat
namespace Go.Proofs.YtgcinolbkllkkaaGreat
open Go.ChangeShapes Go.WideShapes Go.ChangeAt Go.RowKit
def UCells (w:World)(b o:Nat)(u:M1.Upd):Prop:=w.cell? ⟨b,o,none⟩=some (.int .i64 u.dr)∧w.cell? ⟨b,o+1,none⟩=some (.int .i64 u.dn)∧w.cell? ⟨b,o+2,none⟩=some (.int .i64 u.sw)∧w.cell? ⟨b,o+3,none⟩=some (.int .i64 u.sc)∧w.cell? ⟨b,o+4,none⟩=some (.int .i64 u.sr)∧w.cell? ⟨b,o+5,none⟩=some (.int .i64 u.k)∧w.cell? ⟨b,o+6,none⟩=some (.int .i64 u.tr)∧w.cell? ⟨b,o+7,none⟩=some (.int .i64 u.id)∧w.cell? ⟨b,o+8,none⟩=some (.int .i64 u.pa)∧w.cell? ⟨b,o+9,none⟩=some (.string u.s)∧w.cell? ⟨b,o+10,none⟩=some (.int .i64 u.st)∧w.cell? ⟨b,o+11,none⟩=some (.int .i64 u.en)∧w.cell? ⟨b,o+12,none⟩=some (.int .i64 u.lv)
theorem UCells.below {w w':World}{b o:Nat}{u:M1.Upd}(h:UCells w b o u)(hb:Below w.heap.size w w')(hl:b<w.heap.size):UCells w' b o u:=by
 obtain ⟨c0,c1,c2,c3,c4,c5,c6,c7,c8,c9,c10,c11,c12⟩:=h;exact ⟨(hb.cell (p:=⟨b,o,none⟩) hl).trans c0,(hb.cell (p:=⟨b,o+1,none⟩) hl).trans c1,(hb.cell (p:=⟨b,o+2,none⟩) hl).trans c2,(hb.cell (p:=⟨b,o+3,none⟩) hl).trans c3,(hb.cell (p:=⟨b,o+4,none⟩) hl).trans c4,(hb.cell (p:=⟨b,o+5,none⟩) hl).trans c5,(hb.cell (p:=⟨b,o+6,none⟩) hl).trans c6,(hb.cell (p:=⟨b,o+7,none⟩) hl).trans c7,(hb.cell (p:=⟨b,o+8,none⟩) hl).trans c8,(hb.cell (p:=⟨b,o+9,none⟩) hl).trans c9,(hb.cell (p:=⟨b,o+10,none⟩) hl).trans c10,(hb.cell (p:=⟨b,o+11,none⟩) hl).trans c11,(hb.cell (p:=⟨b,o+12,none⟩) hl).trans c12⟩
structure IsUpds (w:World)(av:Option Addr)(len cap:Nat)(us:List M1.Upd):Prop where
 hlen:us.length=len
 hcap:len≤cap
 hmost:cap≤maxLen
 htxt:∀ i,i<len→(M1.up us i).s.size≤maxLen
 hlies:len=0∨∃ b off,av=some ⟨b,off,none⟩∧b<w.heap.size∧∀ i,i<len→UCells w b (off+i*13) (M1.up us i)
theorem IsUpds.below {w w':World}{av:Option Addr}{len cap:Nat}{us:List M1.Upd}(h:IsUpds w av len cap us)(hb:Below w.heap.size w w'):IsUpds w' av len cap us :=
 ⟨h.hlen,h.hcap,h.hmost,h.htxt,h.hlies.imp id fun ⟨b,off,e,hlt,hc⟩=>⟨b,off,e,Nat.lt_of_lt_of_le hlt hb.size,fun i hi=>(hc i hi).below hb hlt⟩⟩
def ucs (u:M1.Upd):List Value:=[.int .i64 u.dr,.int .i64 u.dn,.int .i64 u.sw,.int .i64 u.sc,.int .i64 u.sr,.int .i64 u.k,.int .i64 u.tr,.int .i64 u.id,.int .i64 u.pa,.string u.s,.int .i64 u.st,.int .i64 u.en,.int .i64 u.lv]
def ucell (us:List M1.Upd)(o:Nat):Value:=(ucs (M1.up us (o / 13))).getD (o % 13) undef
theorem ucell_at (us:List M1.Upd)(k j:Nat)(h:j<13):ucell us (k*13+j)=(ucs (M1.up us k)).getD j undef:=by
 unfold ucell;rw [show (k*13+j) / 13=k from by omega,show (k*13+j) % 13=j from by omega]
theorem isUpds_of_row {w:World}{g n cap:Nat}{us:List M1.Upd}(hl:us.length=n)(hc:n≤cap)(hm:cap≤maxLen)(ht:∀ i,i<n→(M1.up us i).s.size≤maxLen)(h:RowAt w g (n*13) (ucell us)):IsUpds w (some ⟨g,0,none⟩) n cap us:=by
 refine ⟨hl,hc,hm,ht,Or.inr ⟨g,0,rfl,h.lt,fun i hi=>?_⟩⟩;have key:∀ j,j<13→w.cell? ⟨g,i*13+j,none⟩=some ((ucs (M1.up us i)).getD j undef):=fun j hj=>by
  rw [h.cell (by omega),ucell_at us i j hj]
 unfold UCells;rw [Nat.zero_add];exact ⟨key 0 (by omega),key 1 (by omega),key 2 (by omega),key 3 (by omega),key 4 (by omega),key 5 (by omega),key 6 (by omega),key 7 (by omega),key 8 (by omega),key 9 (by omega),key 10 (by omega),key 11 (by omega),key 12 (by omega)⟩
set_option maxHeartbeats 4000000 in
theorem l2Name_any (s:ByteArray)(w:World)(hs:s.size≤maxLen) :
  Calls Tryz.prog 141 #[.string s] w fun e w'=>e=.returned (.bool (M1.nameB s))∧w'=w:=by
 unfold maxLen at hs;go_enter Tryz.func141,Tryz.ntmps141
 go_wp2
 go_loop [3] (fun i=>∃ k:Nat,k≤s.size∧i=.int .i64 k∧Hid (∀ j (hj:j<s.size),j<k→M1.letB s[j]=true)) (fun i=>s.size-(intOf i).toNat)
 case atStart=>exact ⟨0,Nat.zero_le _,rfl,fun j _ hj=>absurd hj (Nat.not_lt_zero _)⟩
 case round =>
  obtain ⟨k,hk,rfl,hall⟩:=hrel;by_cases hlt:k<s.size
  ·by_cases h1:97≤(s[k].toNat:Int)
   ·by_cases h2:(s[k].toNat:Int)≤122
    ·have HQ:Hid (∀ j (hj:j<s.size),j<k+1→M1.letB s[j]=true):=fun j hj hjk=>by
      by_cases e:j=k
      ·subst e;simp [M1.letB,h1,h2]
      ·exact hall.out j hj (by omega)
     clear hall;go_wp2
     go_round
     case rel=>exact ⟨k+1,by omega,by go_num,HQ⟩
     case measure=>simp [intOf];omega
    ·have HQ:Hid (M1.nameB s=false):=(by unfold M1.nameB;rw [M1.allB_no hlt (by unfold M1.letB;rw [decide_eq_false h2];simp)];simp:M1.nameB s=false)
     clear hall;go_wp2
     go_ret
     exact ⟨by rw [HQ.out];rfl,rfl⟩
   ·have HQ:Hid (M1.nameB s=false):=(by unfold M1.nameB;rw [M1.allB_no hlt (by unfold M1.letB;rw [decide_eq_false h1];simp)];simp:M1.nameB s=false)
    clear hall;go_wp2
    go_ret
    exact ⟨by rw [HQ.out];rfl,rfl⟩
  ·have HQ:Hid (M1.nameB s=(decide (1≤s.size) && decide (s.size≤12))):=(by unfold M1.nameB;rw [M1.allB_yes fun j hj=>hall.out j hj (by omega)];simp:M1.nameB s=(decide (1≤s.size) && decide (s.size≤12)))
   clear hall;by_cases h3:1≤s.size
   ·by_cases h4:s.size≤12
    ·go_wp2
     go_ret
     exact ⟨by rw [HQ.out];simp [h3,h4];omega,rfl⟩
    ·go_wp2
     go_ret
     exact ⟨by rw [HQ.out];simp [h3,h4];omega,rfl⟩
   ·go_wp2
    go_ret
    exact ⟨by rw [HQ.out];simp [h3],rfl⟩
set_option maxHeartbeats 4000000 in
theorem nameOk_any (s:ByteArray)(w:World)(hs:s.size≤maxLen) :
  Calls Tryz.prog 194 #[.string s] w fun e w'=>e=.returned (.bool (M1.nameB s))∧w'=w:=by
 unfold maxLen at hs;by_cases h3:s.size=0
 ·have HQ:Hid (M1.nameB s=false):=(by unfold M1.nameB;simp [h3]:M1.nameB s=false)
  have h5:((s.size:Int)==0)=true:=by simp [h3]
  clear h3;go_enter Tryz.func194,Tryz.ntmps194
  go_wp2
  go_ret
  exact ⟨by rw [HQ.out];rfl,rfl⟩
 ·have h5:((s.size:Int)==0)=false:=by simp [h3]
  by_cases h4:12<s.size
  ·have HQ:Hid (M1.nameB s=false):=(by unfold M1.nameB;simp;intro _ h;omega:M1.nameB s=false)
   go_enter Tryz.func194,Tryz.ntmps194
   go_wp2
   go_ret
   exact ⟨by rw [HQ.out];rfl,rfl⟩
  ·go_enter Tryz.func194,Tryz.ntmps194
   go_wp2
   go_loop [3] (fun i=>∃ k:Nat,k≤s.size∧i=.int .i64 k∧Hid (∀ j (hj:j<s.size),j<k→M1.letB s[j]=true)) (fun i=>s.size-(intOf i).toNat)
   case atStart=>exact ⟨0,Nat.zero_le _,rfl,fun j _ hj=>absurd hj (Nat.not_lt_zero _)⟩
   case round =>
    obtain ⟨k,hk,rfl,hall⟩:=hrel;by_cases hlt:k<s.size
    ·by_cases h1:97≤(s[k].toNat:Int)
     ·by_cases h2:(s[k].toNat:Int)≤122
      ·have HQ:Hid (∀ j (hj:j<s.size),j<k+1→M1.letB s[j]=true):=fun j hj hjk=>by
        by_cases e:j=k
        ·subst e;simp [M1.letB,h1,h2]
        ·exact hall.out j hj (by omega)
       clear hall;go_wp2
       go_round
       case rel=>exact ⟨k+1,by omega,by go_num,HQ⟩
       case measure=>simp [intOf];omega
      ·have HQ:Hid (M1.nameB s=false):=(by unfold M1.nameB;rw [M1.allB_no hlt (by unfold M1.letB;rw [decide_eq_false h2];simp)];simp:M1.nameB s=false)
       clear hall;go_wp2
       go_ret
       exact ⟨by rw [HQ.out];rfl,rfl⟩
     ·have HQ:Hid (M1.nameB s=false):=(by unfold M1.nameB;rw [M1.allB_no hlt (by unfold M1.letB;rw [decide_eq_false h1];simp)];simp:M1.nameB s=false)
      clear hall;go_wp2
      go_ret
      exact ⟨by rw [HQ.out];rfl,rfl⟩
    ·have HQ:Hid (M1.nameB s=true):=(by unfold M1.nameB;rw [M1.allB_yes fun j hj=>hall.out j hj (by omega)];simp;omega:M1.nameB s=true)
     clear hall;go_wp2
     go_ret
     exact ⟨by rw [HQ.out];rfl,rfl⟩
set_option maxHeartbeats 4000000 in
theorem spanOk_spec (a b c d:Int)(s:ByteArray)(w:World)(hs:s.size≤maxLen) :
  Calls Tryz.prog 118 #[.agg #[.int .i64 a,.int .i64 b,.string s,.int .i64 c,.int .i64 d]] w fun e w'=>e=.returned (.bool (M1.spanB a b s c d))∧Below w.heap.size w w':=by
 unfold M1.spanB;go_enter Tryz.func118,Tryz.ntmps118
 go_wp2_with (first | (go_at_call 27;refine (l1In_any _ _ _ _).mono ?_;rintro e w' ⟨rfl,rfl⟩) | (go_at_call 141;refine (l2Name_any _ _ hs).mono ?_;rintro e w' ⟨rfl,rfl⟩))
 all_goals (go_ret)
 all_goals (exact ⟨by simp_all,(Below.refl _ _).alloc (Nat.le_refl _) _⟩)
set_option maxHeartbeats 4000000 in
theorem spanOk_impl (a b c d:Int)(s:ByteArray)(w:World)(hs:s.size≤maxLen) :
  Calls Tryz.prog 193 #[.agg #[.int .i64 a,.int .i64 b,.string s,.int .i64 c,.int .i64 d]] w fun e w'=>e=.returned (.bool (M1.spanB a b s c d))∧Below w.heap.size w w':=by
 rw [M1.spanB_eq];go_enter Tryz.func193,Tryz.ntmps193
 go_wp2_with (first | (go_at_call 23;refine (inRange_any _ _ _ _).mono ?_;rintro e w' ⟨rfl,rfl⟩) | (go_at_call 22;refine (timeOk_any _ _).mono ?_;rintro e w' ⟨rfl,rfl⟩) | (go_at_call 194;refine (nameOk_any _ _ hs).mono ?_;rintro e w' ⟨rfl,rfl⟩))
 all_goals (go_ret)
 all_goals (exact ⟨by simp_all,(Below.refl _ _).alloc (Nat.le_refl _) _⟩)
theorem infoUpd0:(Tryz.prog.info? 72).map (fun i=>(i.zero,i.size,i.bytes))=some (some (.agg #[.int .i64 0,.int .i64 0,.int .i64 0,.int .i64 0,.int .i64 0,.int .i64 0,.int .i64 0,.int .i64 0,.int .i64 0,.string ByteArray.empty,.int .i64 0,.int .i64 0,.int .i64 0]),13,112):=by kernel_rfl
theorem infoUpd:∃ i,Tryz.prog.info? 72=some i∧i.zero=some (.agg #[.int .i64 0,.int .i64 0,.int .i64 0,.int .i64 0,.int .i64 0,.int .i64 0,.int .i64 0,.int .i64 0,.int .i64 0,.string ByteArray.empty,.int .i64 0,.int .i64 0,.int .i64 0])∧i.size=13∧i.bytes=112:=by
 have h:=infoUpd0
 cases e:Tryz.prog.info? 72 with
 | none=>rw [e] at h;cases h
 | some i=>rw [e] at h;simp at h;exact ⟨i,rfl,h.1,h.2.1,h.2.2⟩
end Go.Proofs.YtgcinolbkllkkaaGreat
