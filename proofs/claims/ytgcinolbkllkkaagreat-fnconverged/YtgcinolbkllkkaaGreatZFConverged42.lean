/-
  Texts of one proof, joined: Math16, MapJ, Sp1, Sp2, Sp4, Math18, Math20.
-/
import Derived.Test.YtgcinolbkllkkaaGreatZFConverged40
import Derived.Test.YtgcinolbkllkkaaGreatZFConverged16
set_option linter.unusedSimpArgs false
set_option linter.unusedVariables false
namespace M1
abbrev sah (a b:Upd):Bool:=aheadB a.sw a.sc a.sr b.sw b.sc b.sr
abbrev idlt (a b:Upd):Prop:=a.id<b.id
def putS:List Upd→Upd→List Upd
 | [],u=>[u]
 | x :: t,u=>if x.id<u.id then x :: putS t u else if x.id=u.id then (if sah x u=true then u :: t else x :: t) else u :: x :: t
def spTo (us:List Upd)(tr:Int):Nat→List Upd
 | 0=>[]
 | k+1=>if (up us k).k=1∧(up us k).tr=tr then putS (spTo us tr k) (up us k) else spTo us tr k
def mpS:List Upd→Upd→List Upd
 | [],u=>[u]
 | x :: t,u=>if x.id=u.id then (if sah x u=true then u :: t else x :: t) else x :: mpS t u
def mpTo (us:List Upd)(tr:Int):Nat→List Upd
 | 0=>[]
 | k+1=>if (up us k).k=1∧(up us k).tr=tr then mpS (mpTo us tr k) (up us k) else mpTo us tr k
theorem putS_mem {u x:Upd}:∀ {bs:List Upd},x∈putS bs u→x∈bs∨x=u
 | [],h=>by simp [putS] at h;exact Or.inr h
 | y :: t,h=>by
  unfold putS at h
  split at h
  ·rcases List.mem_cons.1 h with h | h
   ·exact Or.inl (by simp [h])
   ·rcases putS_mem h with h | h
    ·exact Or.inl (by simp [h])
    ·exact Or.inr h
  ·split at h
   ·split at h
    ·rcases List.mem_cons.1 h with h | h
     ·exact Or.inr h
     ·exact Or.inl (by simp [h])
    ·exact Or.inl h
   ·rcases List.mem_cons.1 h with h | h
    ·exact Or.inr h
    ·exact Or.inl h
theorem putS_len {u:Upd}:∀ bs:List Upd,(putS bs u).length≤bs.length+1
 | []=>by simp [putS]
 | y :: t=>by
  have:=putS_len (u:=u) t;unfold putS
  split
  ·simp;omega
  ·split
   ·split <;> simp
   ·simp
theorem putS_sorted {u:Upd}:∀ {bs:List Upd},bs.Pairwise idlt→(putS bs u).Pairwise idlt
 | [],_=>by simp [putS]
 | y :: t,h=>by
  rw [List.pairwise_cons] at h;unfold putS
  split
  ·rename_i hy
   rw [List.pairwise_cons];refine ⟨fun z hz=>?_,putS_sorted h.2⟩;rcases putS_mem hz with hz | hz
   ·exact h.1 z hz
   ·rw [hz];exact hy
  ·rename_i hy
   split
   ·rename_i he
    split
    ·rw [List.pairwise_cons]
     exact ⟨fun z hz=>by have:=h.1 z hz;unfold idlt at *;omega,h.2⟩
    ·rw [List.pairwise_cons];exact h
   ·rename_i he
    rw [List.pairwise_cons,List.pairwise_cons];refine ⟨fun z hz=>?_,h⟩;rcases List.mem_cons.1 hz with hz | hz
    ·subst hz;unfold idlt;omega
    ·have:=h.1 z hz;unfold idlt at *;omega
theorem spTo_sorted (us:List Upd)(tr:Int):∀ k,(spTo us tr k).Pairwise idlt
 | 0=>List.Pairwise.nil
 | k+1=>by
  unfold spTo
  split
  ·exact putS_sorted (spTo_sorted us tr k)
  ·exact spTo_sorted us tr k
theorem spTo_len (us:List Upd)(tr:Int):∀ k,(spTo us tr k).length≤k
 | 0=>Nat.le_refl _
 | k+1=>by
  have:=spTo_len us tr k;unfold spTo
  split
  ·exact Nat.le_trans (putS_len _) (by omega)
  ·omega
theorem spTo_mem {us:List Upd}{tr:Int}{x:Upd}:∀ {k:Nat},x∈spTo us tr k→∃ j,j<k∧x=up us j
 | 0,h=>by cases h
 | k+1,h=>by
  unfold spTo at h
  split at h
  ·rcases putS_mem h with h | h
   ·obtain ⟨j,hj,e⟩:=spTo_mem h;exact ⟨j,by omega,e⟩
   ·exact ⟨k,by omega,h⟩
  ·obtain ⟨j,hj,e⟩:=spTo_mem h;exact ⟨j,by omega,e⟩
theorem putS_new {u:Upd}:∀ {bs:List Upd},(∀ x,x∈bs→¬x.id=u.id)→(putS bs u).Perm (u :: bs)
 | [],_=>by simp [putS]
 | y :: t,h=>by
  unfold putS
  split
  ·exact ((putS_new (bs:=t) fun z hz=>h z (by simp [hz])).cons y).trans (List.Perm.swap u y t)
  ·rw [if_neg (h y (by simp))]
theorem mpS_new {u:Upd}:∀ {ms:List Upd},(∀ x,x∈ms→¬x.id=u.id)→mpS ms u=ms ++ [u]
 | [],_=>rfl
 | y :: t,h=>by
  unfold mpS;rw [if_neg (h y (by simp)),mpS_new (ms:=t) fun z hz=>h z (by simp [hz])]
  rfl
theorem putS_old {u x:Upd}(hx:x.id=u.id):∀ {a b:List Upd},(∀ z,z∈a→z.id<u.id)→putS (a ++ x :: b) u=a ++ (if sah x u=true then u else x) :: b
 | [],b,_=>by
  show putS (x :: b) u=_
  unfold putS;rw [if_neg (by omega),if_pos hx]
  split <;> rfl
 | y :: a,b,h=>by
  show putS (y :: (a ++ x :: b)) u=_
  unfold putS;rw [if_pos (h y (by simp)),putS_old hx (a:=a) fun z hz=>h z (by simp [hz])]
  rfl
theorem mpS_old {u x:Upd}(hx:x.id=u.id):∀ {a b:List Upd},(∀ z,z∈a→¬z.id=u.id)→mpS (a ++ x :: b) u=a ++ (if sah x u=true then u else x) :: b
 | [],b,_=>by
  show mpS (x :: b) u=_
  unfold mpS;rw [if_pos hx]
  split <;> rfl
 | y :: a,b,h=>by
  show mpS (y :: (a ++ x :: b)) u=_
  unfold mpS;rw [if_neg (h y (by simp)),mpS_old hx (a:=a) fun z hz=>h z (by simp [hz])]
  rfl
def ids (ms:List Upd):Prop:=ms.Pairwise fun a b=>¬a.id=b.id
theorem ids_of {bs:List Upd}(h:bs.Pairwise idlt):ids bs:=h.imp fun {a b} (q:a.id<b.id)=>by omega
theorem ids_perm {a b:List Upd}(h:a.Perm b)(hb:ids b):ids a:=by
 unfold ids at *;exact (h.symm.pairwise_iff (fun {x y} q e=>q e.symm)).1 hb
theorem mp_step {bs ms:List Upd}{u:Upd}(hs:bs.Pairwise idlt)(hp:ms.Perm bs):(mpS ms u).Perm (putS bs u):=by
 by_cases h:∃ x,x∈bs∧x.id=u.id
 ·obtain ⟨x,hx,e⟩:=h
  obtain ⟨a,b,rfl⟩:=List.append_of_mem hx;obtain ⟨c,d,rfl⟩:=List.append_of_mem (hp.mem_iff.2 hx);have h1:∀ z,z∈a→z.id<u.id:=fun z hz=>by
   have:=(List.pairwise_append.1 hs).2.2 z hz x (by simp);unfold idlt at this;omega
  have h2:∀ z,z∈c→¬z.id=u.id:=fun z hz=>by
   have hi:=ids_perm hp (ids_of hs);have:=(List.pairwise_append.1 hi).2.2 z hz x (by simp);omega
  rw [putS_old e h1,mpS_old e h2];have q:(c ++ d).Perm (a ++ b):=by
   have q1:(x :: (c ++ d)).Perm (c ++ x :: d):=List.perm_middle.symm;have q2:(x :: (a ++ b)).Perm (a ++ x :: b):=List.perm_middle.symm;exact (q1.trans (hp.trans q2.symm)).cons_inv
  exact List.perm_middle.trans ((q.cons _).trans List.perm_middle.symm)
 ·have h1:∀ x,x∈bs→¬x.id=u.id:=fun x hx e=>h ⟨x,hx,e⟩
  have h2:∀ x,x∈ms→¬x.id=u.id:=fun x hx e=>h ⟨x,hp.mem_iff.1 hx,e⟩;rw [mpS_new h2];exact (List.perm_append_comm.trans (hp.cons u)).trans (putS_new h1).symm
theorem mp_all (us:List Upd)(tr:Int):∀ k,(mpTo us tr k).Perm (spTo us tr k)
 | 0=>List.Perm.refl _
 | k+1=>by
  unfold mpTo spTo
  split
  ·exact mp_step (spTo_sorted us tr k) (mp_all us tr k)
  ·exact mp_all us tr k
theorem id_unique:∀ {a b:List Upd},a.Pairwise idlt→b.Pairwise idlt→a.Perm b→a=b
 | [],b,_,_,h=>(List.perm_nil.1 h.symm).symm
 | x :: a,[],_,_,h=>by simp at h
 | x :: a,y :: b,ha,hb,h=>by
  rw [List.pairwise_cons] at ha hb;have hx:x=y:=by
   rcases List.mem_cons.1 (h.mem_iff.1 (List.mem_cons_self (a:=x) (l:=a))) with e | e
   ·exact e
   ·rcases List.mem_cons.1 (h.mem_iff.2 (List.mem_cons_self (a:=y) (l:=b))) with e' | e'
    ·exact e'.symm
    ·have h1:=hb.1 x e
     have h2:=ha.1 y e';unfold idlt at *;omega
  subst hx;rw [id_unique ha.2 hb.2 (List.Perm.cons_inv h)]
def fj:List Upd→Int→Option Upd
 | [],_=>none
 | x :: t,i=>if x.id=i then some x else fj t i
theorem mpS_none {u:Upd}:∀ {ms:List Upd},fj ms u.id=none→mpS ms u=ms ++ [u]
 | [],_=>rfl
 | x :: t,h=>by
  unfold fj at h;by_cases c:x.id=u.id
  ·rw [if_pos c] at h;cases h
  ·rw [if_neg c] at h
   unfold mpS;rw [if_neg c,mpS_none h];rfl
theorem mpS_stay {u x:Upd}:∀ {ms:List Upd},fj ms u.id=some x→sah x u=false→mpS ms u=ms
 | [],h,_=>by cases h
 | y :: t,h,hs=>by
  unfold fj at h;by_cases c:y.id=u.id
  ·rw [if_pos c] at h;injection h with h;subst h
   unfold mpS;rw [if_pos c,if_neg (by rw [hs];simp)]
  ·rw [if_neg c] at h
   unfold mpS;rw [if_neg c,mpS_stay h hs]
def pj:List Upd→Int→Nat
 | [],_=>0
 | x :: t,i=>if x.id=i then 0 else pj t i+1
theorem mpS_over {u x:Upd}:∀ {ms:List Upd},fj ms u.id=some x→sah x u=true→mpS ms u=ms.set (pj ms u.id) u∧pj ms u.id<ms.length
 | [],h,_=>by cases h
 | y :: t,h,hs=>by
  unfold fj at h;by_cases c:y.id=u.id
  ·rw [if_pos c] at h;injection h with h;subst h
   unfold mpS pj;rw [if_pos c,if_pos hs,if_pos c];exact ⟨rfl,by simp⟩
  ·rw [if_neg c] at h
   obtain ⟨e,hl⟩:=mpS_over h hs;unfold mpS pj;rw [if_neg c,if_neg c,e];exact ⟨rfl,by simp;omega⟩
end M1
namespace Go.Proofs.YtgcinolbkllkkaaGreat
open Go.ChangeShapes Go.WideShapes Go.ChangeAt Go.RowKit
def MapJ (w:World)(b:Nat)(us:List M1.Upd):Prop:=∃ es:Array MapEntry,w.heap[b]?=some (.map es us.length)∧es.toList.map (fun e=>(e.key,e.val))=us.map (fun u=>(.int .i64 u.id,uv u))∧es.toList.map (·.born)=List.range us.length
theorem MapJ.lt {w:World}{b:Nat}{us:List M1.Upd}(h:MapJ w b us):b<w.heap.size:=by
 obtain ⟨es,hb,_⟩:=h;exact (Array.getElem?_eq_some_iff.1 hb).1
theorem MapJ.block {w w':World}{b:Nat}{us:List M1.Upd}(h:MapJ w b us)(e:w'.heap[b]?=w.heap[b]?):MapJ w' b us:=by
 obtain ⟨es,hb,h2⟩:=h;exact ⟨es,e.trans hb,h2⟩
theorem MapJ.below {w w':World}{b B:Nat}{us:List M1.Upd}(h:MapJ w b us)(hB:Below B w w')(hb:b<B):MapJ w' b us:=h.block (hB.block b hb)
theorem MapJ.made (w:World):MapJ (w.alloc (.map #[] 0)) w.heap.size []:=⟨#[],(MapKept.heap_alloc w _).1,rfl,rfl⟩
theorem findNowJ (x:Int):∀ (es:List MapEntry) (us:List M1.Upd) (i:Nat),es.map (fun e=>(e.key,e.val))=us.map (fun u=>(.int .i64 u.id,uv u)) →
  Instr.findNow (.int .i64) (.int .i64 x) es i=some ((M1.fj us x).map fun u=>(i+M1.pj us x,uv u))
 | [],[],i,_=>rfl
 | [],_ :: _,_,h=>by cases h
 | _ :: _,[],_,h=>by cases h
 | e :: es,u :: us,i,h=>by
  rw [List.map_cons,List.map_cons,List.cons.injEq,Prod.mk.injEq] at h;obtain ⟨⟨h1,h2⟩,h3⟩:=h;have ih:=findNowJ x es us (i+1) h3;unfold Instr.findNow M1.fj M1.pj;rw [h1];by_cases c:u.id=x
  ·subst c
   simp [Instr.sameNow,h2]
  ·have c':¬x=u.id:=fun e=>c e.symm
   simp only [Instr.sameNow,if_true,beq_iff_eq,c,c',if_false];have hb:(x==u.id)=false:=by simp [c']
   rw [hb];simp only [ih,if_neg c]
   cases M1.fj us x with
   | none=>rfl
   | some y=>simp;omega
theorem checkInt (e:Bool)(a:Int)(w:World):(Instr.checkKey e 10000 2 (.int .i64 a)).run Tryz.prog w=.ok () w:=by
 cases e <;> kernel_rfl
theorem findKeyJ (x:Int)(w:World)(es:List MapEntry)(us:List M1.Upd)(h:es.map (fun e=>(e.key,e.val))=us.map (fun u=>(.int .i64 u.id,uv u))) :
  (Instr.findKey 2 (.int .i64 x) es).run Tryz.prog w=.ok ((M1.fj us x).map fun u=>(M1.pj us x,uv u)) w:=by
 have:=findNowJ x es us 0 h;unfold Instr.findKey;simp [run_underlying Tryz.underlying2,Result.andThen,this]
theorem run_lookupJ {w:World}{b:Nat}{us:List M1.Upd}(h:MapJ w b us)(x:Int) :
  (Instr.lookup 121 (.map (some b)) (.int .i64 x) true).run Tryz.prog w=.ok (.tuple #[uv ((M1.fj us x).getD M1.zeroU),.bool (M1.fj us x).isSome]) w:=by
 obtain ⟨es,hb,h2,_⟩:=h;have ho1:=findKeyJ x w es.toList us h2;have hc:∀ e,(Instr.checkKey e 10000 2 (.int .i64 x)).run Tryz.prog w=.ok () w:=fun e=>checkInt e x w
 cases hf:M1.fj us x with
 | none =>
  rw [hf] at ho1;simp [Instr.lookup,run_underlying Tryz.underlying121,MapKept.run_getObj_map hb,hc,ho1,zeroUpd,Result.andThen];rfl
 | some y =>
  rw [hf] at ho1;simp [Instr.lookup,run_underlying Tryz.underlying121,MapKept.run_getObj_map hb,hc,ho1,Result.andThen]
theorem run_updateJ_new {w:World}{b:Nat}{us:List M1.Upd}(h:MapJ w b us)(u:M1.Upd)(hf:M1.fj us u.id=none) :
  ∃ w',(Instr.mapUpdate 121 (.map (some b)) (.int .i64 u.id) (uv u)).run Tryz.prog w=.ok () w'∧MapJ w' b (us ++ [u])∧w.grownBy w' (some b):=by
 obtain ⟨es,hb,h2,h3⟩:=h;have ho1:=findKeyJ u.id w es.toList us h2;have hc:(Instr.checkKey false 10000 2 (.int .i64 u.id)).run Tryz.prog w=.ok () w:=checkInt _ _ w;rw [hf] at ho1;refine ⟨ChangeMaps.setBlock w b (.map (es.push ⟨.int .i64 u.id,uv u,us.length⟩) (us.length+1)),?_,⟨es.push ⟨.int .i64 u.id,uv u,us.length⟩,?_,?_,?_⟩,⟨rfl,rfl,rfl,by simp [ChangeMaps.setBlock],fun i _ hi=>ChangeMaps.heap_setBlock_other hb _ (fun e=>hi (by rw [e]))⟩⟩
 ·simp [Instr.mapUpdate,run_underlying Tryz.underlying121,MapKept.run_getObj_map hb,hc,ho1,MapKept.run_setObj_map _ hb,Result.andThen,ChangeMaps.setBlock]
 ·rw [ChangeMaps.heap_setBlock_same hb _];simp
 ·simp [h2]
 ·simp [h3,List.range_succ]
theorem keyOfJ {us:List M1.Upd}{x:Int}{y:M1.Upd}:∀ {es:List MapEntry} {vs:List M1.Upd},es.map (fun e=>(e.key,e.val))=vs.map (fun u=>(.int .i64 u.id,uv u))→M1.fj vs x=some y→(es[M1.pj vs x]?).map (·.key)=some (.int .i64 x)
 | [],[],_,h=>by cases h
 | [],_ :: _,h,_=>by cases h
 | _ :: _,[],h,_=>by cases h
 | e :: es,v :: vs,h,hf=>by
  rw [List.map_cons,List.map_cons,List.cons.injEq,Prod.mk.injEq] at h;obtain ⟨⟨h1,h2⟩,h3⟩:=h;unfold M1.fj at hf;unfold M1.pj;by_cases c:v.id=x
  ·rw [if_pos c];simp [h1,c]
  ·rw [if_neg c] at hf ⊢
   simpa using keyOfJ (us:=us) h3 hf
theorem run_updateJ_over {w:World}{b:Nat}{us:List M1.Upd}(h:MapJ w b us)(u y:M1.Upd)(hf:M1.fj us u.id=some y) :
  ∃ w',(Instr.mapUpdate 121 (.map (some b)) (.int .i64 u.id) (uv u)).run Tryz.prog w=.ok () w'∧MapJ w' b (us.set (M1.pj us u.id) u)∧w.grownBy w' (some b):=by
 obtain ⟨es,hb,h2,h3⟩:=h;have ho1:=findKeyJ u.id w es.toList us h2;have hc:(Instr.checkKey false 10000 2 (.int .i64 u.id)).run Tryz.prog w=.ok () w:=checkInt _ _ w;have hk:=keyOfJ (us:=us) h2 hf;have hk2:(((es[M1.pj us u.id]?).map (·.key)).getD (.int .i64 u.id))=.int .i64 u.id:=by
  rw [←Array.getElem?_toList,hk];rfl
 have hst:(Instr.keyThatStays (.int .i64 u.id) (.int .i64 u.id)).run Tryz.prog w=.ok (.int .i64 u.id) w:=by
  have hsb:Instr.sameBits 10000 (.int .i64 u.id) (.int .i64 u.id)=true:=by simp [Instr.sameBits]
  simp [Instr.keyThatStays,hsb]
 rw [hf] at ho1;refine ⟨ChangeMaps.setBlock w b (.map (es.modify (M1.pj us u.id) fun e=>{ e with key:=.int .i64 u.id,val:=uv u }) us.length),?_,⟨es.modify (M1.pj us u.id) fun e=>{ e with key:=.int .i64 u.id,val:=uv u },?_,?_,?_⟩,⟨rfl,rfl,rfl,by simp [ChangeMaps.setBlock],fun i _ hi=>ChangeMaps.heap_setBlock_other hb _ (fun e=>hi (by rw [e]))⟩⟩
 ·simp [Instr.mapUpdate,run_underlying Tryz.underlying121,MapKept.run_getObj_map hb,hc,ho1,hk2,hst,MapKept.run_setObj_map _ hb,Result.andThen,ChangeMaps.setBlock]
 ·rw [ChangeMaps.heap_setBlock_same hb _];simp
 ·apply List.ext_getElem?
  intro i;have q:=congrArg (fun l=>l[i]?) h2;simp only [List.getElem?_map] at q;simp only [Array.toList_modify,List.getElem?_map,List.getElem?_modify,List.getElem?_set];by_cases e:M1.pj us u.id=i
  ·subst e
   cases hx:es.toList[M1.pj us u.id]? with
   | none=>rw [hx] at hk;cases hk
   | some z =>
    rw [hx] at q;have hl:M1.pj us u.id<us.length:=by
     cases hy:us[M1.pj us u.id]? with
     | none=>rw [hy] at q;cases q
     | some _=>exact (List.getElem?_eq_some_iff.1 hy).1
    simp [hl]
  ·first | (simp [e];exact q) | (simp [e,←q]) | (simp [e];simpa using q)
 ·have e:(es.modify (M1.pj us u.id) fun e=>{ e with key:=.int .i64 u.id,val:=uv u }).toList.map (·.born)=es.toList.map (·.born):=by
   apply List.ext_getElem?
   intro i;simp only [Array.toList_modify,List.getElem?_map,List.getElem?_modify];by_cases e:M1.pj us u.id=i
   ·simp [e];cases es.toList[i]? <;> rfl
   ·simp [e]
  rw [e,h3];simp
def scs (u:M1.Upd):List Value:=[.int .i64 u.id,.int .i64 u.pa,.string u.s,.int .i64 u.st,.int .i64 u.en]
def scell (us:List M1.Upd)(o:Nat):Value:=(scs (M1.up us (o / 5))).getD (o % 5) undef
theorem scell_at (us:List M1.Upd)(k j:Nat)(h:j<5):scell us (k*5+j)=(scs (M1.up us k)).getD j undef:=by
 unfold scell;rw [show (k*5+j) / 5=k by omega,show (k*5+j) % 5=j by omega]
def sL (us:List M1.Upd):List Value:=us.flatMap scs
theorem sL_snoc (us:List M1.Upd)(u:M1.Upd):sL (us ++ [u])=sL us ++ scs u:=by simp [sL]
theorem sL_get:∀ (us:List M1.Upd)(o:Nat),o<us.length*5→(sL us).getD o undef=scell us o
 | [],o,h=>by simp at h
 | d :: r,o,h=>by
  have e0:sL (d :: r)=scs d ++ sL r:=rfl;have hl:(scs d).length=5:=rfl;by_cases c:o<5
  ·have e1:(sL (d :: r)).getD o undef=(scs d).getD o undef:=by
    rw [e0,List.getD_eq_getElem?_getD,List.getElem?_append_left (by omega),←List.getD_eq_getElem?_getD]
   rw [e1];have:=scell_at (d :: r) 0 o c;rw [Nat.zero_mul,Nat.zero_add] at this;rw [this];rfl
  ·have ih:=sL_get r (o-5) (by simp at h;omega)
   have e1:(sL (d :: r)).getD o undef=(sL r).getD (o-5) undef:=by
    rw [e0,List.getD_eq_getElem?_getD,List.getElem?_append_right (by omega),←List.getD_eq_getElem?_getD,hl]
   rw [e1,ih];unfold scell;rw [show o / 5=(o-5) / 5+1 by omega,show (o-5) % 5=o % 5 by omega]
   rfl
theorem MG.of_ownsS {w:World}{base n:Nat}{e:TypeId}{av:Option Addr}{cap:Nat}{us:List M1.Upd}(hl:us.length=n)(h:w.ownsRow base e 5 (.slice av n cap) n (sL us)):MG w av n cap base w.heap.size (scell us):=by
 have h0:=h;obtain ⟨h1,h2⟩:=h;rcases h2 with ⟨e1,h3⟩ | ⟨g,cap',cur,e1,hg,hh,hn,hm,hs,ht⟩
 ·injection e1 with a1 a2 a3;subst a1;subst a3
  exact ⟨by omega,by unfold maxLen;omega,Or.inl ⟨h3,rfl⟩⟩
 ·injection e1 with a1 a2 a3;subst a1;subst a3
  have hr:=(RowAt.of_owns h0).same fun o ho=>sL_get us o (by rw [hl];exact ho);exact ⟨hn,hm,Or.inr ⟨g,rfl,hg,hr.lt,hr⟩⟩
theorem infoS0:(Tryz.prog.info? 70).map (fun i=>(i.zero,i.size,i.bytes))=some (some (.agg #[.int .i64 0,.int .i64 0,.string ByteArray.empty,.int .i64 0,.int .i64 0]),5,48):=by kernel_rfl
theorem infoS:∃ i,Tryz.prog.info? 70=some i∧i.zero=some (.agg #[.int .i64 0,.int .i64 0,.string ByteArray.empty,.int .i64 0,.int .i64 0])∧i.size=5∧i.bytes=48:=by
 have h:=infoS0
 cases e:Tryz.prog.info? 70 with
 | none=>rw [e] at h;cases h
 | some i=>rw [e] at h;simp at h;exact ⟨i,rfl,h.1,h.2.1,h.2.2⟩
theorem newsS (w:World)(x0 x1 x2 x3 x4:Value)(t:TypeId):∀ j u,[x0,x1,x2,x3,x4][j]?=some u→(w.alloc (.cells #[x0,x1,x2,x3,x4] t)).cell? ((⟨w.heap.size,0,none⟩:Addr).add j)=some u:=by
 intro j u hu
 match j,hu with
 | 0,hu=>simp at hu;subst hu;simp [Addr.add]
 | 1,hu=>simp at hu;subst hu;simp [Addr.add]
 | 2,hu=>simp at hu;subst hu;simp [Addr.add]
 | 3,hu=>simp at hu;subst hu;simp [Addr.add]
 | 4,hu=>simp at hu;subst hu;simp [Addr.add]
 | j+5,hu=>simp at hu
theorem oneSc (u:M1.Upd):∀ v∈scs u,v.oneCell'=true:=by
 intro v hv;simp [scs] at hv
 rcases hv with rfl | rfl | rfl | rfl | rfl <;> rfl
theorem ownsS_empty (w:World)(e:TypeId):(w.alloc (.cells #[] e)).ownsRow w.heap.size e 5 (.slice (some ⟨w.heap.size,0,none⟩) 0 0) 0 (sL []):=by
 refine ⟨rfl,Or.inr ⟨w.heap.size,0,#[],rfl,Nat.le_refl _,?_,Nat.le_refl _,by unfold maxLen;omega,rfl,rfl⟩⟩;show (w.heap.push (.cells #[] e))[w.heap.size]?=_
 simp
end Go.Proofs.YtgcinolbkllkkaaGreat
namespace M1
def sps (us:List Upd)(tr:Int):List Upd:=if setOk us=true then spTo us tr us.length else []
theorem sps_len (us:List Upd)(tr:Int):(sps us tr).length≤us.length:=by
 unfold sps
 split
 ·exact spTo_len us tr us.length
 ·simp
end M1
namespace Go.Proofs.YtgcinolbkllkkaaGreat
open Go.ChangeShapes Go.WideShapes Go.ChangeAt Go.RowKit
def SpW (w w':World)(e:Ending)(r:List M1.Upd):Prop:=∃ (a:Option Addr) (c:Nat),e=.returned (.slice a r.length c)∧MG w' a r.length c w.heap.size w'.heap.size (scell r)
end Go.Proofs.YtgcinolbkllkkaaGreat
namespace M1
theorem fj_none {i:Int}:∀ {l:List Upd},(∀ x,x∈l→¬x.id=i)→fj l i=none
 | [],_=>rfl
 | x :: t,h=>by
  unfold fj;rw [if_neg (h x (by simp))];exact fj_none fun y hy=>h y (by simp [hy])
theorem fj_some {i:Int}{x:Upd}:∀ {l:List Upd},fj l i=some x→x∈l∧x.id=i
 | [],h=>by cases h
 | y :: t,h=>by
  unfold fj at h;by_cases c:y.id=i
  ·rw [if_pos c] at h;injection h with h;subst h;exact ⟨by simp,c⟩
  ·rw [if_neg c] at h
   obtain ⟨h1,h2⟩:=fj_some h;exact ⟨by simp [h1],h2⟩
theorem fj_at {l:List Upd}(h:l.Pairwise idlt){i:Nat}(hi:i<l.length):fj l (up l i).id=some (up l i):=by
 have hm:up l i∈l:=by
  have:up l i=l[i]:=by simp [up,List.getD,hi]
  rw [this];exact List.getElem_mem hi
 cases e:fj l (up l i).id with
 | none =>
  exfalso
  have:∀ (l:List Upd) (x:Upd),x∈l→¬fj l x.id=none:=by
   intro l
   induction l with
   | nil=>intro x hx;cases hx
   | cons y t ih =>
    intro x hx hn;unfold fj at hn;by_cases c:y.id=x.id
    ·rw [if_pos c] at hn;cases hn
    ·rw [if_neg c] at hn
     rcases List.mem_cons.1 hx with rfl | hx
     ·exact c rfl
     ·exact ih x hx hn
  exact this l _ hm e
 | some y =>
  obtain ⟨h1,h2⟩:=fj_some e
  congr 1
  obtain ⟨j,hj,e2⟩:=List.getElem_of_mem h1;have e3:up l i=l[i]:=by simp [up,List.getD,hi]
  rw [e3] at h2 ⊢;rw [←e2] at h2 ⊢;rw [List.pairwise_iff_getElem] at h;rcases Nat.lt_trichotomy i j with q | q | q
  ·have:=h i j hi hj q;unfold idlt at this;omega
  ·subst q;rfl
  ·have:=h j i hj hi q;unfold idlt at this;omega
def par (S:List Upd)(x:Upd):Option Upd:=fj S x.pa
def goR (S:List Upd)(x:Upd):Nat→Option Upd→Bool
 | 0,_=>false
 | _+1,none=>false
 | f+1,some y=>if y.id<x.id then false else if y.id=x.id then true else goR S x f (par S y)
def rootB (S:List Upd)(x:Upd):Bool:=match par S x with
 | none=>true
 | some y=>goR S x S.length (some y)
theorem id_inj {S:List Upd}(hS:S.Pairwise idlt){x y:Upd}(hx:x∈S)(hy:y∈S)(e:x.id=y.id):x=y:=by
 obtain ⟨i,hi,rfl⟩:=List.getElem_of_mem hx;obtain ⟨j,hj,rfl⟩:=List.getElem_of_mem hy;rw [List.pairwise_iff_getElem] at hS;rcases Nat.lt_trichotomy i j with q | q | q
 ·have:=hS i j hi hj q;unfold idlt at this;omega
 ·subst q;rfl
 ·have:=hS j i hj hi q;unfold idlt at this;omega
theorem fj_mem {S:List Upd}(hS:S.Pairwise idlt){x:Upd}(hx:x∈S):fj S x.id=some x:=by
 obtain ⟨i,hi,e⟩:=List.getElem_of_mem hx;have e2:up S i=x:=by rw [←e];simp [up,List.getD,hi]
 have:=fj_at hS hi;rw [e2] at this;exact this
theorem par_mem {S:List Upd}{x y:Upd}(h:par S x=some y):y∈S:=(fj_some h).1
theorem int_nodup_sub:∀ {l m:List Int},l.Nodup→(∀ x∈l,x∈m)→l.length≤m.length
 | [],m,_,_=>Nat.zero_le _
 | a :: t,m,hn,hs=>by
  rw [List.nodup_cons] at hn;have ha:a∈m:=hs a List.mem_cons_self;have h1:=int_nodup_sub (l:=t) (m:=m.erase a) hn.2 fun x hx=>(List.mem_erase_of_ne (show x≠a from fun e=>hn.1 (by rw [←e];exact hx))).2 (hs x (List.mem_cons_of_mem _ hx));have h2:=(List.perm_cons_erase ha).length_eq;simp at h2 ⊢
  omega
def Pth (S:List Upd)(x:Upd):List Upd→Prop
 | []=>False
 | [y]=>y.id=x.id
 | y :: z :: t=>x.id<y.id∧par S y=some z∧Pth S x (z :: t)
theorem goR_path {S:List Upd}{x:Upd}:∀ {f:Nat} {y:Upd},goR S x f (some y)=true→∃ l,Pth S x (y :: l)∧l.length<f
 | 0,y,h=>by cases h
 | f+1,y,h=>by
  unfold goR at h;by_cases c1:y.id<x.id
  ·rw [if_pos c1] at h;cases h
  ·rw [if_neg c1] at h
   by_cases c2:y.id=x.id
   ·exact ⟨[],c2,by simp⟩
   ·rw [if_neg c2] at h
    cases e:par S y with
    | none=>rw [e] at h;cases f <;> cases h
    | some z =>
     rw [e] at h;obtain ⟨l,hl,hf⟩:=goR_path h;exact ⟨z :: l,⟨by omega,e,hl⟩,by simp;omega⟩
theorem path_goR {S:List Upd}{x:Upd}:∀ {l:List Upd} {y:Upd} {f:Nat},Pth S x (y :: l)→l.length<f→goR S x f (some y)=true
 | [],y,0,_,h=>by simp at h
 | [],y,f+1,h,_=>by
  have h':y.id=x.id:=h;unfold goR;rw [if_neg (by omega),if_pos h']
 | z :: t,y,0,_,h=>by simp at h
 | z :: t,y,f+1,h,hf=>by
  obtain ⟨h1,h2,h3⟩:=h;unfold goR;rw [if_neg (by omega),if_neg (by omega),h2];exact path_goR h3 (by simp at hf;omega)
theorem path_mem {S:List Upd}{x:Upd}:∀ {l:List Upd} {y:Upd},y∈S→Pth S x (y :: l)→∀ z∈y :: l,z∈S
 | [],y,hy,_,z,hz=>by simp at hz;rw [hz];exact hy
 | w :: t,y,hy,h,z,hz=>by
  rcases List.mem_cons.1 hz with e | hz
  ·rw [e];exact hy
  ·exact path_mem (par_mem h.2.1) h.2.2 z hz
theorem path_from {S:List Upd}{x:Upd}:∀ {l:List Upd} {y z:Upd},Pth S x (y :: l)→z∈y :: l→∃ b,Pth S x (z :: b)∧(z :: b) <:+ (y :: l)
 | l,y,z,h,hz=>by
  rcases List.mem_cons.1 hz with e | hz'
  ·subst e;exact ⟨l,h,List.suffix_refl _⟩
  ·match l,h,hz' with
   | w :: t,h,hz' =>
    obtain ⟨b,h1,h2⟩:=path_from h.2.2 hz';exact ⟨b,h1,h2.trans (List.suffix_cons _ _)⟩
theorem path_nodup {S:List Upd}{x:Upd}(hS:S.Pairwise idlt):∀ {l:List Upd} {y:Upd},y∈S→Pth S x (y :: l)→∃ l',Pth S x (y :: l')∧((y :: l').map (·.id)).Nodup
 | [],y,_,h=>⟨[],h,by simp⟩
 | z :: t,y,hy,h=>by
  have hz:=par_mem h.2.1;obtain ⟨t',h1,h2⟩:=path_nodup hS hz h.2.2;by_cases c:y.id∈(z :: t').map (·.id)
  ·obtain ⟨u,hu,e⟩:=List.mem_map.1 c
   have hue:u=y:=id_inj hS (path_mem hz h1 u hu) hy e;rw [hue] at hu;obtain ⟨b,h3,h4⟩:=path_from h1 hu;exact ⟨b,h3,((h4.sublist.map _).nodup h2)⟩
  ·refine ⟨z :: t',⟨h.1,h.2.1,h1⟩,?_⟩
   rw [List.map_cons,List.nodup_cons];exact ⟨c,h2⟩
theorem goR_enough {S:List Upd}{x y:Upd}(hS:S.Pairwise idlt)(hy:y∈S){f:Nat}(h:goR S x f (some y)=true):goR S x S.length (some y)=true:=by
 obtain ⟨l,hl,_⟩:=goR_path h;obtain ⟨l',h1,h2⟩:=path_nodup hS hy hl;refine path_goR h1 ?_;have:=int_nodup_sub (m:=S.map (·.id)) h2 fun i hi=>by
  obtain ⟨u,hu,e⟩:=List.mem_map.1 hi;exact List.mem_map.2 ⟨u,path_mem hy h1 u hu,e⟩
 simp at this
 omega
end M1
