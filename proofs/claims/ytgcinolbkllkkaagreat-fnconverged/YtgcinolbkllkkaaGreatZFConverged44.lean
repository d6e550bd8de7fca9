/-
  Texts of one proof, joined: Math23, Fo1, MapS, SortSL, Sp3, RangeJ.
-/
import Derived.Test.YtgcinolbkllkkaaGreatZFConverged43
set_option linter.unusedSimpArgs false
set_option linter.unusedVariables false
namespace M1
abbrev idsO (O:List (Upd × Int)):List Int:=O.map fun q=>q.1.id
theorem nd_put {S:List Upd}(hS:S.Pairwise idlt){r s:Upd}{d:Nat}{D:Int}{O:List (Upd × Int)}(h:Pre S r s d O)(hn:(idsO O).Nodup):(idsO (O ++ [(s,D)])).Nodup:=by
 unfold idsO at *;rw [List.map_append,List.nodup_append];refine ⟨hn,by simp,fun a ha b hb=>?_⟩;simp at hb
 subst hb;obtain ⟨q,hq,e⟩:=List.mem_map.1 ha;intro e2;rcases h.out q hq with h1 | h1
 ·exact h1 (e.trans e2)
 ·exact h1 hS
theorem nd_grow {S:List Upd}(hS:S.Pairwise idlt):∀ (f:Nat) {r s:Upd} {d:Nat} {D:Int} {O:List (Upd × Int)},Pre S r s d O→(idsO O).Nodup→(idsO (O ++ growF S f s D)).Nodup
 | 0,r,s,d,D,O,_,hn=>by simpa [growF] using hn
 | f+1,r,s,d,D,O,h,hn=>by
  have key:∀ i,i≤(kids S s).length→(idsO (O ++ (s,D) :: kidsTo S f s D i)).Nodup:=by
   intro i
   induction i with
   | zero=>intro _;exact nd_put hS h hn
   | succ i ih =>
    intro hi;have ih':=ih (by omega);rw [kidsTo_step (by omega)];by_cases c:rootB S (up (kids S s) i)=true
    ·rw [if_pos c,List.append_nil];exact ih'
    ·rw [if_neg c]
     have:=nd_grow hS f (D:=D+1) (pre_kid hS (f:=f) (D:=D) h (by omega) (by simpa using c)) ih';have e:O ++ (s,D) :: (kidsTo S f s D i ++ growF S f (up (kids S s) i) (D+1))=(O ++ (s,D) :: kidsTo S f s D i) ++ growF S f (up (kids S s) i) (D+1):=by simp
     rw [e];exact this
  rw [growF_all];exact key _ (Nat.le_refl _)
theorem nd_for {S:List Upd}(hS:S.Pairwise idlt):∀ i,i≤S.length→(idsO (forTo S i)).Nodup:=by
 intro i
 induction i with
 | zero=>intro _;simp [forTo]
 | succ i ih =>
  intro hi;rw [forTo_step (by omega)];by_cases c:rootB S (up S i)=true
  ·rw [if_pos c];exact nd_grow hS _ (pre_root hS (by omega) c) (ih (by omega))
  ·rw [if_neg c,List.append_nil];exact ih (by omega)
theorem nd_len {S:List Upd}{O:List (Upd × Int)}(hn:(idsO O).Nodup)(hm:∀ q∈O,q.1∈S):O.length≤S.length:=by
 have:=int_nodup_sub (m:=S.map (·.id)) hn fun i hi=>by
  obtain ⟨q,hq,e⟩:=List.mem_map.1 hi;exact List.mem_map.2 ⟨q.1,hm q hq,e⟩
 simpa using this
theorem for_mem {S:List Upd}(hS:S.Pairwise idlt){i:Nat}{q:Upd × Int}(h:q∈forTo S i):q.1∈S:=by
 obtain ⟨s,hs,hq⟩:=List.mem_flatMap.1 h;have hsS:=List.mem_of_mem_take hs
 split at hq
 ·exact (grow_mem hS hsS hq).1
 ·cases hq
end M1
namespace Go.Proofs.YtgcinolbkllkkaaGreat
open Go.ChangeShapes Go.WideShapes Go.ChangeAt Go.RowKit
structure SpIn (w:World)(av:Option Addr)(m c B:Nat)(S:List M1.Upd):Prop where
 len:S.length=m
 cap:m≤c
 most:c≤maxLen
 lies:m=0∨∃ g,av=some ⟨g,0,none⟩∧g<B∧RowAt w g (m*5) (scell S)
theorem RowAt.belowB {w w':World}{g m B:Nat}{f:Nat→Value}(h:RowAt w g m f)(hb:Below B w w')(hg:g<B):RowAt w' g m f :=
 ⟨Nat.lt_of_lt_of_le h.1 hb.size,fun o ho=>⟨(hb.cell (p:=⟨g,o,none⟩) hg).trans (h.2 o ho).1,(hb.frozen (p:=⟨g,o,none⟩) hg).trans (h.2 o ho).2⟩⟩
theorem SpIn.below {w w':World}{av:Option Addr}{m c B:Nat}{S:List M1.Upd}(h:SpIn w av m c B S)(hb:Below B w w'):SpIn w' av m c B S :=
 ⟨h.len,h.cap,h.most,h.lies.imp id fun ⟨g,e,h1,r⟩=>⟨g,e,h1,r.belowB hb h1⟩⟩
theorem SpIn.of_mg {w:World}{av:Option Addr}{m c lo hi B:Nat}{S:List M1.Upd}(hl:S.length=m)(h:MG w av m c lo hi (scell S))(hB:hi≤B):SpIn w av m c B S :=
 ⟨hl,h.1,h.2.1,h.2.2.imp (fun x=>x.1) fun ⟨g,e,_,h2,r⟩=>⟨g,e,by omega,r⟩⟩
def spv (u:M1.Upd):Value:=.agg #[.int .i64 u.id,.int .i64 u.pa,.string u.s,.int .i64 u.st,.int .i64 u.en]
theorem zeroSpn (w:World):(zeroValue 70).run Tryz.prog w=.ok (spv M1.zeroU) w:=by kernel_rfl
def MapS (w:World)(b:Nat)(us:List M1.Upd):Prop:=∃ es:Array MapEntry,w.heap[b]?=some (.map es us.length)∧es.toList.map (fun e=>(e.key,e.val))=us.map (fun u=>(.int .i64 u.id,spv u))∧es.toList.map (·.born)=List.range us.length
theorem MapS.lt {w:World}{b:Nat}{us:List M1.Upd}(h:MapS w b us):b<w.heap.size:=by
 obtain ⟨es,hb,_⟩:=h;exact (Array.getElem?_eq_some_iff.1 hb).1
theorem MapS.block {w w':World}{b:Nat}{us:List M1.Upd}(h:MapS w b us)(e:w'.heap[b]?=w.heap[b]?):MapS w' b us:=by
 obtain ⟨es,hb,h2⟩:=h;exact ⟨es,e.trans hb,h2⟩
theorem MapS.below {w w':World}{b B:Nat}{us:List M1.Upd}(h:MapS w b us)(hB:Below B w w')(hb:b<B):MapS w' b us:=h.block (hB.block b hb)
theorem MapS.made (w:World):MapS (w.alloc (.map #[] 0)) w.heap.size []:=⟨#[],(MapKept.heap_alloc w _).1,rfl,rfl⟩
theorem findNowS (x:Int):∀ (es:List MapEntry) (us:List M1.Upd) (i:Nat),es.map (fun e=>(e.key,e.val))=us.map (fun u=>(.int .i64 u.id,spv u)) →
  Instr.findNow (.int .i64) (.int .i64 x) es i=some ((M1.fj us x).map fun u=>(i+M1.pj us x,spv u))
 | [],[],i,_=>rfl
 | [],_ :: _,_,h=>by cases h
 | _ :: _,[],_,h=>by cases h
 | e :: es,u :: us,i,h=>by
  rw [List.map_cons,List.map_cons,List.cons.injEq,Prod.mk.injEq] at h;obtain ⟨⟨h1,h2⟩,h3⟩:=h;have ih:=findNowS x es us (i+1) h3;unfold Instr.findNow M1.fj M1.pj;rw [h1];by_cases c:u.id=x
  ·subst c
   simp [Instr.sameNow,h2]
  ·have c':¬x=u.id:=fun e=>c e.symm
   simp only [Instr.sameNow,if_true,beq_iff_eq,c,c',if_false];have hb:(x==u.id)=false:=by simp [c']
   rw [hb];simp only [ih,if_neg c]
   cases M1.fj us x with
   | none=>rfl
   | some y=>simp;omega
theorem checkIntS (e:Bool)(a:Int)(w:World):(Instr.checkKey e 10000 2 (.int .i64 a)).run Tryz.prog w=.ok () w:=by
 cases e <;> kernel_rfl
theorem findKeyS (x:Int)(w:World)(es:List MapEntry)(us:List M1.Upd)(h:es.map (fun e=>(e.key,e.val))=us.map (fun u=>(.int .i64 u.id,spv u))) :
  (Instr.findKey 2 (.int .i64 x) es).run Tryz.prog w=.ok ((M1.fj us x).map fun u=>(M1.pj us x,spv u)) w:=by
 have:=findNowS x es us 0 h;unfold Instr.findKey;simp [run_underlying Tryz.underlying2,Result.andThen,this]
theorem run_lookupS {w:World}{b:Nat}{us:List M1.Upd}(h:MapS w b us)(x:Int) :
  (Instr.lookup 85 (.map (some b)) (.int .i64 x) true).run Tryz.prog w=.ok (.tuple #[spv ((M1.fj us x).getD M1.zeroU),.bool (M1.fj us x).isSome]) w:=by
 obtain ⟨es,hb,h2,_⟩:=h;have ho1:=findKeyS x w es.toList us h2;have hc:∀ e,(Instr.checkKey e 10000 2 (.int .i64 x)).run Tryz.prog w=.ok () w:=fun e=>checkIntS e x w
 cases hf:M1.fj us x with
 | none =>
  rw [hf] at ho1;simp [Instr.lookup,run_underlying Tryz.underlying85,MapKept.run_getObj_map hb,hc,ho1,zeroSpn,Result.andThen];rfl
 | some y =>
  rw [hf] at ho1;simp [Instr.lookup,run_underlying Tryz.underlying85,MapKept.run_getObj_map hb,hc,ho1,Result.andThen]
theorem run_updateS_new {w:World}{b:Nat}{us:List M1.Upd}(h:MapS w b us)(u:M1.Upd)(hf:M1.fj us u.id=none) :
  ∃ w',(Instr.mapUpdate 85 (.map (some b)) (.int .i64 u.id) (spv u)).run Tryz.prog w=.ok () w'∧MapS w' b (us ++ [u])∧w.grownBy w' (some b):=by
 obtain ⟨es,hb,h2,h3⟩:=h;have ho1:=findKeyS u.id w es.toList us h2;have hc:(Instr.checkKey false 10000 2 (.int .i64 u.id)).run Tryz.prog w=.ok () w:=checkIntS _ _ w;rw [hf] at ho1;refine ⟨ChangeMaps.setBlock w b (.map (es.push ⟨.int .i64 u.id,spv u,us.length⟩) (us.length+1)),?_,⟨es.push ⟨.int .i64 u.id,spv u,us.length⟩,?_,?_,?_⟩,⟨rfl,rfl,rfl,by simp [ChangeMaps.setBlock],fun i _ hi=>ChangeMaps.heap_setBlock_other hb _ (fun e=>hi (by rw [e]))⟩⟩
 ·simp [Instr.mapUpdate,run_underlying Tryz.underlying85,MapKept.run_getObj_map hb,hc,ho1,MapKept.run_setObj_map _ hb,Result.andThen,ChangeMaps.setBlock]
 ·rw [ChangeMaps.heap_setBlock_same hb _];simp
 ·simp [h2]
 ·simp [h3,List.range_succ]
end Go.Proofs.YtgcinolbkllkkaaGreat
namespace Go.Proofs
open Go.Shelf
def Tryz.sortS_ren:Go.Shelf.Ren:=⟨fun | 6=>66 | 15=>101 | 14=>100 | 28=>129 | 29=>130 | 20=>121 | 21=>122 | 22=>123 | 23=>124 | 24=>125 | 25=>126 | 26=>127 | 27=>128 | 46=>142 | 47=>143 | 48=>144 | 49=>145 | 50=>146 | 57=>164 | n=>n,fun | 22=>83 | 24=>70 | 25=>126 | 3=>3 | 39=>164 | 0=>0 | 53=>193 | 55=>173 | 4=>4 | 46=>186 | 45=>185 | 50=>190 | 5=>5 | 9=>9 | 66=>210 | 70=>213 | 76=>230 | 77=>231 | n=>n,fun | n=>n⟩
theorem Tryz.sortS:Go.Proofs.SlLaysF0.n6 Tryz.prog Tryz.sortS_ren:={
 mixed:=by kernel_rfl
 f6:=⟨Tryz.f66.name,by decide,Tryz.func66.trans (congrArg some (by kernel_rfl))⟩
 f14:=⟨Tryz.f100.name,by decide,Tryz.func100.trans (congrArg some (by kernel_rfl))⟩
 f15:=Tryz.func101.trans (congrArg some (by kernel_rfl))
 f20:=⟨Tryz.f121.name,by decide,Tryz.func121.trans (congrArg some (by kernel_rfl))⟩
 f21:=⟨Tryz.f122.name,by decide,Tryz.func122.trans (congrArg some (by kernel_rfl))⟩
 f22:=⟨Tryz.f123.name,by decide,Tryz.func123.trans (congrArg some (by kernel_rfl))⟩
 f23:=⟨Tryz.f124.name,by decide,Tryz.func124.trans (congrArg some (by kernel_rfl))⟩
 f24:=⟨Tryz.f125.name,by decide,Tryz.func125.trans (congrArg some (by kernel_rfl))⟩
 f25:=⟨Tryz.f126.name,by decide,Tryz.func126.trans (congrArg some (by kernel_rfl))⟩
 f26:=⟨Tryz.f127.name,by decide,Tryz.func127.trans (congrArg some (by kernel_rfl))⟩
 f27:=⟨Tryz.f128.name,by decide,Tryz.func128.trans (congrArg some (by kernel_rfl))⟩
 f28:=Tryz.func129.trans (congrArg some (by kernel_rfl))
 f29:=Tryz.func130.trans (congrArg some (by kernel_rfl))
 f46:=⟨Tryz.f142.name,by decide,Tryz.func142.trans (congrArg some (by kernel_rfl))⟩
 f47:=Tryz.func143.trans (congrArg some (by kernel_rfl))
 f48:=Tryz.func144.trans (congrArg some (by kernel_rfl))
 f49:=⟨Tryz.f145.name,by decide,Tryz.func145.trans (congrArg some (by kernel_rfl))⟩
 f50:=⟨Tryz.f146.name,by decide,Tryz.func146.trans (congrArg some (by kernel_rfl))⟩
 f57:=⟨Tryz.f164.name,by decide,Tryz.func164.trans (congrArg some (by kernel_rfl))⟩
 t0:=Tryz.underlying0
 a0:=Tryz.isAgg0
 z0:=Tryz.sizeOf0
 v0:=Tryz.zeroValue0
 t3:=Tryz.underlying3
 a3:=Tryz.isAgg3
 z3:=Tryz.sizeOf3
 v3:=Tryz.zeroValue3
 t4:=Tryz.underlying4
 a4:=Tryz.isAgg4
 z4:=Tryz.sizeOf4
 v4:=Tryz.zeroValue4
 t5:=Tryz.underlying5
 a5:=Tryz.isAgg5
 z5:=Tryz.sizeOf5
 v5:=Tryz.zeroValue5
 t9:=Tryz.underlying9
 a9:=Tryz.isAgg9
 z9:=Tryz.sizeOf9
 v9:=Tryz.zeroValue9
 t22:=Tryz.underlying83
 a22:=Tryz.isAgg83
 z22:=Tryz.sizeOf83
 v22:=Tryz.zeroValue83
 t25:=Tryz.underlying126
 a25:=Tryz.isAgg126
 z25:=Tryz.sizeOf126
 v25:=Tryz.zeroValue126
 t39:=Tryz.underlying164
 a39:=Tryz.isAgg164
 z39:=Tryz.sizeOf164
 v39:=Tryz.zeroValue164
 t45:=Tryz.underlying185
 a45:=Tryz.isAgg185
 z45:=Tryz.sizeOf185
 v45:=Tryz.zeroValue185
 t46:=Tryz.underlying186
 a46:=Tryz.isAgg186
 z46:=Tryz.sizeOf186
 v46:=Tryz.zeroValue186
 t50:=Tryz.underlying190
 a50:=Tryz.isAgg190
 z50:=Tryz.sizeOf190
 v50:=Tryz.zeroValue190
 t53:=Tryz.underlying193
 a53:=Tryz.isAgg193
 z53:=Tryz.sizeOf193
 v53:=Tryz.zeroValue193
 t55:=Tryz.underlying173
 a55:=Tryz.isAgg173
 z55:=Tryz.sizeOf173
 v55:=Tryz.zeroValue173
 t66:=Tryz.underlying210
 a66:=Tryz.isAgg210
 z66:=Tryz.sizeOf210
 v66:=Tryz.zeroValue210
 t70:=Tryz.underlying213
 a70:=Tryz.isAgg213
 z70:=Tryz.sizeOf213
 v70:=Tryz.zeroValue213
 t76:=Tryz.underlying230
 a76:=Tryz.isAgg230
 z76:=Tryz.sizeOf230
 v76:=Tryz.zeroValue230
 t77:=Tryz.underlying231
 a77:=Tryz.isAgg231
 z77:=Tryz.sizeOf231
 v77:=Tryz.zeroValue231 }
end Go.Proofs
namespace Go.Proofs.YtgcinolbkllkkaaGreat
open Go.ChangeShapes Go.WideShapes Go.ChangeAt Go.RowKit Go.Sort Go.Shelf Go.Lib
theorem oneS (u:M1.Upd):∀ v∈scs u,v.oneCell'=true:=by
 intro v hv;simp [scs] at hv
 rcases hv with rfl | rfl | rfl | rfl | rfl <;> rfl
set_option maxHeartbeats 8000000 in
theorem spans1_grew (u v:M1.Upd)(w:World) :
  Calls Tryz.prog 67 #[.agg #[.int .i64 u.id,.int .i64 u.pa,.string u.s,.int .i64 u.st,.int .i64 u.en],.agg #[.int .i64 v.id,.int .i64 v.pa,.string v.s,.int .i64 v.st,.int .i64 v.en]] w fun e w'=>e=.returned (.int .i64 (M1.cmpI u.id v.id))∧Grew w w':=by
 go_enter Tryz.func67,Tryz.ntmps67
 go_wp2_with fail
 refine (compare_any _ _ _).mono ?_;rintro e w1 ⟨rfl,hb1⟩;subst hb1;go_wp2_with fail
 go_ret
 refine ⟨rfl,?_⟩;repeat (first | exact Grew.refl _ | refine Grew.drew ?_ | refine Grew.alloc ?_ _)
theorem isAggS (w:World):(isAgg 70).run Tryz.prog w=.ok true w:=by kernel_rfl
theorem sizeOfS (w:World):(Go.sizeOf 70).run Tryz.prog w=.ok 5 w:=by kernel_rfl
def ordS (u v:M1.Upd):Int:=M1.cmpI u.id v.id
theorem ltS (u v:M1.Upd):ltOf ordS u v=decide (u.id<v.id):=by
 unfold ltOf ordS M1.cmpI
 split
 ·simp;omega
 ·split <;> simp <;> omega
theorem swoS:SWO (ltOf ordS) where
 irrefl x:=by rw [ltS];simp
 trans x y z h1 h2:=by rw [ltS] at *;simp at *;omega
 ntrans x y z h1 h2:=by rw [ltS] at *;simp at *;omega
theorem cmpS (blk off size:Nat)(w:World):CmpLays Tryz.prog 67 #[] scs 5 ordS blk off size w :=
 fun _ _ _ _ x y=>spans1_grew x y _
theorem up_toArrayS (us:List M1.Upd)(i:Nat):us.toArray[i]! = M1.up us i:=by
 unfold M1.up;by_cases h:i<us.length
 ·simp [h,List.getD]
 ·simp [h,List.getD];rfl
theorem holdsS {w:World}{blk:Nat}{us:List M1.Upd}(h:RowAt w blk (us.length*5) (scell us)):HoldsK scs 5 w blk 0 us.toArray:=by
 intro j hj;have hj':j<us.length*5:=by simpa using hj
 have e:(flatK scs 5 us.toArray)[j]! = scell us j:=by
  rw [get_flatK scs 5 us.toArray j (by simpa using hj'),up_toArrayS];unfold scell;have:j % 5<(scs (M1.up us (j / 5))).length:=by show j % 5<5;omega
  simp [List.getD,this]
 rw [Nat.zero_add,e];exact ⟨h.cell hj',h.free hj'⟩
theorem ofHoldsS {w:World}{blk:Nat}{us:List M1.Upd}(h:HoldsK scs 5 w blk 0 us.toArray)(hb:blk<w.heap.size):RowAt w blk (us.length*5) (scell us):=by
 refine ⟨hb,fun j hj=>?_⟩;have hq:=h j (by simpa using hj);have e:(flatK scs 5 us.toArray)[j]! = scell us j:=by
  rw [get_flatK scs 5 us.toArray j (by simpa using hj),up_toArrayS];unfold scell;have:j % 5<(scs (M1.up us (j / 5))).length:=by show j % 5<5;omega
  simp [List.getD,this]
 rw [Nat.zero_add,e] at hq;exact hq
theorem grSortS (w:World)(blk n:Nat)(d:Array M1.Upd)(os:Array Obj):Gr blk w (sortWorldK scs 5 w blk 0 n d os):=by
 refine ⟨rfl,rfl,rfl,by simp [sortWorldK,grow,putRowK,putRow,mapBlock,ahead],fun k hk hn=>?_⟩;have hne:¬blk=k:=fun e=>hn (by rw [e]);show ((w.heap.modify blk (onCells (putCells id 0 (flatK scs 5 d)))) ++ os)[k]?=w.heap[k]?
 rw [Array.getElem?_append_left (by simpa using hk),Array.getElem?_modify];simp [hne]
theorem sortS_any (blk cap:Nat)(us:List M1.Upd)(w:World)(hrow:RowAt w blk (us.length*5) (scell us))(hn:us.length≤1048576) :
  Calls Tryz.prog 66 #[.slice (some ⟨blk,0,none⟩) us.length cap,.func (.func 67) #[] #[]] w fun e w'=>e=.returned (.tuple #[])∧∃ ns:List M1.Upd,ns.Perm us∧(∀ i j,i<j→j<ns.length→¬(M1.up ns j).id<(M1.up ns i).id)∧RowAt w' blk (us.length*5) (scell ns)∧Gr blk w w':=by
 have eg:∀ args w,(callFunc 67 args).run Tryz.prog w=.ok (.enter 67 args) w:=enters_of Tryz.func67 (by kernel_rfl) rfl;have hcon:=AnyQ.slices_SortFunc Tryz.sortS 5 isAggS sizeOfS scs (fun _=>rfl) oneS ordS swoS 67 #[] blk 0 cap us.toArray w eg (cmpS blk 0 _ w) (holdsS hrow) hrow.lt (by simp;omega);simp only [List.size_toArray] at hcon;refine Calls.mono hcon ?_;rintro e w' ⟨rfl,d',n,os,hp,hs,rfl⟩;obtain ⟨h1,_,h3⟩:=hp;have hsz:d'.size=us.length:=by simpa using h1
 have e1:d'.extract 0 us.length=d':=by rw [←hsz];simp
 have e2:us.toArray.extract 0 us.length=us.toArray:=by simp
 rw [e1,e2] at h3;have hl:d'.toList.length=us.length:=by simpa using hsz
 refine ⟨rfl,d'.toList,by simpa using h3,fun i j hij hj=>?_,?_,grSortS _ _ _ _ _⟩
 ·have:=hs i j (Nat.zero_le _) hij (by omega)
  rw [ltS] at this;have ea:∀ i,d'[i]! = M1.up d'.toList i:=fun i=>by
   have:=up_toArrayS d'.toList i
   simpa using this
  rw [ea,ea] at this
  simpa using this
 ·rw [←hl]
  refine ofHoldsS ?_ ?_
  ·have:=holdsK_sortWorldK_c (enc:=scs) (k:=5) (w:=w) (blk:=blk) (off:=0) us.toArray d' n os (holdsS hrow) hrow.lt (by simpa using hsz)
   simpa using this
  ·have:=size_sortWorldK_c (enc:=scs) (k:=5) (w:=w) (blk:=blk) (off:=0) n d' os
   have h2:=hrow.lt;omega
theorem sortS_none (p:Option Addr)(cap:Nat)(fv:Value)(w:World) :
  Calls Tryz.prog 66 #[.slice p 0 cap,fv] w fun e w'=>e=.returned (.tuple #[])∧w'=w:=AnyF.slices_SortFunc_none Tryz.sortS p cap fv w
end Go.Proofs.YtgcinolbkllkkaaGreat
namespace Go.Proofs.YtgcinolbkllkkaaGreat
open Go.ChangeShapes Go.WideShapes Go.ChangeAt Go.RowKit
open Go.ChangeMaps (setBlock)
theorem entryJ_at {es:Array MapEntry}{us:List M1.Upd}(h2:es.toList.map (fun e=>(e.key,e.val))=us.map (fun u=>(.int .i64 u.id,uv u)))(h3:es.toList.map (·.born)=List.range us.length){e:MapEntry}(he:e∈es.toList) :
  e.born<us.length∧e.key=.int .i64 (M1.up us e.born).id∧e.val=uv (M1.up us e.born):=by
 obtain ⟨j,hj⟩:=List.mem_iff_getElem?.1 he;have b1:(es.toList.map (·.born))[j]?=some e.born:=by rw [List.getElem?_map,hj];rfl
 rw [h3] at b1;have b2:=List.getElem?_eq_some_iff.1 b1;obtain ⟨b3,b4⟩:=b2;simp at b3 b4
 have k1:(es.toList.map (fun e=>(e.key,e.val)))[j]?=some (e.key,e.val):=by rw [List.getElem?_map,hj];rfl
 rw [h2,List.getElem?_map,List.getElem?_eq_getElem b3] at k1;simp at k1
 have hu:M1.up us j=us[j]:=by simp [M1.up,List.getD,b3]
 rw [←b4,hu];exact ⟨b3,k1.1.symm,k1.2.symm⟩
structure ItJ (w:World)(r b:Nat)(us:List M1.Upd)(sn:List Nat):Prop where
 it:w.heap[r]?=some (.mapIter (some b) us.length sn.toArray us.length)
 map:MapJ w b us
 nd:sn.Nodup
 lt:∀ i∈sn,i<us.length
theorem ItJ.rlt {w:World}{r b:Nat}{us:List M1.Upd}{sn:List Nat}(h:ItJ w r b us sn):r<w.heap.size:=(Array.getElem?_eq_some_iff.1 h.it).1
theorem ItJ.ne {w:World}{r b:Nat}{us:List M1.Upd}{sn:List Nat}(h:ItJ w r b us sn):¬r=b:=fun e=>by
 obtain ⟨es,hb,_⟩:=h.map;have:=h.it;rw [e,hb] at this;cases this
theorem ItJ.kept {w w':World}{r b:Nat}{us:List M1.Upd}{sn:List Nat}(h:ItJ w r b us sn)(e1:w'.heap[r]?=w.heap[r]?)(e2:w'.heap[b]?=w.heap[b]?):ItJ w' r b us sn:=⟨e1.trans h.it,h.map.block e2,h.nd,h.lt⟩
theorem ItJ.below {w w':World}{r b:Nat}{us:List M1.Upd}{sn:List Nat}(h:ItJ w r b us sn)(hB:Below w.heap.size w w'):ItJ w' r b us sn:=h.kept (hB.block r h.rlt) (hB.block b h.map.lt)
theorem ItJ.len {w:World}{r b:Nat}{us:List M1.Upd}{sn:List Nat}(h:ItJ w r b us sn):sn.length≤us.length:=by
 have hs:sn ⊆ List.range us.length:=fun i hi=>by simp;exact h.lt i hi
 have:=M1.nodup_sub h.nd hs
 simpa using this
theorem itJ_made {w:World}{b:Nat}{us:List M1.Upd}(h:MapJ w b us):ItJ (w.alloc (.mapIter (some b) us.length #[] us.length)) w.heap.size b us []:=by
 refine ⟨heap_alloc_new w _,h.below ((Below.refl w.heap.size w).alloc (Nat.le_refl _) _) h.lt,List.nodup_nil,fun i hi=>by cases hi⟩
theorem run_nextJ {w:World}{r b:Nat}{us:List M1.Upd}{sn:List Nat}(h:ItJ w r b us sn)(ty:TypeId) :
  (sn.length=us.length∧(Instr.next (.pointer (some ⟨r,0,none⟩)) false ty).run Tryz.prog w=.ok (.tuple #[.bool false]) w) ∨
  ∃ i w',i<us.length∧(Instr.next (.pointer (some ⟨r,0,none⟩)) false ty).run Tryz.prog w=.ok (.tuple #[.bool true,.int .i64 (M1.up us i).id,uv (M1.up us i)]) w'∧ItJ w' r b us (sn ++ [i])∧w.grownBy w' (some r)∧w'.heap.size=w.heap.size ∧
   (Instr.entry (.pointer (some ⟨r,0,none⟩))).run Tryz.prog w'=.ok (.tuple #[.int .i64 (M1.up us i).id,uv (M1.up us i)]) w':=by
 have hne:=h.ne;obtain ⟨es,hb,h2,h3⟩:=h.map;have hold:∀ x∈es.toList,x.born<us.length:=fun x hx=>(entryJ_at h2 h3 hx).1;rcases run_next_at (P:=Tryz.prog) w ty r b us.length us.length sn.toArray es us.length h.it hb hold (Nat.le_refl _) with ⟨h0,hrun⟩ | ⟨e,he,w1,hw1,hrun⟩
 ·left
  refine ⟨?_,hrun⟩;have hall:List.range us.length ⊆ sn:=fun i hi=>by
   have hi':i∈es.toList.map (·.born):=by rw [h3];exact hi
   obtain ⟨e,he,rfl⟩:=List.mem_map.1 hi';by_cases hc:e.born∈sn
   ·exact hc
   ·have:e∈(leftOf es sn.toArray).toList:=by
     unfold leftOf
     simp
     exact ⟨by simpa using he,hc⟩
    have hz:(leftOf es sn.toArray).toList=[]:=by
     have:leftOf es sn.toArray=#[]:=Array.eq_empty_of_size_eq_zero h0;rw [this]
    rw [hz] at this;cases this
  have l1:=h.len;have l2:=M1.nodup_sub (List.nodup_range) hall;simp at l2
  omega
 ·right
  have he2:e∈es.toList∧e.born ∉ sn:=by
   unfold leftOf at he;simp at he
   exact ⟨by simpa using he.1,he.2⟩
  obtain ⟨hlt,hk,hv⟩:=entryJ_at h2 h3 he2.1;have hr1:w1.heap[r]?=some (.mapIter (some b) us.length sn.toArray us.length):=by rcases hw1 with rfl | rfl <;> exact h.it
  have hb1:w1.heap[b]?=some (.map es us.length):=by rcases hw1 with rfl | rfl <;> exact hb
  have hs1:w1.heap=w.heap:=by rcases hw1 with rfl | rfl <;> rfl
  have hitr:(setBlock w1 r (.mapIter (some b) us.length (sn.toArray.push e.born) us.length)).heap[r]?=some (.mapIter (some b) us.length (sn.toArray.push e.born) us.length):=by
   have:=(Array.getElem?_eq_some_iff.1 hr1).1;simp [setBlock,this]
  have hmap:(setBlock w1 r (.mapIter (some b) us.length (sn.toArray.push e.born) us.length)).heap[b]?=some (.map es us.length):=by
   simp [setBlock,hne,hb1]
  refine ⟨e.born,setBlock w1 r (.mapIter (some b) us.length (sn.toArray.push e.born) us.length),hlt,by rw [hrun,←hk,←hv],⟨by rw [hitr];simp,⟨es,hmap,h2,h3⟩,?_,?_⟩,?_,by simp [setBlock,hs1],?_⟩
  ·rw [List.nodup_append]
   exact ⟨h.nd,by simp,fun x hx y hy=>by simp at hy;subst hy;intro e;subst e;exact he2.2 hx⟩
  ·intro i hi
   rcases List.mem_append.1 hi with hi | hi
   ·exact h.lt i hi
   ·simp at hi;rw [hi];exact hlt
  ·refine ⟨?_,?_,?_,by simp [setBlock,hs1],fun k hk hn=>?_⟩
   ·rcases hw1 with rfl | rfl <;> rfl
   ·rcases hw1 with rfl | rfl <;> rfl
   ·rcases hw1 with rfl | rfl <;> rfl
   ·have:¬r=k:=fun e=>hn (by rw [e])
    simp [setBlock,this,hs1]
  ·have:=run_entry_at (P:=Tryz.prog) (setBlock w1 r (.mapIter (some b) us.length (sn.toArray.push e.born) us.length)) r b us.length sn.toArray es us.length e hitr hmap he2.1 (by rw [h3];exact List.nodup_range)
   rw [this,←hk,←hv]
theorem wpList_rangeJ {w:World}{ops:Array Oper}{rest:List Oper}{o:Oper}{a:Act}{Q:Exit→Act→World→Prop}
  (hg:o.guard=none) (m:Operand) (hop:o.op=Op.range 121 m) (b:Nat) (us:List M1.Upd) (hm:a.eval m=.map (some b)) (hown:MapJ w b us)
  (hK:∀ w',ItJ w' w.heap.size b us []→Below w.heap.size w w'→w'.heap.size=w.heap.size+1→wpList Tryz.prog ops Q rest (a.put o.dst (.pointer (some ⟨w.heap.size,0,none⟩))) w') :
  wpList Tryz.prog ops Q (o :: rest) a w:=by
 refine wpList_plain hg fun K' hK'=>?_;obtain ⟨es,hb,h2⟩:=hown;have hrun:=run_range_map (P:=Tryz.prog) w 121 _ _ b es us.length Tryz.underlying121 hb;unfold Oper.wp;simp [execOp,hop,hm,hrun,Result.andThen]
 exact hK' _ _ (hK _ (itJ_made ⟨es,hb,h2⟩) ((Below.refl _ _).alloc (Nat.le_refl _) _) (by simp))
theorem wpList_nextJ {w:World}{ops:Array Oper}{rest:List Oper}{o:Oper}{a:Act}{Q:Exit→Act→World→Prop}
  (hg:o.guard=none) (it:Operand) (hop:o.op=Op.next it false) (r b:Nat) (us:List M1.Upd) (sn:List Nat) (hit:a.eval it=.pointer (some ⟨r,0,none⟩)) (h:ItJ w r b us sn)
  (hDone:sn.length=us.length→wpList Tryz.prog ops Q rest (a.put o.dst (.tuple #[.bool false])) w)
  (hMore:∀ i w',i<us.length→ItJ w' r b us (sn ++ [i])→w.grownBy w' (some r)→w'.heap.size=w.heap.size→(Instr.entry (.pointer (some ⟨r,0,none⟩))).run Tryz.prog w'=.ok (.tuple #[.int .i64 (M1.up us i).id,uv (M1.up us i)]) w' →
   wpList Tryz.prog ops Q rest (a.put o.dst (.tuple #[.bool true,.int .i64 (M1.up us i).id,uv (M1.up us i)])) w') :
  wpList Tryz.prog ops Q (o :: rest) a w:=by
 refine wpList_plain hg fun K' hK'=>?_;unfold Oper.wp;rcases run_nextJ h o.type with ⟨h0,hrun⟩ | ⟨i,w',hi,hrun,h1,h2,h3,h4⟩
 ·simp [execOp,hop,hit,hrun,Result.andThen]
  exact hK' _ _ (hDone h0)
 ·simp [execOp,hop,hit,hrun,Result.andThen]
  exact hK' _ _ (hMore i w' hi h1 h2 h3 h4)
end Go.Proofs.YtgcinolbkllkkaaGreat
