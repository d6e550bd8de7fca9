/-
  Texts of one proof, joined: RangeU, UpdImpl.
-/
import Derived.Test.YtgcinolbkllkkaaGreatZFConverged02
import Derived.Maps.RangeRun
import Derived.Maps.RangeWalk
set_option linter.unusedSimpArgs false
set_option linter.unusedVariables false
namespace M1
theorem nodup_sub:∀ {l m:List Nat},l.Nodup→(∀ x∈l,x∈m)→l.length≤m.length
 | [],m,_,_=>Nat.zero_le _
 | a :: t,m,hn,hs=>by
  rw [List.nodup_cons] at hn;have ha:a∈m:=hs a List.mem_cons_self;have h1:=nodup_sub (l:=t) (m:=m.erase a) hn.2 fun x hx=>(List.mem_erase_of_ne (show x≠a from fun e=>hn.1 (by rw [←e];exact hx))).2 (hs x (List.mem_cons_of_mem _ hx));have h2:=(List.perm_cons_erase ha).length_eq;simp at h2 ⊢
  omega
theorem nodup_perm:∀ {l m:List Nat},l.Nodup→(∀ x∈l,x∈m)→m.length≤l.length→l.Perm m
 | [],m,_,_,h=>by
  have:m=[]:=List.eq_nil_of_length_eq_zero (by simpa using h);rw [this]
 | a :: t,m,hn,hs,h=>by
  rw [List.nodup_cons] at hn;have ha:a∈m:=hs a List.mem_cons_self;have hp:=List.perm_cons_erase ha;have h2:=hp.length_eq;simp at h2 h
  exact ((nodup_perm (l:=t) (m:=m.erase a) hn.2 (fun x hx=>(List.mem_erase_of_ne (show x≠a from fun e=>hn.1 (by rw [←e];exact hx))).2 (hs x (List.mem_cons_of_mem _ hx))) (by omega)).cons a).trans hp.symm
end M1
namespace Go.Proofs.YtgcinolbkllkkaaGreat
open Go.ChangeShapes Go.WideShapes Go.ChangeAt Go.RowKit
open Go.ChangeMaps (setBlock)
def MapN (w:World)(b:Nat)(us:List M1.Upd):Prop :=
 ∃ es:Array MapEntry,w.heap[b]?=some (.map es us.length)∧es.toList.map (fun e=>(e.key,e.val))=us.map (fun u=>(dv u.dr u.dn,uv u))∧es.toList.map (·.born)=List.range us.length
theorem MapN.is {w:World}{b:Nat}{us:List M1.Upd}(h:MapN w b us):MapIs w b us:=by
 obtain ⟨es,h1,h2,_⟩:=h;exact ⟨es,_,h1,h2⟩
theorem MapN.lt {w:World}{b:Nat}{us:List M1.Upd}(h:MapN w b us):b<w.heap.size:=h.is.lt
theorem MapN.block {w w':World}{b:Nat}{us:List M1.Upd}(h:MapN w b us)(e:w'.heap[b]?=w.heap[b]?):MapN w' b us:=by
 obtain ⟨es,hb,h2⟩:=h;exact ⟨es,e.trans hb,h2⟩
theorem MapN.below {w w':World}{b B:Nat}{us:List M1.Upd}(h:MapN w b us)(hB:Below B w w')(hb:b<B):MapN w' b us:=h.block (hB.block b hb)
theorem MapN.made (w:World):MapN (w.alloc (.map #[] 0)) w.heap.size []:=⟨#[],(MapKept.heap_alloc w _).1,rfl,rfl⟩
theorem entry_at {es:Array MapEntry}{us:List M1.Upd}(h2:es.toList.map (fun e=>(e.key,e.val))=us.map (fun u=>(dv u.dr u.dn,uv u)))(h3:es.toList.map (·.born)=List.range us.length){e:MapEntry}(he:e∈es.toList) :
  e.born<us.length∧e.key=dv (M1.up us e.born).dr (M1.up us e.born).dn∧e.val=uv (M1.up us e.born):=by
 obtain ⟨j,hj⟩:=List.mem_iff_getElem?.1 he;have b1:(es.toList.map (·.born))[j]?=some e.born:=by rw [List.getElem?_map,hj];rfl
 rw [h3] at b1;have b2:=List.getElem?_eq_some_iff.1 b1;obtain ⟨b3,b4⟩:=b2;simp at b3 b4
 have k1:(es.toList.map (fun e=>(e.key,e.val)))[j]?=some (e.key,e.val):=by rw [List.getElem?_map,hj];rfl
 rw [h2,List.getElem?_map,List.getElem?_eq_getElem b3] at k1;simp at k1
 have hu:M1.up us j=us[j]:=by simp [M1.up,List.getD,b3]
 rw [←b4,hu];exact ⟨b3,k1.1.symm,k1.2.symm⟩
structure ItN (w:World)(r b:Nat)(us:List M1.Upd)(sn:List Nat):Prop where
 it:w.heap[r]?=some (.mapIter (some b) us.length sn.toArray us.length)
 map:MapN w b us
 nd:sn.Nodup
 lt:∀ i∈sn,i<us.length
theorem ItN.rlt {w:World}{r b:Nat}{us:List M1.Upd}{sn:List Nat}(h:ItN w r b us sn):r<w.heap.size:=(Array.getElem?_eq_some_iff.1 h.it).1
theorem ItN.ne {w:World}{r b:Nat}{us:List M1.Upd}{sn:List Nat}(h:ItN w r b us sn):¬r=b:=fun e=>by
 obtain ⟨es,hb,_⟩:=h.map;have:=h.it;rw [e,hb] at this;cases this
theorem ItN.kept {w w':World}{r b:Nat}{us:List M1.Upd}{sn:List Nat}(h:ItN w r b us sn)(e1:w'.heap[r]?=w.heap[r]?)(e2:w'.heap[b]?=w.heap[b]?):ItN w' r b us sn:=⟨e1.trans h.it,h.map.block e2,h.nd,h.lt⟩
theorem ItN.below {w w':World}{r b:Nat}{us:List M1.Upd}{sn:List Nat}(h:ItN w r b us sn)(hB:Below w.heap.size w w'):ItN w' r b us sn:=h.kept (hB.block r h.rlt) (hB.block b h.map.lt)
theorem ItN.len {w:World}{r b:Nat}{us:List M1.Upd}{sn:List Nat}(h:ItN w r b us sn):sn.length≤us.length:=by
 have hs:sn ⊆ List.range us.length:=fun i hi=>by simp;exact h.lt i hi
 have:=M1.nodup_sub h.nd hs
 simpa using this
theorem it_made {w:World}{b:Nat}{us:List M1.Upd}(h:MapN w b us):ItN (w.alloc (.mapIter (some b) us.length #[] us.length)) w.heap.size b us []:=by
 refine ⟨heap_alloc_new w _,h.below ((Below.refl w.heap.size w).alloc (Nat.le_refl _) _) h.lt,List.nodup_nil,fun i hi=>by cases hi⟩
theorem run_nextN {w:World}{r b:Nat}{us:List M1.Upd}{sn:List Nat}(h:ItN w r b us sn)(ty:TypeId) :
  (sn.length=us.length∧(Instr.next (.pointer (some ⟨r,0,none⟩)) false ty).run Tryz.prog w=.ok (.tuple #[.bool false]) w) ∨
  ∃ i w',i<us.length∧(Instr.next (.pointer (some ⟨r,0,none⟩)) false ty).run Tryz.prog w=.ok (.tuple #[.bool true,dv (M1.up us i).dr (M1.up us i).dn,uv (M1.up us i)]) w'∧ItN w' r b us (sn ++ [i])∧w.grownBy w' (some r)∧w'.heap.size=w.heap.size ∧
   (Instr.entry (.pointer (some ⟨r,0,none⟩))).run Tryz.prog w'=.ok (.tuple #[dv (M1.up us i).dr (M1.up us i).dn,uv (M1.up us i)]) w':=by
 have hne:=h.ne;obtain ⟨es,hb,h2,h3⟩:=h.map;have hold:∀ x∈es.toList,x.born<us.length:=fun x hx=>(entry_at h2 h3 hx).1;rcases run_next_at (P:=Tryz.prog) w ty r b us.length us.length sn.toArray es us.length h.it hb hold (Nat.le_refl _) with ⟨h0,hrun⟩ | ⟨e,he,w1,hw1,hrun⟩
 ·left
  refine ⟨?_,hrun⟩;have hall:List.range us.length ⊆ sn:=fun i hi=>by
   have hi':i∈es.toList.map (·.born):=by rw [h3];exact hi
   obtain ⟨e,he,rfl⟩:=List.mem_map.1 hi';by_cases hc:e.born∈sn
   ·exact hc
   ·have:e∈(leftOf es sn.toArray).toList:=by
     unfold leftOf
     simp
     exact ⟨by simpa using he,hc⟩
    have hz:(leftOf es sn.toArray).toList=[]:=by
     have:leftOf es sn.toArray=#[]:=Array.eq_empty_of_size_eq_zero h0;rw [this]
    rw [hz] at this;cases this
  have l1:=h.len;have l2:=M1.nodup_sub (List.nodup_range) hall;simp at l2
  omega
 ·right
  have he2:e∈es.toList∧e.born ∉ sn:=by
   unfold leftOf at he;simp at he
   exact ⟨by simpa using he.1,he.2⟩
  obtain ⟨hlt,hk,hv⟩:=entry_at h2 h3 he2.1;have hr1:w1.heap[r]?=some (.mapIter (some b) us.length sn.toArray us.length):=by rcases hw1 with rfl | rfl <;> exact h.it
  have hb1:w1.heap[b]?=some (.map es us.length):=by rcases hw1 with rfl | rfl <;> exact hb
  have hs1:w1.heap=w.heap:=by rcases hw1 with rfl | rfl <;> rfl
  have hitr:(setBlock w1 r (.mapIter (some b) us.length (sn.toArray.push e.born) us.length)).heap[r]?=some (.mapIter (some b) us.length (sn.toArray.push e.born) us.length):=by
   have:=(Array.getElem?_eq_some_iff.1 hr1).1;simp [setBlock,this]
  have hmap:(setBlock w1 r (.mapIter (some b) us.length (sn.toArray.push e.born) us.length)).heap[b]?=some (.map es us.length):=by
   simp [setBlock,hne,hb1]
  refine ⟨e.born,setBlock w1 r (.mapIter (some b) us.length (sn.toArray.push e.born) us.length),hlt,by rw [hrun,←hk,←hv],⟨by rw [hitr];simp,⟨es,hmap,h2,h3⟩,?_,?_⟩,?_,by simp [setBlock,hs1],?_⟩
  ·rw [List.nodup_append]
   exact ⟨h.nd,by simp,fun x hx y hy=>by simp at hy;subst hy;intro e;subst e;exact he2.2 hx⟩
  ·intro i hi
   rcases List.mem_append.1 hi with hi | hi
   ·exact h.lt i hi
   ·simp at hi;rw [hi];exact hlt
  ·refine ⟨?_,?_,?_,by simp [setBlock,hs1],fun k hk hn=>?_⟩
   ·rcases hw1 with rfl | rfl <;> rfl
   ·rcases hw1 with rfl | rfl <;> rfl
   ·rcases hw1 with rfl | rfl <;> rfl
   ·have:¬r=k:=fun e=>hn (by rw [e])
    simp [setBlock,this,hs1]
  ·have:=run_entry_at (P:=Tryz.prog) (setBlock w1 r (.mapIter (some b) us.length (sn.toArray.push e.born) us.length)) r b us.length sn.toArray es us.length e hitr hmap he2.1 (by rw [h3];exact List.nodup_range)
   rw [this,←hk,←hv]
theorem wpList_rangeN {w:World}{ops:Array Oper}{rest:List Oper}{o:Oper}{a:Act}{Q:Exit→Act→World→Prop}
  (hg:o.guard=none) (m:Operand) (hop:o.op=Op.range 58 m) (b:Nat) (us:List M1.Upd) (hm:a.eval m=.map (some b)) (hown:MapN w b us)
  (hK:∀ w',ItN w' w.heap.size b us []→Below w.heap.size w w'→w'.heap.size=w.heap.size+1→wpList Tryz.prog ops Q rest (a.put o.dst (.pointer (some ⟨w.heap.size,0,none⟩))) w') :
  wpList Tryz.prog ops Q (o :: rest) a w:=by
 refine wpList_plain hg fun K' hK'=>?_;obtain ⟨es,hb,h2⟩:=hown;have hrun:=run_range_map (P:=Tryz.prog) w 58 _ _ b es us.length Tryz.underlying58 hb;unfold Oper.wp;simp [execOp,hop,hm,hrun,Result.andThen]
 exact hK' _ _ (hK _ (it_made ⟨es,hb,h2⟩) ((Below.refl _ _).alloc (Nat.le_refl _) _) (by simp))
theorem wpList_nextN {w:World}{ops:Array Oper}{rest:List Oper}{o:Oper}{a:Act}{Q:Exit→Act→World→Prop}
  (hg:o.guard=none) (it:Operand) (hop:o.op=Op.next it false) (r b:Nat) (us:List M1.Upd) (sn:List Nat) (hit:a.eval it=.pointer (some ⟨r,0,none⟩)) (h:ItN w r b us sn)
  (hDone:sn.length=us.length→wpList Tryz.prog ops Q rest (a.put o.dst (.tuple #[.bool false])) w)
  (hMore:∀ i w',i<us.length→ItN w' r b us (sn ++ [i])→w.grownBy w' (some r)→w'.heap.size=w.heap.size→(Instr.entry (.pointer (some ⟨r,0,none⟩))).run Tryz.prog w'=.ok (.tuple #[dv (M1.up us i).dr (M1.up us i).dn,uv (M1.up us i)]) w' →
   wpList Tryz.prog ops Q rest (a.put o.dst (.tuple #[.bool true,dv (M1.up us i).dr (M1.up us i).dn,uv (M1.up us i)])) w') :
  wpList Tryz.prog ops Q (o :: rest) a w:=by
 refine wpList_plain hg fun K' hK'=>?_;unfold Oper.wp;rcases run_nextN h o.type with ⟨h0,hrun⟩ | ⟨i,w',hi,hrun,h1,h2,h3,h4⟩
 ·simp [execOp,hop,hit,hrun,Result.andThen]
  exact hK' _ _ (hDone h0)
 ·simp [execOp,hop,hit,hrun,Result.andThen]
  exact hK' _ _ (hMore i w' hi h1 h2 h3 h4)
end Go.Proofs.YtgcinolbkllkkaaGreat
namespace Go.Proofs.YtgcinolbkllkkaaGreat
open Go.ChangeShapes Go.WideShapes Go.ChangeAt Go.RowKit
theorem nest_zero (id pa st en:Int)(s:ByteArray)(w:World):(if id=0 then (if pa=0 then (if s.toList=[] then (if st=0 then (if en=0 then Result.ok (Next.value (Value.bool true)) w else Result.ok (Next.value (Value.bool false)) w) else Result.ok (Next.value (Value.bool false)) w) else Result.ok (Next.value (Value.bool false)) w) else Result.ok (Next.value (Value.bool false)) w) else Result.ok (Next.value (Value.bool false)) w)=Result.ok (Next.value (Value.bool (M1.zeroB id pa s st en))) w:=by
 unfold M1.zeroB;by_cases h1:id=0
 ·by_cases h2:pa=0
  ·by_cases h3:s.toList=[]
   ·by_cases h4:st=0
    ·by_cases h5:en=0
     ·simp [h1,h2,h3,h4,h5]
     ·simp [h1,h2,h3,h4,h5]
    ·simp [h1,h2,h3,h4]
   ·simp [h1,h2,h3]
  ·simp [h1,h2]
 ·simp [h1]
set_option maxHeartbeats 8000000 in
set_option maxRecDepth 100000 in
theorem changeOf_1 (dr dn sw sc sr tr id pa st en lv:Int)(s:ByteArray)(w:World) :
  Calls Tryz.prog 98 #[.agg #[.int .i64 dr,.int .i64 dn,.int .i64 sw,.int .i64 sc,.int .i64 sr,.int .i64 1,.int .i64 tr,.int .i64 id,.int .i64 pa,.string s,.int .i64 st,.int .i64 en,.int .i64 lv]] w fun e w'=>e=.returned (.tuple #[.iface 179 (.agg #[.int .i64 id,.int .i64 pa,.string s,.int .i64 st,.int .i64 en]),.bool (lv==0)])∧Below w.heap.size w w':=by
 go_enter Tryz.func98,Tryz.ntmps98
 go_wp2_with fail
 go_region_held3 (fun w'=>Kp (w.alloc (.cells #[.int .i64 dr,.int .i64 dn,.int .i64 sw,.int .i64 sc,.int .i64 sr,.int .i64 1,.int .i64 tr,.int .i64 id,.int .i64 pa,.string s,.int .i64 st,.int .i64 en,.int .i64 lv] 72)) w')
  (first | exact kp_zero _ | exact kp_drew (by assumption) | exact kp_step (by assumption) (by assumption))
  (fail)
 go_wp2_with fail
 refine bodyPost_ret (v:=.tuple #[.iface 179 (.agg #[.int .i64 id,.int .i64 pa,.string s,.int .i64 st,.int .i64 en]),.bool (lv==0)]) (by simp [results,Tryz.results98,go_sem]) rfl ⟨rfl,?_⟩;exact bZ
set_option maxHeartbeats 8000000 in
set_option maxRecDepth 100000 in
theorem changeOf_2 (dr dn sw sc sr tr id pa st en lv:Int)(s:ByteArray)(w:World) :
  Calls Tryz.prog 98 #[.agg #[.int .i64 dr,.int .i64 dn,.int .i64 sw,.int .i64 sc,.int .i64 sr,.int .i64 2,.int .i64 tr,.int .i64 id,.int .i64 pa,.string s,.int .i64 st,.int .i64 en,.int .i64 lv]] w fun e w'=>e=.returned (.tuple #[.iface 181 (.agg #[]),.bool (M1.zeroB id pa s st en && (lv==0))])∧Below w.heap.size w w':=by
 by_cases hq:M1.zeroB id pa s st en=true
 ·rw [hq,Bool.true_and]
  go_enter Tryz.func98,Tryz.ntmps98
  go_wp2_with fail
  have HQ:Hid (M1.zeroB id pa s st en=true):=hq;clear hq;refine wp_region_held_drew (S:=fun w'=>Kp (w.alloc (.cells #[.int .i64 dr,.int .i64 dn,.int .i64 sw,.int .i64 sc,.int .i64 sr,.int .i64 2,.int .i64 tr,.int .i64 id,.int .i64 pa,.string s,.int .i64 st,.int .i64 en,.int .i64 lv] 72)) w') (by kernel_rfl) ?_ (fun zH=>?_)
  ·exact kp_zero _
  refine uZ 0 ?_;simp only[pZ,zZ];refine uZ 1 ?_;simp only[pZ,zZ];refine uZ 2 ?_;simp only[pZ,zZ];refine uZ 3 ?_;simp only[pZ,zZ];refine uZ 4 ?_;simp only[pZ,zZ];refine tZ (i:=5) (v:=.bool true) rfl (.inl ⟨by rfl,?_⟩) zH ?_
  ·(intro w hSw;(try dsimp only at hSw);go_simp;first | exact (nest_zero id pa st en s _).trans (by rw [HQ.out]) | (have hh:=HQ.out;simpa [M1.zeroB] using hh))
  (try simp only[pZ,zZ]);refine uZ 6 ?_;simp only[pZ,zZ];refine uZ 7 ?_;simp only[pZ,zZ];refine uZ 8 ?_;simp only[pZ,zZ];refine uZ 9 ?_;simp only[pZ,zZ];refine uZ 10 ?_;simp only[pZ,zZ];refine uZ 11 ?_;simp only[pZ,zZ];refine uZ 12 ?_;simp only[pZ,zZ];refine dZ ?_;go_wp2_with fail
  refine bodyPost_ret (v:=.tuple #[.iface 181 (.agg #[]),.bool (lv==0)]) (by simp [results,Tryz.results98,go_sem]) rfl ⟨rfl,?_⟩;exact bZ
 ·replace hq:M1.zeroB id pa s st en=false:=by simpa using hq
  rw [hq,Bool.false_and];go_enter Tryz.func98,Tryz.ntmps98
  go_wp2_with fail
  have HQ:Hid (M1.zeroB id pa s st en=false):=hq;clear hq;refine wp_region_held_drew (S:=fun w'=>Kp (w.alloc (.cells #[.int .i64 dr,.int .i64 dn,.int .i64 sw,.int .i64 sc,.int .i64 sr,.int .i64 2,.int .i64 tr,.int .i64 id,.int .i64 pa,.string s,.int .i64 st,.int .i64 en,.int .i64 lv] 72)) w') (by kernel_rfl) ?_ (fun zH=>?_)
  ·exact kp_zero _
  refine uZ 0 ?_;simp only[pZ,zZ];refine uZ 1 ?_;simp only[pZ,zZ];refine uZ 2 ?_;simp only[pZ,zZ];refine uZ 3 ?_;simp only[pZ,zZ];refine uZ 4 ?_;simp only[pZ,zZ];refine tZ (i:=5) (v:=.bool false) rfl (.inl ⟨by rfl,?_⟩) zH ?_
  ·(intro w hSw;(try dsimp only at hSw);go_simp;first | exact (nest_zero id pa st en s _).trans (by rw [HQ.out]) | (have hh:=HQ.out;simpa [M1.zeroB] using hh))
  (try simp only[pZ,zZ]);refine uZ 6 ?_;simp only[pZ,zZ];refine vZ 7 ?_;simp only[pZ,zZ];refine vZ 8 ?_;simp only[pZ,zZ];refine vZ 9 ?_;simp only[pZ,zZ];refine uZ 10 ?_;simp only[pZ,zZ];refine uZ 11 ?_;simp only[pZ,zZ];refine uZ 12 ?_;simp only[pZ,zZ];refine dZ ?_;go_wp2_with fail
  refine bodyPost_ret (v:=.tuple #[.iface 181 (.agg #[]),.bool false]) (by simp [results,Tryz.results98,go_sem]) rfl ⟨rfl,?_⟩;exact bZ
set_option maxHeartbeats 8000000 in
set_option maxRecDepth 100000 in
theorem changeOf_3 (dr dn sw sc sr tr id pa st en lv:Int)(s:ByteArray)(w:World) :
  Calls Tryz.prog 98 #[.agg #[.int .i64 dr,.int .i64 dn,.int .i64 sw,.int .i64 sc,.int .i64 sr,.int .i64 3,.int .i64 tr,.int .i64 id,.int .i64 pa,.string s,.int .i64 st,.int .i64 en,.int .i64 lv]] w fun e w'=>e=.returned (.tuple #[.iface 183 (.agg #[.int .i64 lv]),.bool (M1.zeroB id pa s st en)])∧Below w.heap.size w w':=by
 go_enter Tryz.func98,Tryz.ntmps98
 go_wp2_with fail
 refine wp_region_held_drew (S:=fun w'=>Kp (w.alloc (.cells #[.int .i64 dr,.int .i64 dn,.int .i64 sw,.int .i64 sc,.int .i64 sr,.int .i64 3,.int .i64 tr,.int .i64 id,.int .i64 pa,.string s,.int .i64 st,.int .i64 en,.int .i64 lv] 72)) w') (by kernel_rfl) ?_ (fun zH=>?_)
 ·exact kp_zero _
 refine uZ 0 ?_;simp only[pZ,zZ];refine uZ 1 ?_;simp only[pZ,zZ];refine uZ 2 ?_;simp only[pZ,zZ];refine uZ 3 ?_;simp only[pZ,zZ];refine uZ 4 ?_;simp only[pZ,zZ];refine uZ 5 ?_;simp only[pZ,zZ];refine uZ 6 ?_;simp only[pZ,zZ];refine tZ (i:=7) (v:=.bool (M1.zeroB id pa s st en)) rfl (.inl ⟨by rfl,?_⟩) zH ?_
 ·(intro w hSw;(try dsimp only at hSw);go_simp;exact nest_zero id pa st en s _)
 (try simp only[pZ,zZ]);refine uZ 8 ?_;simp only[pZ,zZ];refine uZ 9 ?_;simp only[pZ,zZ];refine dZ ?_;go_wp2_with fail
 refine bodyPost_ret (v:=.tuple #[.iface 183 (.agg #[.int .i64 lv]),.bool (M1.zeroB id pa s st en)]) (by simp [results,Tryz.results98,go_sem]) rfl ⟨rfl,?_⟩;exact bZ
set_option maxHeartbeats 8000000 in
theorem changeOf_0 (dr dn sw sc sr k tr id pa st en lv:Int)(s:ByteArray)(w:World)(h1:(k==1)=false)(h2:(k==2)=false)(h3:(k==3)=false) :
  Calls Tryz.prog 98 #[.agg #[.int .i64 dr,.int .i64 dn,.int .i64 sw,.int .i64 sc,.int .i64 sr,.int .i64 k,.int .i64 tr,.int .i64 id,.int .i64 pa,.string s,.int .i64 st,.int .i64 en,.int .i64 lv]] w fun e w'=>e=.returned (.tuple #[.nilIface,.bool false])∧Below w.heap.size w w':=by
 go_enter Tryz.func98,Tryz.ntmps98
 go_wp2_with fail
 refine bodyPost_ret (v:=.tuple #[.nilIface,.bool false]) (by simp [results,Tryz.results98,go_sem]) rfl ⟨rfl,?_⟩;exact bZ
theorem spanRight (id pa st en:Int)(s:ByteArray)(w:World)(hs:s.size≤maxLen) :
  Calls Tryz.prog 191 #[.agg #[.int .i64 id,.int .i64 pa,.string s,.int .i64 st,.int .i64 en]] w fun e w'=>e=.returned (.bool (M1.spanB id pa s st en))∧Below w.heap.size w w':=by
 go_enter Tryz.func191,Tryz.ntmps191
 go_wp2_with fail
 refine (spanOk_impl _ _ _ _ _ _ hs).mono ?_;rintro e w1 ⟨rfl,hb1⟩;go_wp2_with fail
 go_ret
 refine ⟨rfl,?_⟩;repeat (first | (with_reducible exact Below.refl _ _) | ((with_reducible refine Below.setCell ?_ ?_ _);rotate_left;(focus (first | omega | (simp;done) | (simp;omega)))) | ((with_reducible refine Below.alloc ?_ ?_ _);rotate_left;(focus (first | omega | (simp;done) | (simp;omega)))) | (with_reducible refine Below.drew ?_) | ((with_reducible refine Below.trans ?_ (Below.mono hb1 ?_));rotate_left;(focus (first | omega | (simp;done) | (simp;omega)))))
theorem keepRight (w:World) :
  Calls Tryz.prog 195 #[.agg #[]] w fun e w'=>e=.returned (.bool true)∧Below w.heap.size w w':=by
 go_enter Tryz.func195,Tryz.ntmps195
 go_wp2_with fail
 go_ret
 refine ⟨rfl,?_⟩;exact bZ
theorem lifeRight (lv:Int)(w:World) :
  Calls Tryz.prog 197 #[.agg #[.int .i64 lv]] w fun e w'=>e=.returned (.bool (M1.inB lv 1 1000000))∧Below w.heap.size w w':=by
 go_enter Tryz.func197,Tryz.ntmps197
 go_wp2_with fail
 refine (inRange_any _ _ _ _).mono ?_;rintro e w1 ⟨rfl,rfl⟩;go_wp2_with fail
 go_ret
 refine ⟨rfl,?_⟩;exact bZ
end Go.Proofs.YtgcinolbkllkkaaGreat
