/-
  Texts of one proof, joined: VecOf, Cov, Dots, VecU, Rv1, Clone.
-/
import Derived.Test.YtgcinolbkllkkaaGreatZFConverged13
import Derived.Test.YtgcinolbkllkkaaGreatZFConverged09
import Derived.Test.YtgcinolbkllkkaaGreatZFConverged12
import Derived.Lib.Strings
import Derived.Lib.Walk
import Derived.Lib.BufferWrite
import Derived.Lib.UnsafeStr
import Derived.Lib.Hide
import Derived.Laws.MakeOwn
set_option linter.unusedSimpArgs false
set_option linter.unusedVariables false
namespace Go.Proofs.YtgcinolbkllkkaaGreat
open Go.ChangeShapes Go.WideShapes Go.ChangeAt Go.RowKit
set_option maxHeartbeats 4000000 in
theorem l1Of_any (av:Option Addr)(n cn:Nat)(ds:List (Int × Int))(r:Int)(w:World)(h1:IsVec w av n cn ds)(hv:M1.vecOk ds=true) :
  Calls Tryz.prog 153 #[.slice av n cn,.int .i64 r] w fun e w'=>e=.returned (.int .i64 (M1.lk ds r))∧w'=w:=by
 have hl1:Hid (ds.length=n):=h1.hlen;have HV:Hid (M1.vecOk ds=true):=hv;clear hv;have hm1:=h1.hcap;have hm2:=h1.hmost;unfold maxLen at hm2;go_enter Tryz.func153,Tryz.ntmps153
 go_wp2
 go_loop [5] (fun i=>∃ k:Nat,k≤n∧i=.int .i64 k∧Hid (∀ j,j<k→¬M1.rg ds j=r)) (fun i=>n-(intOf i).toNat)
 case atStart=>exact ⟨0,Nat.zero_le _,rfl,fun j hj=>absurd hj (Nat.not_lt_zero _)⟩
 case round =>
  obtain ⟨k,hk,rfl,hall⟩:=hrel;by_cases hlt:k<n
  ·rcases h1.hlies with h0 | ⟨b,off,rfl,hb,hc⟩
   ·omega
   obtain ⟨c1,c2⟩:=hc k hlt;clear hc;have i0:(0:Int)≤(k:Int):=by omega
   have i1:(k:Int)<(n:Int):=by omega
   by_cases hq:M1.rg ds k=r
   ·have HQ:Hid (M1.lk ds r=M1.nm ds k):=(by rw [←hq];exact M1.lk_at HV.out (by have:=hl1.out;omega):M1.lk ds r=M1.nm ds k)
    have hq1:(M1.rg ds k==r)=true:=by simp [hq]
    clear hq hall;go_wp2
    go_ret
    exact ⟨by rw [HQ.out];rfl,rfl⟩
   ·have HQ:Hid (∀ j,j<k+1→¬M1.rg ds j=r):=fun j hj=>by
     by_cases e:j=k
     ·rw [e];exact hq
     ·exact hall.out j (by omega)
    have hq1:(M1.rg ds k==r)=false:=by simp [hq]
    clear hq hall;go_wp2
    go_round
    case rel=>exact ⟨k+1,by omega,by go_num,HQ⟩
    case measure=>simp [intOf];omega
  ·have HQ:Hid (M1.lk ds r=0):=M1.lk_none fun j hj=>hall.out j (by have:=hl1.out;omega)
   clear hall;go_wp2
   go_ret
   exact ⟨by rw [HQ.out];rfl,rfl⟩
theorem idx0 (a b c d e:Int)(w:World):Sem.run Tryz.prog (Instr.index 79 (.agg #[.int .i64 a,.int .i64 b,.int .i64 c,.int .i64 d,.int .i64 e]) (.int .i64 0)) w=.ok (.int .i64 a) w:=by kernel_rfl
theorem idx1 (a b c d e:Int)(w:World):Sem.run Tryz.prog (Instr.index 79 (.agg #[.int .i64 a,.int .i64 b,.int .i64 c,.int .i64 d,.int .i64 e]) (.int .i64 1)) w=.ok (.int .i64 b) w:=by kernel_rfl
theorem idx2 (a b c d e:Int)(w:World):Sem.run Tryz.prog (Instr.index 79 (.agg #[.int .i64 a,.int .i64 b,.int .i64 c,.int .i64 d,.int .i64 e]) (.int .i64 2)) w=.ok (.int .i64 c) w:=by kernel_rfl
theorem idx3 (a b c d e:Int)(w:World):Sem.run Tryz.prog (Instr.index 79 (.agg #[.int .i64 a,.int .i64 b,.int .i64 c,.int .i64 d,.int .i64 e]) (.int .i64 3)) w=.ok (.int .i64 d) w:=by kernel_rfl
theorem idx4 (a b c d e:Int)(w:World):Sem.run Tryz.prog (Instr.index 79 (.agg #[.int .i64 a,.int .i64 b,.int .i64 c,.int .i64 d,.int .i64 e]) (.int .i64 4)) w=.ok (.int .i64 e) w:=by kernel_rfl
def Joined (w w':World)(e:Ending)(ds:List (Int × Int)):Prop:=∃ v,e=.returned v∧w'.ownsRow w.heap.size 68 2 v ds.length (dcs ds)
set_option maxHeartbeats 32000000 in
theorem dotsOf_any (f:Int→Int)(w:World) :
  Calls Tryz.prog 34 #[.agg #[.int .i64 (f 1),.int .i64 (f 2),.int .i64 (f 3),.int .i64 (f 4),.int .i64 (f 5)]] w fun e w'=>Joined w w' e (M1.dlTo f 5)∧Below w.heap.size w w':=by
 obtain ⟨ti,hi1,hi2,hi3,hi4⟩:=infoDot;have hi4':Hid (ti.bytes=16):=hi4;have hi2':Hid (ti.zero=some (.agg #[.int .i64 0,.int .i64 0])):=hi2;have hi3':Hid (ti.size=2):=hi3;have hi1':Hid (Tryz.prog.info? 68=some ti):=hi1;clear hi1 hi2 hi3 hi4;go_enter Tryz.func34,Tryz.ntmps34
 go_wp2_with fail
 go_loopw [3,4,5,7] (fun out _ _ i wr=>∃ q:Int,0≤q∧q≤5∧i=.int .i64 q∧Below w.heap.size w wr∧wr.ownsRow w.heap.size 68 2 out (M1.dlTo f q.toNat).length (dcs (M1.dlTo f q.toNat))) (fun _ _ _ i _=>5-(intOf i).toNat)
 case atStart=>exact ⟨0,by omega,by omega,rfl,(Below.refl _ _).alloc (Nat.le_refl _) _,owns_nil _ _ _⟩
 case round =>
  obtain ⟨q,hq0,hq5,rfl,hB,hown0⟩:=hrel;have x0:=@idx0;have x1:=@idx1;have x2:=@idx2;have x3:=@idx3;have x4:=@idx4;have hs:=hB.size;by_cases hlt:q<5
  ·obtain rfl | rfl | rfl | rfl | rfl:q=0∨q=1∨q=2∨q=3∨q=4:=by omega
   ·by_cases hq:0<f 1
    ·have HE:Hid (M1.dlTo f 1=M1.dlTo f 0 ++ [(1,f 1)]):=M1.dl_step f 0 1 (by omega) hq
     have hlen:=M1.dlTo_len f 0;have hown:wr.ownsRow w.heap.size 68 2 u3 (M1.dlTo f 0).length (dcs (M1.dlTo f 0)):=hown0;clear hown0;go_wp2_with (at_builtin;refine wpList_append_lies _ rfl _ _ _ rfl w.heap.size 68 ti _ 2 16 Tryz.underlying37 hi1'.out hi2'.out hi3'.out hi4'.out rfl (by omega) u3 (M1.dlTo f 0).length (dcs (M1.dlTo f 0)) rfl (owns_below hown ((Below.refl _ _).alloc (Nat.le_refl _) _)) ⟨wr.heap.size,0,none⟩ 1 1 [.int .i64 1,.int .i64 (f 1)] rfl rfl (news2 _ _ _ _) (one2 _ _) (by omega) (by unfold maxLen;omega) (by omega) (by simp;omega) _ rfl ?_;intro g cap w4 hown4 hgrow4 hat4 hlt4)
     have hB4:Below w.heap.size w w4:=(hB.alloc hB.size _).grown hgrow4 (by simp;omega) (owns_base hown);exact ⟨⟨1,by omega,by omega,rfl,hB4,by show w4.ownsRow _ _ _ _ (M1.dlTo f 1).length (dcs (M1.dlTo f 1));rw [HE.out];exact owns_snoc hown4⟩,by simp [intOf]⟩
    ·have HE:Hid (M1.dlTo f 1=M1.dlTo f 0):=M1.dl_stay f 0 1 (by omega) hq
     go_wp2_with fail
     exact ⟨⟨1,by omega,by omega,rfl,hB,by show wr.ownsRow _ _ _ _ (M1.dlTo f 1).length (dcs (M1.dlTo f 1));rw [HE.out];exact hown0⟩,by simp [intOf]⟩
   ·by_cases hq:0<f 2
    ·have HE:Hid (M1.dlTo f 2=M1.dlTo f 1 ++ [(2,f 2)]):=M1.dl_step f 1 2 (by omega) hq
     have hlen:=M1.dlTo_len f 1;have hown:wr.ownsRow w.heap.size 68 2 u3 (M1.dlTo f 1).length (dcs (M1.dlTo f 1)):=hown0;clear hown0;go_wp2_with (at_builtin;refine wpList_append_lies _ rfl _ _ _ rfl w.heap.size 68 ti _ 2 16 Tryz.underlying37 hi1'.out hi2'.out hi3'.out hi4'.out rfl (by omega) u3 (M1.dlTo f 1).length (dcs (M1.dlTo f 1)) rfl (owns_below hown ((Below.refl _ _).alloc (Nat.le_refl _) _)) ⟨wr.heap.size,0,none⟩ 1 1 [.int .i64 2,.int .i64 (f 2)] rfl rfl (news2 _ _ _ _) (one2 _ _) (by omega) (by unfold maxLen;omega) (by omega) (by simp;omega) _ rfl ?_;intro g cap w4 hown4 hgrow4 hat4 hlt4)
     have hB4:Below w.heap.size w w4:=(hB.alloc hB.size _).grown hgrow4 (by simp;omega) (owns_base hown);exact ⟨⟨2,by omega,by omega,rfl,hB4,by show w4.ownsRow _ _ _ _ (M1.dlTo f 2).length (dcs (M1.dlTo f 2));rw [HE.out];exact owns_snoc hown4⟩,by simp [intOf]⟩
    ·have HE:Hid (M1.dlTo f 2=M1.dlTo f 1):=M1.dl_stay f 1 2 (by omega) hq
     go_wp2_with fail
     exact ⟨⟨2,by omega,by omega,rfl,hB,by show wr.ownsRow _ _ _ _ (M1.dlTo f 2).length (dcs (M1.dlTo f 2));rw [HE.out];exact hown0⟩,by simp [intOf]⟩
   ·by_cases hq:0<f 3
    ·have HE:Hid (M1.dlTo f 3=M1.dlTo f 2 ++ [(3,f 3)]):=M1.dl_step f 2 3 (by omega) hq
     have hlen:=M1.dlTo_len f 2;have hown:wr.ownsRow w.heap.size 68 2 u3 (M1.dlTo f 2).length (dcs (M1.dlTo f 2)):=hown0;clear hown0;go_wp2_with (at_builtin;refine wpList_append_lies _ rfl _ _ _ rfl w.heap.size 68 ti _ 2 16 Tryz.underlying37 hi1'.out hi2'.out hi3'.out hi4'.out rfl (by omega) u3 (M1.dlTo f 2).length (dcs (M1.dlTo f 2)) rfl (owns_below hown ((Below.refl _ _).alloc (Nat.le_refl _) _)) ⟨wr.heap.size,0,none⟩ 1 1 [.int .i64 3,.int .i64 (f 3)] rfl rfl (news2 _ _ _ _) (one2 _ _) (by omega) (by unfold maxLen;omega) (by omega) (by simp;omega) _ rfl ?_;intro g cap w4 hown4 hgrow4 hat4 hlt4)
     have hB4:Below w.heap.size w w4:=(hB.alloc hB.size _).grown hgrow4 (by simp;omega) (owns_base hown);exact ⟨⟨3,by omega,by omega,rfl,hB4,by show w4.ownsRow _ _ _ _ (M1.dlTo f 3).length (dcs (M1.dlTo f 3));rw [HE.out];exact owns_snoc hown4⟩,by simp [intOf]⟩
    ·have HE:Hid (M1.dlTo f 3=M1.dlTo f 2):=M1.dl_stay f 2 3 (by omega) hq
     go_wp2_with fail
     exact ⟨⟨3,by omega,by omega,rfl,hB,by show wr.ownsRow _ _ _ _ (M1.dlTo f 3).length (dcs (M1.dlTo f 3));rw [HE.out];exact hown0⟩,by simp [intOf]⟩
   ·by_cases hq:0<f 4
    ·have HE:Hid (M1.dlTo f 4=M1.dlTo f 3 ++ [(4,f 4)]):=M1.dl_step f 3 4 (by omega) hq
     have hlen:=M1.dlTo_len f 3;have hown:wr.ownsRow w.heap.size 68 2 u3 (M1.dlTo f 3).length (dcs (M1.dlTo f 3)):=hown0;clear hown0;go_wp2_with (at_builtin;refine wpList_append_lies _ rfl _ _ _ rfl w.heap.size 68 ti _ 2 16 Tryz.underlying37 hi1'.out hi2'.out hi3'.out hi4'.out rfl (by omega) u3 (M1.dlTo f 3).length (dcs (M1.dlTo f 3)) rfl (owns_below hown ((Below.refl _ _).alloc (Nat.le_refl _) _)) ⟨wr.heap.size,0,none⟩ 1 1 [.int .i64 4,.int .i64 (f 4)] rfl rfl (news2 _ _ _ _) (one2 _ _) (by omega) (by unfold maxLen;omega) (by omega) (by simp;omega) _ rfl ?_;intro g cap w4 hown4 hgrow4 hat4 hlt4)
     have hB4:Below w.heap.size w w4:=(hB.alloc hB.size _).grown hgrow4 (by simp;omega) (owns_base hown);exact ⟨⟨4,by omega,by omega,rfl,hB4,by show w4.ownsRow _ _ _ _ (M1.dlTo f 4).length (dcs (M1.dlTo f 4));rw [HE.out];exact owns_snoc hown4⟩,by simp [intOf]⟩
    ·have HE:Hid (M1.dlTo f 4=M1.dlTo f 3):=M1.dl_stay f 3 4 (by omega) hq
     go_wp2_with fail
     exact ⟨⟨4,by omega,by omega,rfl,hB,by show wr.ownsRow _ _ _ _ (M1.dlTo f 4).length (dcs (M1.dlTo f 4));rw [HE.out];exact hown0⟩,by simp [intOf]⟩
   ·by_cases hq:0<f 5
    ·have HE:Hid (M1.dlTo f 5=M1.dlTo f 4 ++ [(5,f 5)]):=M1.dl_step f 4 5 (by omega) hq
     have hlen:=M1.dlTo_len f 4;have hown:wr.ownsRow w.heap.size 68 2 u3 (M1.dlTo f 4).length (dcs (M1.dlTo f 4)):=hown0;clear hown0;go_wp2_with (at_builtin;refine wpList_append_lies _ rfl _ _ _ rfl w.heap.size 68 ti _ 2 16 Tryz.underlying37 hi1'.out hi2'.out hi3'.out hi4'.out rfl (by omega) u3 (M1.dlTo f 4).length (dcs (M1.dlTo f 4)) rfl (owns_below hown ((Below.refl _ _).alloc (Nat.le_refl _) _)) ⟨wr.heap.size,0,none⟩ 1 1 [.int .i64 5,.int .i64 (f 5)] rfl rfl (news2 _ _ _ _) (one2 _ _) (by omega) (by unfold maxLen;omega) (by omega) (by simp;omega) _ rfl ?_;intro g cap w4 hown4 hgrow4 hat4 hlt4)
     have hB4:Below w.heap.size w w4:=(hB.alloc hB.size _).grown hgrow4 (by simp;omega) (owns_base hown);exact ⟨⟨5,by omega,by omega,rfl,hB4,by show w4.ownsRow _ _ _ _ (M1.dlTo f 5).length (dcs (M1.dlTo f 5));rw [HE.out];exact owns_snoc hown4⟩,by simp [intOf]⟩
    ·have HE:Hid (M1.dlTo f 5=M1.dlTo f 4):=M1.dl_stay f 4 5 (by omega) hq
     go_wp2_with fail
     exact ⟨⟨5,by omega,by omega,rfl,hB,by show wr.ownsRow _ _ _ _ (M1.dlTo f 5).length (dcs (M1.dlTo f 5));rw [HE.out];exact hown0⟩,by simp [intOf]⟩
  ·obtain rfl:q=5:=by omega
   go_wp2_with fail
   go_ret
   exact ⟨⟨_,rfl,hown0⟩,hB⟩
set_option maxHeartbeats 16000000 in
set_option maxRecDepth 100000 in
theorem lastOf_any (av:Option Addr)(n cn:Nat)(us:List M1.Upd)(w:World)(h1:IsUpds w av n cn us)(hr:Hid (∀ j,j<n→1≤(M1.up us j).dr∧(M1.up us j).dr≤5)) :
  Calls Tryz.prog 35 #[.slice av n cn] w fun e w'=>e=.returned (.agg #[.int .i64 (M1.lastN us n 1),.int .i64 (M1.lastN us n 2),.int .i64 (M1.lastN us n 3),.int .i64 (M1.lastN us n 4),.int .i64 (M1.lastN us n 5)])∧Below w.heap.size w w':=by
 have hm1:=h1.hcap;have hm2:=h1.hmost;unfold maxLen at hm2;go_enter Tryz.func35,Tryz.ntmps35
 go_wp2_with fail
 go_loopw [8] (fun i wr=>∃ k:Nat,k≤n∧i=.int .i64 k∧Below w.heap.size w wr∧RowAt wr w.heap.size 5 (fun _=>.int .i64 0)∧RowAt wr (w.heap.size+1) 5 (fun o=>.int .i64 (M1.lastN us k (o+1)))) (fun i _=>n-(intOf i).toNat)
 case atStart =>
  refine ⟨0,Nat.zero_le _,rfl,?_,?_,?_⟩
  ·exact bZ
  ·exact (RowAt.zero5 _ _ _ (fun _=>rfl)).alloc _
  ·have:=RowAt.zero5 (w.alloc (.cells #[.int .i64 0,.int .i64 0,.int .i64 0,.int .i64 0,.int .i64 0] 79)) 79 (fun o=>.int .i64 (M1.lastN us 0 (o+1))) (fun _=>rfl)
   simpa using this
 case round =>
  obtain ⟨k,hk,rfl,hB,hr0,hr1⟩:=hrel;have hs0:=hr0.lt;have hs1:=hr1.lt;by_cases hlt:k<n
  ·have g1:=h1.below hB
   rcases g1.hlies with h0 | ⟨b,off,rfl,hb,hc⟩
   ·omega
   obtain ⟨c0,c1,c2,c3,c4,c5,c6,c7,c8,c9,c10,c11,c12⟩:=hc k hlt;obtain ⟨q1,q2⟩:=hr.out k hlt;have i0:(0:Int)≤(k:Int):=by omega
   have i1:(k:Int)<(n:Int):=by omega
   clear hc g1;have hr0':=hr0.alloc (.cells #[.int .i64 (M1.up us k).dr,.int .i64 (M1.up us k).dn,.int .i64 (M1.up us k).sw,.int .i64 (M1.up us k).sc,.int .i64 (M1.up us k).sr,.int .i64 (M1.up us k).k,.int .i64 (M1.up us k).tr,.int .i64 (M1.up us k).id,.int .i64 (M1.up us k).pa,.string (M1.up us k).s,.int .i64 (M1.up us k).st,.int .i64 (M1.up us k).en,.int .i64 (M1.up us k).lv] 72);have hr1':=hr1.alloc (.cells #[.int .i64 (M1.up us k).dr,.int .i64 (M1.up us k).dn,.int .i64 (M1.up us k).sw,.int .i64 (M1.up us k).sc,.int .i64 (M1.up us k).sr,.int .i64 (M1.up us k).k,.int .i64 (M1.up us k).tr,.int .i64 (M1.up us k).id,.int .i64 (M1.up us k).pa,.string (M1.up us k).s,.int .i64 (M1.up us k).st,.int .i64 (M1.up us k).en,.int .i64 (M1.up us k).lv] 72);have ht:((M1.up us k).dr.toNat-1)<5:=by omega
   have d1:=hr1.cell (o:=((M1.up us k).dr.toNat-1)) ht;have d2:=hr1.free (o:=((M1.up us k).dr.toNat-1)) ht;have hne:¬w.heap.size+1=wr.heap.size:=by omega
   go_wp2_with fail
   refine ⟨⟨k+1,by omega,by go_num,?_,?_,?_⟩,by simp [intOf];omega⟩
   ·repeat (first | (with_reducible exact Below.refl _ _) | ((with_reducible refine Below.setCell ?_ ?_ _);rotate_left;(focus (first | omega | (simp;done) | (simp;omega)))) | ((with_reducible refine Below.alloc ?_ ?_ _);rotate_left;(focus (first | omega | (simp;done) | (simp;omega)))) | (with_reducible refine Below.drew ?_) | ((with_reducible refine Below.trans ?_ (Below.mono hB ?_));rotate_left;(focus (first | omega | (simp;done) | (simp;omega)))))
   ·exact (hr0.far (by simp) _).alloc _
   ·refine ((hr1.set ht _).alloc _).same fun o ho=>?_
    show (if o=((M1.up us k).dr.toNat-1) then _ else _)=_
    rw [M1.lastN_succ];by_cases e:o=((M1.up us k).dr.toNat-1)
    ·rw [if_pos e,if_pos (by omega)]
    ·rw [if_neg e,if_neg (by omega)]
  ·have hkn:Hid (k=n):=(by omega:k=n)
   have z0:=hr0.cell (o:=0) (by omega);have z1:=hr0.cell (o:=1) (by omega);have z2:=hr0.cell (o:=2) (by omega);have z3:=hr0.cell (o:=3) (by omega);have z4:=hr0.cell (o:=4) (by omega);have y0:=hr0.free (o:=0) (by omega);have y1:=hr0.free (o:=1) (by omega);have y2:=hr0.free (o:=2) (by omega);have y3:=hr0.free (o:=3) (by omega);have y4:=hr0.free (o:=4) (by omega);have d0:=hr1.cell (o:=0) (by omega);have d1:=hr1.cell (o:=1) (by omega);have d2:=hr1.cell (o:=2) (by omega);have d3:=hr1.cell (o:=3) (by omega);have d4:=hr1.cell (o:=4) (by omega);go_wp2_with fail
   refine bodyPost_ret (v:=.agg #[.int .i64 (M1.lastN us n 1),.int .i64 (M1.lastN us n 2),.int .i64 (M1.lastN us n 3),.int .i64 (M1.lastN us n 4),.int .i64 (M1.lastN us n 5)]) ?_ rfl ⟨rfl,?_⟩
   ·rw [←hkn.out]
    simp [results,Tryz.results35,go_sem,cell_set_same, *]
   ·repeat (first | (with_reducible exact Below.refl _ _) | ((with_reducible refine Below.setCell ?_ ?_ _);rotate_left;(focus (first | omega | (simp;done) | (simp;omega)))) | ((with_reducible refine Below.alloc ?_ ?_ _);rotate_left;(focus (first | omega | (simp;done) | (simp;omega)))) | (with_reducible refine Below.drew ?_) | ((with_reducible refine Below.trans ?_ (Below.mono hB ?_));rotate_left;(focus (first | omega | (simp;done) | (simp;omega)))))
theorem vectorOf_impl (av:Option Addr)(n cn:Nat)(us:List M1.Upd)(w:World)(h1:IsUpds w av n cn us) :
  Calls Tryz.prog 11 #[.slice av n cn] w fun e w'=>Joined w w' e (M1.vectorOf us)∧Below w.heap.size w w':=by
 have hl1:Hid (us.length=n):=h1.hlen;by_cases hs:M1.setOk us=true
 ·have HQ:Hid (M1.vectorOf us=M1.dlTo (M1.lastN us n) 5):=(by unfold M1.vectorOf M1.vecU;rw [if_pos hs,hl1.out]:M1.vectorOf us=M1.dlTo (M1.lastN us n) 5)
  have hr:Hid (∀ j,j<n→1≤(M1.up us j).dr∧(M1.up us j).dr≤5):=fun j hj=>by
   have:=M1.ok_rg (M1.setOk_all hs) (show j<us.length by have:=hl1.out;omega);exact ⟨this.1,this.2.1⟩
  rw [HQ.out];go_enter Tryz.func11,Tryz.ntmps11
  go_wp2_with fail
  refine (setOk_impl _ _ _ _ _ h1).mono ?_;rw [hs];rintro e w1 ⟨rfl,hb1⟩;go_wp2_with fail
  refine (lastOf_any _ _ _ _ _ (h1.below hb1) hr).mono ?_;rintro e w2 ⟨rfl,hb2⟩;have hB2:=hb1.trans (hb2.mono hb1.size);go_wp2_with fail
  refine (dotsOf_any (M1.lastN us n) _).mono ?_;rintro e w3 ⟨⟨v,rfl,hown⟩,hb3⟩;go_wp2_with fail
  go_ret
  exact ⟨⟨v,rfl,owns_less hown hB2.size⟩,hB2.trans (hb3.mono hB2.size)⟩
 ·replace hs:M1.setOk us=false:=by simpa using hs
  have HQ:Hid (M1.vectorOf us=[]):=(by unfold M1.vectorOf;rw [hs];rfl:M1.vectorOf us=[])
  rw [HQ.out];go_enter Tryz.func11,Tryz.ntmps11
  go_wp2_with fail
  refine (setOk_impl _ _ _ _ _ h1).mono ?_;rw [hs];rintro e w1 ⟨rfl,hb1⟩;go_wp2_with fail
  go_ret
  exact ⟨⟨_,rfl,owns_nil _ _ _⟩,hb1⟩
abbrev StAt (w:World)(p:Nat)(a b c:Int):Prop:=RowAt w p 3 (fun o=>[.int .i64 a,.int .i64 b,.int .i64 c].getD o undef)
theorem st_new (w:World)(a b c:Int)(t:TypeId):StAt (w.alloc (.cells #[.int .i64 a,.int .i64 b,.int .i64 c] t)) w.heap.size a b c :=
 (RowAt.new w #[.int .i64 a,.int .i64 b,.int .i64 c] t).same fun o ho=>by
  match o,ho with
  | 0,_=>rfl
  | 1,_=>rfl
  | 2,_=>rfl
theorem StAt.cells {w:World}{p:Nat}{a b c:Int}(h:StAt w p a b c):w.cell? ⟨p,0,none⟩=some (.int .i64 a)∧w.cell? ⟨p,1,none⟩=some (.int .i64 b)∧w.cell? ⟨p,2,none⟩=some (.int .i64 c):=⟨h.cell (o:=0) (by omega),h.cell (o:=1) (by omega),h.cell (o:=2) (by omega)⟩
theorem StAt.frees {w:World}{p:Nat}{a b c:Int}(h:StAt w p a b c):w.frozen? ⟨p,0,none⟩=false∧w.frozen? ⟨p,1,none⟩=false∧w.frozen? ⟨p,2,none⟩=false:=⟨h.free (o:=0) (by omega),h.free (o:=1) (by omega),h.free (o:=2) (by omega)⟩
theorem StAt.put {w:World}{p:Nat}{a b c:Int}(h:StAt w p a b c)(x y z:Int):StAt (((w.setCell ⟨p,0,none⟩ (.int .i64 x)).setCell ⟨p,1,none⟩ (.int .i64 y)).setCell ⟨p,2,none⟩ (.int .i64 z)) p x y z :=
 RowAt.same (((h.set (o:=0) (by omega) (.int .i64 x)).set (o:=1) (by omega) (.int .i64 y)).set (o:=2) (by omega) (.int .i64 z)) fun o ho=>by
  match o,ho with
  | 0,_=>rfl
  | 1,_=>rfl
  | 2,_=>rfl
theorem infoU8:(Tryz.prog.info? 5).map (fun i=>(i.zero,i.size,i.bytes))=some (some (.int .u8 0),1,1):=by kernel_rfl
set_option maxHeartbeats 16000000 in
set_option maxRecDepth 100000 in
theorem litClone_any (s:ByteArray)(w:World)(hlim:s.size≤1048576) :
  Calls Tryz.prog 120 #[.string s] w fun e w'=>e=.returned (.string s)∧Below w.heap.size w w':=by
 by_cases h0:s.size=0
 ·have hs:s=⟨#[]⟩:=ByteArray.ext (Array.eq_empty_of_size_eq_zero h0)
  subst hs;go_enter Tryz.func120,Tryz.ntmps120
  go_wp2
  go_ret
  exact ⟨rfl,Below.refl _ _⟩
 ·obtain ⟨i0,hi,hz0,hz1,hz2⟩:∃ i,Tryz.prog.info? 5=some i∧i.zero=some (.int .u8 0)∧i.size=1∧i.bytes=1:=by
   have h:=infoU8
   cases e:Tryz.prog.info? 5 with
   | none=>rw [e] at h;cases h
   | some i=>rw [e] at h;simp at h;exact ⟨i,rfl,h.1,h.2.1,h.2.2⟩
  have hinfo:(Tryz.prog.info? 5).map (·.size)=some 1:=by rw [hi];simp [hz1]
  have hco:Tryz.prog.cellsOf 5=1:=by simp [Program.cellsOf,hi,hz1]
  obtain ⟨M,hM⟩:∃ M,M=madeCells (Value.int .u8 0).cells (((s.size:Nat):Int).toNat*i0.size):=⟨_,rfl⟩
  have hMs:M.size=s.size:=by rw [hM,size_madeCells,hz1];simp
  have hmk:∀ W:World,(Instr.makeSlice 22 (.int .i64 (s.size:Int)) (.int .i64 (s.size:Int))).run Tryz.prog W=.ok (.slice (some ⟨W.heap.size,0,none⟩) s.size s.size) (W.alloc (.cells M 5)):=fun W=>by
   have h:=run_make (P:=Tryz.prog) W 22 5 i0 (.int .u8 0) Tryz.underlying22 hi hz0 .i64 .i64 (s.size:Int) (s.size:Int) (by omega) (by omega) (by rw [hz2];omega) (by omega);rw [←hM] at h
   simpa using h
  clear hM
  have hcp:=Lib.run_copy_row_string (P:=Tryz.prog) (w.alloc (.cells M 5)) 22 9 3 5 w.heap.size 0 s.size s.size s M 5 Tryz.underlying22 hinfo (heap_alloc_new w _) (Nat.le_refl _) (by omega);obtain ⟨Y,hY⟩:∃ Y,Y=(M.toList.take 0 ++ Lib.byteCells s.data.toList ++ M.toList.drop (0+s.size)).toArray:=⟨_,rfl⟩
  rw [←hY] at hcp;have hYl:Y.toList=Lib.byteCells s.data.toList:=by
   rw [hY,List.toList_toArray,List.take_zero,List.nil_append,List.drop_of_length_le (by rw [Array.length_toList];omega),List.append_nil]
  have hYs:Y.size=s.size:=by rw [←Array.length_toList,hYl,Lib.byteCells_length,←Lib.size_eq]
  have hgY:((w.alloc (.cells M 5)).setRow w.heap.size Y).heap[w.heap.size]?=some (.cells Y 5 (0,0)):=setRow_heap _ _ M _ 5 (0,0) (heap_alloc_new w _)
  have hne:s.data.toList≠[]:=fun e=>h0 (by rw [Lib.size_eq,e];rfl);have hUS:=Lib.run_unsafeString_row (P:=Tryz.prog) ((w.alloc (.cells M 5)).setRow w.heap.size Y) 209 3 9 5 Tryz.underlying209 hco w.heap.size Y.size (by unfold World.shape?;rw [hgY]) s.data.toList hne (by rw [←Lib.size_eq];omega) (by rw [←Lib.size_eq];omega)
   (fun j x hx=>Lib.cells_of_row hgY Y.size j _ (by rw [List.take_of_length_le (by rw [Array.length_toList];exact Nat.le_refl _),hYl];simp [Lib.byteCells,hx]))
  rw [←Lib.size_eq] at hUS;clear hY;go_enter Tryz.func120,Tryz.ntmps120
  go_wp2
  go_ret
  have hb1:Below w.heap.size w (w.alloc (.cells M 5)):=(Below.refl _ w).alloc (Nat.le_refl _) _;have hb2:Below w.heap.size (w.alloc (.cells M 5)) ((w.alloc (.cells M 5)).setRow w.heap.size Y):=⟨rfl,rfl,rfl,by simp,fun k hk=>setRow_other _ _ _ _ (by omega)⟩
  exact ⟨rfl,Lib.below_freeze (hb1.trans hb2) (p:=⟨w.heap.size,0,none⟩) (Nat.le_refl _) _⟩
theorem clone_any (s:ByteArray)(w:World)(hlim:s.size≤1048576) :
  Calls Tryz.prog 99 #[.string s] w fun e w'=>e=.returned (.string s)∧Below w.heap.size w w':=by
 go_enter Tryz.func99,Tryz.ntmps99
 go_wp2_with fail
 refine (litClone_any _ _ hlim).mono ?_;rintro e w1 ⟨rfl,hb1⟩;go_wp2_with fail
 go_ret
 exact ⟨rfl,hb1⟩
set_option maxHeartbeats 8000000 in
theorem copyOf_any (u:M1.Upd)(w:World)(hlim:u.s.size≤1000) :
  Calls Tryz.prog 65 #[.agg #[.int .i64 u.dr,.int .i64 u.dn,.int .i64 u.sw,.int .i64 u.sc,.int .i64 u.sr,.int .i64 u.k,.int .i64 u.tr,.int .i64 u.id,.int .i64 u.pa,.string u.s,.int .i64 u.st,.int .i64 u.en,.int .i64 u.lv]] w fun e w'=>e=.returned (.agg #[.int .i64 u.dr,.int .i64 u.dn,.int .i64 u.sw,.int .i64 u.sc,.int .i64 u.sr,.int .i64 u.k,.int .i64 u.tr,.int .i64 u.id,.int .i64 u.pa,.string u.s,.int .i64 u.st,.int .i64 u.en,.int .i64 u.lv])∧Below w.heap.size w w':=by
 go_enter Tryz.func65,Tryz.ntmps65
 go_wp2_with fail
 refine (clone_any _ _ (by omega)).mono ?_;rintro e w1 ⟨rfl,hb1⟩;obtain ⟨hc1,hf1⟩:=bcell hb1;have hz1:=hb1.size;simp at hz1
 have hz1a:w.heap.size<w1.heap.size:=by omega
 have hz1b:w.heap.size+1<w1.heap.size:=by omega
 have c9:(w1.setCell ⟨w.heap.size,9,none⟩ (.string u.s)).cell? ⟨w.heap.size,9,none⟩=some (.string u.s):=cell_set_same _ _ _ (by rw [hc1 _ _ (by simp;omega)];simp);go_wp2_with fail
 refine bodyPost_ret (v:=.agg #[.int .i64 u.dr,.int .i64 u.dn,.int .i64 u.sw,.int .i64 u.sc,.int .i64 u.sr,.int .i64 u.k,.int .i64 u.tr,.int .i64 u.id,.int .i64 u.pa,.string u.s,.int .i64 u.st,.int .i64 u.en,.int .i64 u.lv]) (by simp [results,Tryz.results65,go_sem,cell_set_same,hc1,hz1a,hz1b]) rfl ⟨rfl,?_⟩;repeat (first | (with_reducible exact Below.refl _ _) | ((with_reducible refine Below.setCell ?_ ?_ _);rotate_left;(focus (first | omega | (simp;done) | (simp;omega)))) | ((with_reducible refine Below.alloc ?_ ?_ _);rotate_left;(focus (first | omega | (simp;done) | (simp;omega)))) | (with_reducible refine Below.drew ?_) | ((with_reducible refine Below.trans ?_ (Below.mono hb1 ?_));rotate_left;(focus (first | omega | (simp;done) | (simp;omega)))))
end Go.Proofs.YtgcinolbkllkkaaGreat
