/-
  Texts of one proof, joined: Draw1.
-/
import Derived.Test.YtgcinolbkllkkaaGreatZFConverged02
set_option linter.unusedSimpArgs false
set_option linter.unusedVariables false
namespace Go.Proofs.YtgcinolbkllkkaaGreat
open Go.ChangeShapes Go.WideShapes Go.ChangeAt Go.RowKit
set_option maxHeartbeats 4000000 in
theorem next_any (g:Nat)(av:Option Addr)(len cap:Nat)(w:World)(h:Rdr w g av len cap) :
  Calls Tryz.prog 81 #[.pointer (some ⟨g,0,none⟩)] w fun e w'=>∃ x:Int,e=.returned (.int .i64 x)∧0≤x∧x≤255∧Rdr w' g av len cap∧Gr g w w':=by
 have hg:=h.lt;have c0:=h.c0;have f1:=h.f1;have hc:=h.hc;have hm:=h.hm;unfold maxLen at hm;obtain ⟨p,hp,c1⟩:=h.c1;by_cases hlt:p<len
 ·rcases h.lies with h0 | ⟨b,off,rfl,hb,hn,hz⟩
  ·omega
  obtain ⟨z,cz,z0,z1⟩:=hz p hlt;have i0:(0:Int)≤(p:Int):=by omega
  have i1:(p:Int)<(len:Int):=by omega
  have hn2:¬g=b:=fun e=>hn e.symm;go_enter Tryz.func81,Tryz.ntmps81
  go_wp2_with fail
  go_region_held3 (fun w'=>Kp w w') (first | exact kp_zero _ | exact kp_drew (by assumption) | exact kp_step (by assumption) (by assumption)) (fail)
  go_wp2_with fail
  have hR:=(h.set (p:=p+1) (by omega)).below (Below.refl _ _).drew;have hG:=gr_drew (gr_set (gr_refl g w) 1 (.int .i64 ((p+1:Nat))));have d0:(w.setCell ⟨g,1,none⟩ (.int .i64 ((p+1:Nat)))).drew.cell? ⟨g,0,none⟩=some (.slice (some ⟨b,off,none⟩) len cap):=hR.c0;have d1:(w.setCell ⟨g,1,none⟩ (.int .i64 ((p+1:Nat)))).drew.cell? ⟨g,1,none⟩=some (.int .i64 ((p+1:Nat))):=World.cell?_setCell_same w _ _ c1;have d2:(w.setCell ⟨g,1,none⟩ (.int .i64 ((p+1:Nat)))).drew.cell? ⟨b,off+p,none⟩=some (.int .u8 z):=(gr_cell hG hb hn _).trans cz;have hg2:=hR.lt;have hb2:b<(w.setCell ⟨g,1,none⟩ (.int .i64 ((p+1:Nat)))).drew.heap.size:=Nat.lt_of_lt_of_le hb hG.size;have ep:((p+1:Nat):Int)=(p:Int)+1:=by omega
  rw [ep] at hR hG d0 d1 d2 hg2 hb2;clear ep c0 c1 cz;generalize (w.setCell ⟨g,1,none⟩ (.int .i64 ((p:Int)+1))).drew=W1 at *;have i2:IntKind.i64.wrap (p:Int)=(p:Int):=IntWalk.i64_in _ (by omega);have i3:IntKind.i64.wrap z=z:=IntWalk.i64_in _ (by omega);go_region_held3 (fun w'=>Kp W1 w') (first | exact kp_zero _ | exact kp_drew (by assumption) | exact kp_step (by assumption) (by assumption)) (fail)
  go_wp2_with fail
  go_ret
  exact ⟨z,rfl,z0,z1,hR.below (Below.refl _ _).drew,gr_drew hG⟩
 ·go_enter Tryz.func81,Tryz.ntmps81
  go_wp2_with fail
  go_region_held3 (fun w'=>Kp w w') (first | exact kp_zero _ | exact kp_drew (by assumption) | exact kp_step (by assumption) (by assumption)) (fail)
  go_wp2_with fail
  go_ret
  exact ⟨0,rfl,by omega,by omega,h.below (Below.refl _ _).drew,gr_drew (gr_refl _ _)⟩
set_option maxHeartbeats 4000000 in
theorem below_any (g:Nat)(av:Option Addr)(len cap:Nat)(n:Int)(w:World)(h:Rdr w g av len cap)(h1:1≤n)(h2:n≤1000000000) :
  Calls Tryz.prog 50 #[.pointer (some ⟨g,0,none⟩),.int .i64 n] w fun e w'=>∃ x:Int,e=.returned (.int .i64 x)∧0≤x∧x<n∧Rdr w' g av len cap∧Gr g w w':=by
 by_cases a1:n≤1
 ·go_enter Tryz.func50,Tryz.ntmps50
  go_wp2_with fail
  go_ret
  exact ⟨0,rfl,by omega,by omega,h,gr_refl _ _⟩
 ·by_cases a2:n≤256
  ·go_enter Tryz.func50,Tryz.ntmps50
   go_wp2_with fail
   refine (next_any _ _ _ _ _ h).mono ?_;rintro e w1 ⟨x,rfl,x0,x1,hR,hG⟩;go_wp2_with fail
   go_ret
   exact ⟨x % n,rfl,Int.emod_nonneg _ (by omega),Int.emod_lt_of_pos _ (by omega),hR,hG⟩
  ·go_enter Tryz.func50,Tryz.ntmps50
   go_wp2_with fail
   refine (next_any _ _ _ _ _ h).mono ?_;rintro e w1 ⟨x,rfl,x0,x1,hR,hG⟩;go_wp2_with fail
   refine (next_any _ _ _ _ _ hR).mono ?_;rintro e w2 ⟨y,rfl,y0,y1,hR2,hG2⟩;go_wp2_with fail
   go_ret
   exact ⟨(x*256+y) % n,rfl,Int.emod_nonneg _ (by omega),Int.emod_lt_of_pos _ (by omega),hR2,gr_trans hG hG2⟩
theorem once_any (g:Nat)(av:Option Addr)(len cap:Nat)(n:Int)(w:World)(h:Rdr w g av len cap)(h1:1≤n)(h2:n≤1000000000) :
  Calls Tryz.prog 83 #[.pointer (some ⟨g,0,none⟩),.int .i64 n] w fun e w'=>∃ x:Bool,e=.returned (.bool x)∧Rdr w' g av len cap∧Gr g w w':=by
 go_enter Tryz.func83,Tryz.ntmps83
 go_wp2_with fail
 refine (below_any _ _ _ _ _ _ h h1 h2).mono ?_;rintro e w1 ⟨x,rfl,x0,x1,hR,hG⟩;go_wp2_with fail
 go_ret
 exact ⟨_,rfl,hR,hG⟩
set_option maxHeartbeats 4000000 in
theorem word_any (g:Nat)(av:Option Addr)(len cap:Nat)(w:World)(h:Rdr w g av len cap) :
  Calls Tryz.prog 114 #[.pointer (some ⟨g,0,none⟩)] w fun e w'=>∃ x:Int,e=.returned (.int .u64 x)∧0≤x∧x≤18446744073709551615∧Rdr w' g av len cap∧Gr g w w':=by
 go_enter Tryz.func114,Tryz.ntmps114
 go_wp2_with fail
 go_loopw [3,4] (fun x i wr=>∃ (k:Nat) (y:Int),k≤8∧i=.int .i64 k∧x=.int .u64 y∧0≤y∧y≤18446744073709551615∧Rdr wr g av len cap∧Gr g w wr) (fun _ i _=>8-(intOf i).toNat)
 case atStart=>exact ⟨0,0,by omega,rfl,rfl,by omega,by omega,h,gr_refl _ _⟩
 case round =>
  obtain ⟨k,y,hk,rfl,rfl,y0,y1,hR,hG⟩:=hrel;by_cases hlt:k<8
  ·go_wp2_with fail
   refine (next_any _ _ _ _ _ hR).mono ?_;rintro e w1 ⟨z,rfl,z0,z1,hR2,hG2⟩;go_wp2_with fail
   have hw:=bounds_u64 (wf_bits .or .u64 (IntKind.u64.wrap (y*256)) z);exact ⟨⟨k+1,_,by omega,by go_num,rfl,hw.1,hw.2,hR2,gr_trans hG hG2⟩,by simp [intOf];omega⟩
  ·go_wp2_with fail
   go_ret
   exact ⟨y,rfl,y0,y1,hR,hG⟩
set_option maxHeartbeats 4000000 in
theorem near_any (g:Nat)(av:Option Addr)(len cap:Nat)(lo hi:Int)(w:World)(h:Rdr w g av len cap)(h1:-1000000000≤lo)(h2:lo≤hi)(h3:hi≤1000000000) :
  Calls Tryz.prog 85 #[.pointer (some ⟨g,0,none⟩),.int .i64 lo,.int .i64 hi] w fun e w'=>∃ x:Int,e=.returned (.int .i64 x)∧lo≤x∧x≤hi∧Rdr w' g av len cap∧Gr g w w':=by
 go_enter Tryz.func85,Tryz.ntmps85
 go_wp2_with fail
 refine (below_any _ _ _ _ _ _ h (by omega) (by omega)).mono ?_;rintro e w1 ⟨x,rfl,x0,x1,hR,hG⟩;by_cases a0:x=0
 ·have b0:(x==0)=true:=by simp [a0]
  clear a0;go_wp2_with fail
  go_ret
  exact ⟨lo,rfl,by omega,by omega,hR,hG⟩
 ·have b0:(x==0)=false:=by simp [a0]
  by_cases a1:x=1
  ·have b1:(x==1)=true:=by simp [a1]
   clear a0 a1;go_wp2_with fail
   go_ret
   exact ⟨hi,rfl,by omega,by omega,hR,hG⟩
  ·have b1:(x==1)=false:=by simp [a1]
   clear a0 a1;go_wp2_with fail
   refine (word_any _ _ _ _ _ hR).mono ?_;rintro e w2 ⟨y,rfl,y0,y1,hR2,hG2⟩;go_wp2_with fail
   have m0:0≤y / 2 % (hi-lo+1):=Int.emod_nonneg _ (by omega);have m1:y / 2 % (hi-lo+1)<hi-lo+1:=Int.emod_lt_of_pos _ (by omega);generalize y / 2 % (hi-lo+1)=m at *;have e1:wrap64 m=m:=by rw [←IntWalk.i64_left];exact IntWalk.i64_in _ (by omega)
   have e2:wrap64 (lo+m)=lo+m:=by rw [←IntWalk.i64_left];exact IntWalk.i64_in _ (by omega)
   rw [e1,e2];go_ret
   exact ⟨lo+m,rfl,by omega,by omega,hR2,gr_trans hG hG2⟩
set_option maxHeartbeats 4000000 in
theorem off_any (g:Nat)(av:Option Addr)(len cap:Nat)(lo hi:Int)(w:World)(h:Rdr w g av len cap)(h1:-1000000000≤lo)(h2:lo≤hi)(h3:hi≤1000000000) :
  Calls Tryz.prog 53 #[.pointer (some ⟨g,0,none⟩),.int .i64 lo,.int .i64 hi] w fun e w'=>∃ x:Int,e=.returned (.int .i64 x)∧-9223372036854775808≤x∧x≤9223372036854775807∧Rdr w' g av len cap∧Gr g w w':=by
 go_enter Tryz.func53,Tryz.ntmps53
 go_wp2_with fail
 refine (once_any _ _ _ _ _ _ h (by omega) (by omega)).mono ?_;rintro e w1 ⟨x,rfl,hR,hG⟩
 cases x with
 | false =>
  go_wp2_with fail
  refine (near_any _ _ _ _ _ _ _ hR h1 h2 h3).mono ?_;rintro e w2 ⟨y,rfl,y0,y1,hR2,hG2⟩;go_wp2_with fail
  go_ret
  exact ⟨y,rfl,by omega,by omega,hR2,gr_trans hG hG2⟩
 | true =>
  go_wp2_with fail
  refine (below_any _ _ _ _ _ _ (hR.below ((Below.refl _ _).alloc (Nat.le_refl _) _)) (by omega) (by omega)).mono ?_;rintro e w2 ⟨y,rfl,y0,y1,hR2,hG2⟩;have hG3:=gr_trans (gr_alloc (gr_refl g w1) _) hG2;have hlt:=hR.lt;obtain ⟨rc,rf,rz,rn⟩:=gr_rules hG2;have hne:¬w1.heap.size=g:=by omega
  obtain rfl | rfl | rfl | rfl:y=0∨y=1∨y=2∨y=3:=by omega
  all_goals
   go_wp2_with fail
   go_ret
   exact ⟨_,rfl,by omega,by omega,hR2,gr_trans hG hG3⟩
end Go.Proofs.YtgcinolbkllkkaaGreat
