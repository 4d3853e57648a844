/-
  What keeps a connection from being used, a channel from beginning, or going on.
-/
import Derived.Test.YtbgdpfeobklnhaaGreatDoorcvChMath
import Derived.Test.YtbgdpfeobklnhaaGreatDoorcvCoLive
import Derived.Test.YtbgdpfeobklnhaaGreatDoorcvStWrong
import Derived.Test.YtbgdpfeobklnhaaGreatDoorcvFrKit
namespace Go.Proofs.YtbgdpfeobklnhaaGreatDoor
set_option maxRecDepth 1000000
set_option maxHeartbeats 8000000
open Go.RowKit
theorem QkV {y0 y3 y5 y6 y7 y8 y9 A0 A1 A2 A3 A4 A5 A6 A7 A8 A9 Aa Ab Ac Ad Ae Af Ag Ah Ai Aj Ak z4 Al Am An Ao Ap Aq Ar As:Value} {x0 x1 x2 x3 x5 x6 x7 x8 x9:Value} {gs b f k n c:Nat} {cl z:Int} {w:World} (hgs:Hid (Row w gs 28 [x0,x1,x2,x3,.slice (some ⟨b,f,none⟩) n c,x5,x6,x7,x8,x9])) (hlb:(k:Int)<(n:Int)) (hbb:b<w.heap.size) (hcb:Hid (w.cell? ⟨b,f+k*4+1,none⟩=some (.int .i64 cl))) (hc:∀ W,Below w.heap.size w W→Calls Tryz.prog 78 #[.agg #[x0,x1,x2,x3,.slice (some ⟨b,f,none⟩) n c,x5,x6,x7,x8,x9],.int .i64 cl] W fun e w'=>e=.returned (.int .i64 z)∧Below W.heap.size W w') (Q:Exit→Act→World→Prop)
  (hQ:Hid (∀ (σ:Nat→Value) (w':World),Below w.heap.size w w'→σ 8=.int .i64 z→Q .normal ⟨#[y0,.int .i64 (k:Int),.pointer (some ⟨gs,0,none⟩),y3,σ 8,y5,y6,y7,y8,y9,A0,A1,A2,A3,A4,A5,A6,A7,A8,A9,Aa,Ab,Ac,Ad,Ae,Af,Ag,Ah,Ai,Aj,Ak,σ 0,σ 1,σ 2,σ 3,σ 4,σ 5,σ 6,σ 7],[]⟩ w')) :
  Code.wp Tryz.prog (.region 7 ((Tryz.f56.body.bind (Q3 7)).getD #[]) true) Q ⟨#[y0,.int .i64 (k:Int),.pointer (some ⟨gs,0,none⟩),y3,z4,y5,y6,y7,y8,y9,A0,A1,A2,A3,A4,A5,A6,A7,A8,A9,Aa,Ab,Ac,Ad,Ae,Af,Ag,Ah,Ai,Aj,Ak,Al,Am,An,Ao,Ap,Aq,Ar,As],[]⟩ w:=by
 conv=>arg 2;arg 2;whnf
 conv=>arg 4;dsimp only
 refine QT (by kernel_rfl) (fun σ=>#[y0,.int .i64 (k:Int),.pointer (some ⟨gs,0,none⟩),y3,σ 8,y5,y6,y7,y8,y9,A0,A1,A2,A3,A4,A5,A6,A7,A8,A9,Aa,Ab,Ac,Ad,Ae,Af,Ag,Ah,Ai,Aj,Ak,σ 0,σ 1,σ 2,σ 3,σ 4,σ 5,σ 6,σ 7]) (fun i=>([Al,Am,An,Ao,Ap,Aq,Ar,As,z4]:List Value).getD i undef) rfl (fun i X W=>match i with
  | 0=>X=.agg #[x0,x1,x2,x3,.slice (some ⟨b,f,none⟩) n c,x5,x6,x7,x8,x9]
  | 1=>X=.pointer (some ⟨gs,4,none⟩)
  | 2=>X=.slice (some ⟨b,f,none⟩) n c
  | 3=>X=.int .i64 (k:Int)
  | 4=>X=.pointer (some ⟨b,f+k*4,none⟩)
  | 5=>X=.pointer (some ⟨b,f+k*4+1,none⟩)
  | 6=>X=.int .i64 cl
  | 7=>X=.int .i64 z
  | 8=>X=.int .i64 z
  | _=>True) ?_ (by kernel_rfl) ?_ ?_
 ·intro i X W W' HB H
  iterate 9 (obtain _ | i:=i;first | exact H)
  exact H
 ·refine ⟨?_,?_,?_,?_,?_,?_,?_,?_,?_,trivial⟩
  all_goals (intro σ W HJ hdep;simp [Region.binds] at hdep;have HJ:=hid HJ;obtain ⟨gsk0,gsk1,gsk2,gsk3,gsk4,gsk5,gsk6,gsk7,gsk8,gsk9⟩:=(rg hgs HJ).k10;have bk0:=hcb.out;replace bk0:=(HJ.out.cell (by exact hbb)).trans bk0)
  ·refine Qa rfl rfl ?_;go_simp;exact Ql.mk0 _ (by first | rfl | simp [Qe, *]) HJ.out rfl
  ·refine Qa rfl rfl ?_;go_simp;exact Ql.mk0 _ (by first | rfl | simp [Qe, *]) HJ.out rfl
  ·refine Qa rfl rfl ?_;go_simp;exact Ql.mk0 _ (by first | rfl | simp [Qe, *]) HJ.out rfl
  ·refine Qa rfl rfl ?_;go_simp;exact Ql.mk0 _ (by first | rfl | simp [Qe, *]) HJ.out rfl
  ·refine Qa rfl rfl ?_;go_simp;exact Ql.mk0 _ (by first | rfl | simp [Qe, *]) HJ.out rfl
  ·refine Qa rfl rfl ?_;go_simp;exact Ql.mk0 _ (by first | rfl | simp [Qe, *]) HJ.out rfl
  ·refine Qa rfl rfl ?_;go_simp;exact Ql.mk0 _ (by first | rfl | simp [Qe, *]) HJ.out rfl
  ·have HC:=hid (hc W HJ.out);refine Qa rfl rfl ?_;go_simp;refine HC.out.mono ?_;rintro e w2 ⟨rfl,hb⟩;exact Ql.mk _ (by first | rfl | simp [Qe, *]) hb HJ.out rfl
  ·refine Qa rfl rfl ?_;go_simp;exact Ql.mk0 _ (by first | rfl | simp [Qe, *]) HJ.out rfl
 ·intro σ w' hb hg
  exact hQ.out σ w' hb (hg 8 (by decide))
theorem Qg4 (s:St) (v:Value) (N:Nat) (w:World) (i:Int) (hv:StV w N v s) (hN:N≤w.heap.size) (h0:Qk s=0) :
  Calls Tryz.prog 56 #[v,.int .i64 i] w fun e w'=>e=.returned (.int .i64 (QI s i))∧Below w.heap.size w w':=by
 have HE:=hid (show QI s i=if i<0∨(s.conns.length:Int)≤i then 6 else if (ZP s i).state≠3 then 12 else if (ZP s i).oconn<0 then 8 else YZ s (ZP s i).client from rfl)
 have HLV:=hid (fun (c:Int) wx (hx:Below w.heap.size w wx)=>QkJ s v N wx c (hv.below (hx.mono hN)) (Nat.le_trans hN hx.size) h0)
 obtain ⟨o1,c1,o2,c2,o3,c3,o4,c4,o5,c5,o6,c6,o7,c7,rfl,hm⟩:=hv.open
 have HM:=hid hm
 clear hv hm h0
 go_enter Tryz.func56,Tryz.ntmps56
 go_upto_region 1 with fail
 refine QgQ ?_
 intro w0 F hs
 have k4:=F.r0.k10.2.2.2.2.1
 by_cases h0:i<0
 ·have e0:decide (i<0)=true:=by simpa using h0
  go_wp2
  go_ret
  exact ⟨by rw [HE.out,if_pos (.inl h0)];rfl,F.b⟩
 have e0:decide (i<0)=false:=by simpa using h0
 by_cases h1:(s.conns.length:Int)≤i
 ·have e1:decide ((s.conns.length:Int)≤i)=true:=by simpa using h1
  go_wp2
  go_ret
  exact ⟨by rw [HE.out,if_pos (.inr h1)];rfl,F.b⟩
 have e1:decide ((s.conns.length:Int)≤i)=false:=by simpa using h1
 have HE2:=hid (HE.out.trans (if_neg (by omega)))
 obtain ⟨k,rfl⟩:∃ k:Nat,i=(k:Int):=⟨i.toNat,by omega⟩
 have hlt:(k:Int)<(s.conns.length:Int):=by omega
 obtain ⟨x,hx⟩:∃ x,s.conns[k]?=some x:=⟨_,List.getElem?_eq_getElem (by omega)⟩
 rw [ZY hx] at HE2
 obtain ⟨b,f,rfl,hb,x0,x1,x2,x3⟩:=(HM.out.below (F.b.mono hN)).conns.conn rfl hx
 have HX1:=hid x1
 clear x1 x2 hx HE
 have hbl:b<w0.heap.size:=by have:=F.b.size;omega
 by_cases h2:x.state=3
 ·have e2:(x.state != 3)=false:=by simpa using h2
  by_cases h3:x.oconn<0
  ·have e3:decide (x.oconn<0)=true:=by simpa using h3
   have HL:=hid (HE2.out.trans ((if_neg (by simp [h2])).trans (if_pos h3)))
   clear h2 h3
   go_wp2
   go_ret
   exact ⟨by rw [HL.out];rfl,F.b⟩
  have e3:decide (x.oconn<0)=false:=by simpa using h3
  have HL:=hid (HE2.out.trans ((if_neg (by simp [h2])).trans (if_neg h3)))
  clear h2 h3
  go_upto_region 7 with fail
  refine QkV (hid F.r0) hlt hbl HX1 (z:=YZ s x.client) (fun W hW=>HLV.out x.client W (F.go hW).b) _ (hid ?_)
  intro σ w2 hb2 ea
  have F2:=F.go hb2
  rw [ea]
  clear ea hb2
  go_wp2
  go_ret
  exact ⟨by rw [HL.out];rfl,F2.b⟩
 ·have e2:(x.state != 3)=true:=by simpa using h2
  have HL:=hid (HE2.out.trans (if_pos h2))
  clear h2
  go_wp2
  go_ret
  exact ⟨by rw [HL.out];rfl,F.b⟩
theorem QcO (s:St) (v:Value) (N:Nat) (w:World) (i:Int) (hv:StV w N v s) (hN:N≤w.heap.size) (hfit:s.fits) :
  Calls Tryz.prog 21 #[v,.int .i64 i] w fun e w'=>e=.returned (.int .i64 (QC s i))∧Below w.heap.size w w':=by
 have HE:=hid (show QC s i=if Qk s≠0 then Qk s else QI s i from rfl)
 have HW1:=hid (fun wx (hx:Below w.heap.size w wx)=>Qfz s v N wx (hv.below (hx.mono hN)) (Nat.le_trans hN hx.size) hfit)
 have HUS:=hid (fun (h0:Qk s=0) (c:Int) wx (hx:Below w.heap.size w wx)=>Qg4 s v N wx c (hv.below (hx.mono hN)) (Nat.le_trans hN hx.size) h0)
 obtain ⟨o1,c1,o2,c2,o3,c3,o4,c4,o5,c5,o6,c6,o7,c7,rfl,hm⟩:=hv.open
 have HM:=hid hm
 clear hv hm hfit
 go_enter Tryz.func21,Tryz.ntmps21
 go_upto_region 1 with fail
 refine QgQ ?_
 intro w0 F0 hs
 obtain ⟨k0,k1,k2,k3,k4,k5,k6,k7,k8,k9⟩:=F0.r0.k10
 go_wp2_with fail
 refine (HW1.out _ F0.b).mono ?_
 rintro e w1 ⟨rfl,hb1⟩
 have F:=F0.go hb1
 clear hb1 k0 k1 k2 k3 k4 k5 k6 k7 k8 k9 F0 hs
 by_cases hz:Qk s=0
 ·have H0:=hid hz
  have HS:=hid (HE.out.trans (if_neg (by simp [hz])))
  rw [hz]
  clear hz
  obtain ⟨k0,k1,k2,k3,k4,k5,k6,k7,k8,k9⟩:=F.r0.k10
  go_wp2_with fail
  refine (HUS.out H0.out i w1 F.b).mono ?_
  rintro e w2 ⟨rfl,hb2⟩
  have F2:=F.go hb2
  clear hb2 k0 k1 k2 k3 k4 k5 k6 k7 k8 k9
  go_wp2
  go_ret
  exact ⟨by rw [HS.out];rfl,F2.b⟩
 ·have e0:(Qk s != 0)=true:=by simpa using hz
  have HS:=hid (HE.out.trans (if_pos hz))
  clear hz
  generalize Qk s=z at *
  go_wp2
  go_ret
  exact ⟨by rw [HS.out];rfl,F.b⟩
theorem QkA {y0 y2 y4 y5 y7 y8 y9 A0 A1 A2 A3 A4 A5 A6 A7 A8 A9 Aa Ab Ac Ad Ae Af Ag Ah Ai Aj Ak Al z6 Am An Ao Ap Aq Ar As At:Value} {x0 x1 x2 x3 x4 x6 x7 x8 x9:Value} {gs b f k n c:Nat} {cn z:Int} {w:World} (hgs:Hid (Row w gs 28 [x0,x1,x2,x3,x4,.slice (some ⟨b,f,none⟩) n c,x6,x7,x8,x9])) (hlb:(k:Int)<(n:Int)) (hbb:b<w.heap.size) (hcb:Hid (w.cell? ⟨b,f+k*7+2,none⟩=some (.int .i64 cn))) (hc:∀ W,Below w.heap.size w W→Calls Tryz.prog 56 #[.agg #[x0,x1,x2,x3,x4,.slice (some ⟨b,f,none⟩) n c,x6,x7,x8,x9],.int .i64 cn] W fun e w'=>e=.returned (.int .i64 z)∧Below W.heap.size W w') (Q:Exit→Act→World→Prop)
  (hQ:Hid (∀ (σ:Nat→Value) (w':World),Below w.heap.size w w'→σ 8=.int .i64 z→Q .normal ⟨#[y0,.int .i64 (k:Int),y2,.pointer (some ⟨gs,0,none⟩),y4,y5,σ 8,y7,y8,y9,A0,A1,A2,A3,A4,A5,A6,A7,A8,A9,Aa,Ab,Ac,Ad,Ae,Af,Ag,Ah,Ai,Aj,Ak,Al,σ 0,σ 1,σ 2,σ 3,σ 4,σ 5,σ 6,σ 7],[]⟩ w')) :
  Code.wp Tryz.prog (.region 8 ((Tryz.f35.body.bind (Q3 8)).getD #[]) true) Q ⟨#[y0,.int .i64 (k:Int),y2,.pointer (some ⟨gs,0,none⟩),y4,y5,z6,y7,y8,y9,A0,A1,A2,A3,A4,A5,A6,A7,A8,A9,Aa,Ab,Ac,Ad,Ae,Af,Ag,Ah,Ai,Aj,Ak,Al,Am,An,Ao,Ap,Aq,Ar,As,At],[]⟩ w:=by
 conv=>arg 2;arg 2;whnf
 conv=>arg 4;dsimp only
 refine QT (by kernel_rfl) (fun σ=>#[y0,.int .i64 (k:Int),y2,.pointer (some ⟨gs,0,none⟩),y4,y5,σ 8,y7,y8,y9,A0,A1,A2,A3,A4,A5,A6,A7,A8,A9,Aa,Ab,Ac,Ad,Ae,Af,Ag,Ah,Ai,Aj,Ak,Al,σ 0,σ 1,σ 2,σ 3,σ 4,σ 5,σ 6,σ 7]) (fun i=>([Am,An,Ao,Ap,Aq,Ar,As,At,z6]:List Value).getD i undef) rfl (fun i X W=>match i with
  | 0=>X=.agg #[x0,x1,x2,x3,x4,.slice (some ⟨b,f,none⟩) n c,x6,x7,x8,x9]
  | 1=>X=.pointer (some ⟨gs,5,none⟩)
  | 2=>X=.slice (some ⟨b,f,none⟩) n c
  | 3=>X=.int .i64 (k:Int)
  | 4=>X=.pointer (some ⟨b,f+k*7,none⟩)
  | 5=>X=.pointer (some ⟨b,f+k*7+2,none⟩)
  | 6=>X=.int .i64 cn
  | 7=>X=.int .i64 z
  | 8=>X=.int .i64 z
  | _=>True) ?_ (by kernel_rfl) ?_ ?_
 ·intro i X W W' HB H
  iterate 9 (obtain _ | i:=i;first | exact H)
  exact H
 ·refine ⟨?_,?_,?_,?_,?_,?_,?_,?_,?_,trivial⟩
  all_goals (intro σ W HJ hdep;simp [Region.binds] at hdep;have HJ:=hid HJ;obtain ⟨gsk0,gsk1,gsk2,gsk3,gsk4,gsk5,gsk6,gsk7,gsk8,gsk9⟩:=(rg hgs HJ).k10;have bk0:=hcb.out;replace bk0:=(HJ.out.cell (by exact hbb)).trans bk0)
  ·refine Qa rfl rfl ?_;go_simp;exact Ql.mk0 _ (by first | rfl | simp [Qe, *]) HJ.out rfl
  ·refine Qa rfl rfl ?_;go_simp;exact Ql.mk0 _ (by first | rfl | simp [Qe, *]) HJ.out rfl
  ·refine Qa rfl rfl ?_;go_simp;exact Ql.mk0 _ (by first | rfl | simp [Qe, *]) HJ.out rfl
  ·refine Qa rfl rfl ?_;go_simp;exact Ql.mk0 _ (by first | rfl | simp [Qe, *]) HJ.out rfl
  ·refine Qa rfl rfl ?_;go_simp;exact Ql.mk0 _ (by first | rfl | simp [Qe, *]) HJ.out rfl
  ·refine Qa rfl rfl ?_;go_simp;exact Ql.mk0 _ (by first | rfl | simp [Qe, *]) HJ.out rfl
  ·refine Qa rfl rfl ?_;go_simp;exact Ql.mk0 _ (by first | rfl | simp [Qe, *]) HJ.out rfl
  ·have HC:=hid (hc W HJ.out);refine Qa rfl rfl ?_;go_simp;refine HC.out.mono ?_;rintro e w2 ⟨rfl,hb⟩;exact Ql.mk _ (by first | rfl | simp [Qe, *]) hb HJ.out rfl
  ·refine Qa rfl rfl ?_;go_simp;exact Ql.mk0 _ (by first | rfl | simp [Qe, *]) HJ.out rfl
 ·intro σ w' hb hg
  exact hQ.out σ w' hb (hg 8 (by decide))
theorem QcJ (s:St) (v:Value) (N:Nat) (w:World) (i st:Int) (hv:StV w N v s) (hN:N≤w.heap.size) (hfit:s.fits) :
  Calls Tryz.prog 35 #[v,.int .i64 i,.int .i64 st] w fun e w'=>e=.returned (.int .i64 (QG s i st))∧Below w.heap.size w w':=by
 have HE:=hid (show QG s i st=if Qk s≠0 then Qk s else if i<0∨(s.chans.length:Int)≤i then 6 else if (QN s i).state≠st then 12 else QI s (QN s i).conn from rfl)
 have HW1:=hid (fun wx (hx:Below w.heap.size w wx)=>Qfz s v N wx (hv.below (hx.mono hN)) (Nat.le_trans hN hx.size) hfit)
 have HUS:=hid (fun (h0:Qk s=0) (c:Int) wx (hx:Below w.heap.size w wx)=>Qg4 s v N wx c (hv.below (hx.mono hN)) (Nat.le_trans hN hx.size) h0)
 obtain ⟨o1,c1,o2,c2,o3,c3,o4,c4,o5,c5,o6,c6,o7,c7,rfl,hm⟩:=hv.open
 have HM:=hid hm
 clear hv hm hfit
 go_enter Tryz.func35,Tryz.ntmps35
 go_upto_region 1 with fail
 refine QgQ ?_
 intro w0 F0 hs
 obtain ⟨k0,k1,k2,k3,k4,k5,k6,k7,k8,k9⟩:=F0.r0.k10
 go_wp2_with fail
 refine (HW1.out _ F0.b).mono ?_
 rintro e w1 ⟨rfl,hb1⟩
 have F:=F0.go hb1
 clear hb1 k0 k1 k2 k3 k4 k5 k6 k7 k8 k9 F0 hs
 by_cases hz:Qk s=0
 ·have H0:=hid hz
  have HS:=hid (HE.out.trans (if_neg (by simp [hz])))
  rw [hz]
  clear hz
  obtain ⟨k0,k1,k2,k3,k4,k5,k6,k7,k8,k9⟩:=F.r0.k10
  by_cases h0:i<0
  ·have e0:decide (i<0)=true:=by simpa using h0
   go_wp2
   go_ret
   exact ⟨by rw [HS.out,if_pos (.inl h0)];rfl,F.b⟩
  have e0:decide (i<0)=false:=by simpa using h0
  by_cases h1:(s.chans.length:Int)≤i
  ·have e1:decide ((s.chans.length:Int)≤i)=true:=by simpa using h1
   go_wp2
   go_ret
   exact ⟨by rw [HS.out,if_pos (.inr h1)];rfl,F.b⟩
  have e1:decide ((s.chans.length:Int)≤i)=false:=by simpa using h1
  have HE2:=hid (HS.out.trans (if_neg (by omega)))
  obtain ⟨k,rfl⟩:∃ k:Nat,i=(k:Int):=⟨i.toNat,by omega⟩
  have hlt:(k:Int)<(s.chans.length:Int):=by omega
  obtain ⟨x,hx⟩:∃ x,s.chans[k]?=some x:=⟨_,List.getElem?_eq_getElem (by omega)⟩
  rw [Yk hx] at HE2
  obtain ⟨b,f,rfl,hb,x0,-,x2,-⟩:=(HM.out.below (F.b.mono hN)).chans.chan rfl hx
  have HX2:=hid x2
  clear x2 hx HE HS
  have hbl:b<w1.heap.size:=by have:=F.b.size;omega
  by_cases h2:x.state=st
  ·have e2:(x.state != st)=false:=by simpa using h2
   have HL:=hid (HE2.out.trans (if_neg (by simp [h2])))
   clear h2
   go_upto_region 8 with fail
   refine QkA (hid F.r0) hlt hbl HX2 (z:=QI s x.conn) (fun W hW=>HUS.out H0.out x.conn W (F.go hW).b) _ (hid ?_)
   intro σ w2 hb2 ea
   have F2:=F.go hb2
   rw [ea]
   clear ea hb2
   go_wp2
   go_ret
   exact ⟨by rw [HL.out];rfl,F2.b⟩
  ·have e2:(x.state != st)=true:=by simpa using h2
   have HL:=hid (HE2.out.trans (if_pos h2))
   clear h2
   go_wp2
   go_ret
   exact ⟨by rw [HL.out];rfl,F.b⟩
 ·have e0:(Qk s != 0)=true:=by simpa using hz
  have HS:=hid (HE.out.trans (if_pos hz))
  clear hz
  generalize Qk s=z at *
  go_wp2
  go_ret
  exact ⟨by rw [HS.out];rfl,F.b⟩
end Go.Proofs.YtbgdpfeobklnhaaGreatDoor
