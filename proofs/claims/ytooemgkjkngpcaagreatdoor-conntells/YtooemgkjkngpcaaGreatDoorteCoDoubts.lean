/-
  What keeps a connection from beginning, or going on.
-/
import Derived.Test.YtooemgkjkngpcaaGreatDoorteCoLive
import Derived.Test.YtooemgkjkngpcaaGreatDoorteStWrong
namespace Go.Proofs.YtooemgkjkngpcaaGreatDoor
set_option maxRecDepth 1000000
set_option maxHeartbeats 8000000
open Go.RowKit
theorem YJ {s:St} {i st:Int} (h:JB s i st=0):Qm s=0∧(0≤i∧i<(s.conns.length:Int))∧(YU s i).state=st∧QA s (YU s i).client=0:=by
 unfold JB at h
 split at h
 ·rename_i h1;exact absurd h h1
 rename_i h1
 split at h
 ·cases h
 split at h
 ·cases h
 rename_i h2 h3
 exact ⟨by simpa using h1,by omega,by simpa using h3,h⟩
theorem QbP (s:St) (v:Value) (N:Nat) (w:World) (c:Int) (hv:StV w N v s) (hN:N≤w.heap.size) (hfit:s.fits) :
  Calls Tryz.prog 55 #[v,.int .i64 c] w fun e w'=>e=.returned (.int .i64 (QQ s c))∧Below w.heap.size w w':=by
 have HW1:=hid (fun wx (hx:Below w.heap.size w wx)=>Qfg s v N wx (hv.below (hx.mono hN)) (Nat.le_trans hN hx.size) hfit)
 have HLV:=hid (show Qm s=0→∀ wx,Below w.heap.size w wx→_ from fun h0 wx hx=>Qj4 s v N wx c (hv.below (hx.mono hN)) (Nat.le_trans hN hx.size) h0)
 obtain ⟨o1,c1,o2,c2,o3,c3,o4,c4,o5,c5,o6,c6,o7,c7,rfl,hm⟩:=hv.open
 obtain ⟨w0,hw0,hb0,HR0,hsz0⟩:=Qki w 28 [.string s.name,.int .i64 s.height,.int .i64 s.time,.slice o1 s.clients.length c1,.slice o2 s.conns.length c2,.slice o3 s.chans.length c3,.slice o4 s.sent.length c4,.slice o5 s.got.length c5,.slice o6 s.acks.length c6,.slice o7 s.purses.length c7]
 have HB0:=hid hb0
 obtain ⟨k0,k1,k2,k3,k4,k5,k6,k7,k8,k9⟩:=HR0.out.c10
 have HW0:=hid hw0
 clear hv hm hfit hb0 hw0
 go_enter Tryz.func55,Tryz.ntmps55
 go_upto_region 1 with fail
 rw [HW0.out]
 go_wp2_with fail
 refine (HW1.out _ HB0.out).mono ?_
 rintro e w1 ⟨rfl,hb1⟩
 have HB1:=hgo HB0 hb1
 have HR1:=rgo HR0 hb1
 clear hb1 k0 k1 k2 k3 k4 k5 k6 k7 k8 k9
 by_cases hz:Qm s=0
 ·have HS:=hid (show QQ s c=QA s c from if_neg (by simp [hz]))
  have HLW:=hid (HLV.out hz _ HB1.out)
  rw [hz]
  clear hz
  obtain ⟨k0,k1,k2,k3,k4,k5,k6,k7,k8,k9⟩:=HR1.out.c10
  go_wp2_with fail
  refine HLW.out.mono ?_
  rintro e w2 ⟨rfl,hb2⟩
  have HB2:=hgo HB1 hb2
  clear hb2 k0 k1 k2 k3 k4 k5 k6 k7 k8 k9
  go_wp2
  go_ret
  exact ⟨by rw [HS.out];first | done | rfl,HB2.out⟩
 ·have e0:(Qm s != 0)=true:=by simpa using hz
  have HS:=hid (show QQ s c=Qm s from if_pos hz)
  clear hz
  generalize hzz:Qm s=z at *
  have HZZ:=hid hzz
  clear hzz
  go_wp2
  go_ret
  exact ⟨by rw [HS.out];first | done | rfl,HB1.out⟩
theorem QkU {y0 y2 y4 y5 y7 y8 y9 A0 A1 A2 A3 A4 A5 A6 A7 A8 A9 Aa Ab Ac Ad Ae Af Ag Ah Ai Aj Ak Al z6 Am An Ao Ap Aq Ar As At:Value} {gs N:Nat} (s:St) (x:Cn) (k b f:Nat) (o1 o3 o4 o5 o6 o7:Option Addr) (c1 c2 c3 c4 c5 c6 c7:Nat) {w:World} (hN:N≤w.heap.size) (hrs:Hid (Row w gs 28 [.string s.name,.int .i64 s.height,.int .i64 s.time,.slice o1 s.clients.length c1,.slice (some ⟨b,f,none⟩) s.conns.length c2,.slice o3 s.chans.length c3,.slice o4 s.sent.length c4,.slice o5 s.got.length c5,.slice o6 s.acks.length c6,.slice o7 s.purses.length c7])) (_hlt:(k:Int)<(s.conns.length:Int)) (hb1:b<w.heap.size) (hca:Hid (w.cell? ⟨b,f+k*4+1,none⟩=some (.int .i64 x.client))) (hsv:Hid (StV w N (.agg #[.string s.name,.int .i64 s.height,.int .i64 s.time,.slice o1 s.clients.length c1,.slice (some ⟨b,f,none⟩) s.conns.length c2,.slice o3 s.chans.length c3,.slice o4 s.sent.length c4,.slice o5 s.got.length c5,.slice o6 s.acks.length c6,.slice o7 s.purses.length c7]) s)) (hw0:Hid (Qm s=0)) (Q:Exit→Act→World→Prop)
  (hQ:Hid (∀ (σ:Nat→Value) (w':World),Below w.heap.size w w'→/-8-/ σ 8=.int .i64 (QA s x.client)→Q .normal ⟨#[y0,.int .i64 (k:Int),y2,.pointer (some ⟨gs,0,none⟩),y4,y5,σ 8,y7,y8,y9,A0,A1,A2,A3,A4,A5,A6,A7,A8,A9,Aa,Ab,Ac,Ad,Ae,Af,Ag,Ah,Ai,Aj,Ak,Al,σ 0,σ 1,σ 2,σ 3,σ 4,σ 5,σ 6,σ 7],[]⟩ w')) :
  Code.wp Tryz.prog (.region 8 ((Tryz.f64.body.bind (Ja 8)).getD #[]) true) Q ⟨#[y0,.int .i64 (k:Int),y2,.pointer (some ⟨gs,0,none⟩),y4,y5,z6,y7,y8,y9,A0,A1,A2,A3,A4,A5,A6,A7,A8,A9,Aa,Ab,Ac,Ad,Ae,Af,Ag,Ah,Ai,Aj,Ak,Al,Am,An,Ao,Ap,Aq,Ar,As,At],[]⟩ w:=by
 conv=>arg 2;arg 2;whnf
 conv=>arg 4;dsimp only
 refine Q6 (by kernel_rfl) (fun σ=>#[y0,.int .i64 (k:Int),y2,.pointer (some ⟨gs,0,none⟩),y4,y5,σ 8,y7,y8,y9,A0,A1,A2,A3,A4,A5,A6,A7,A8,A9,Aa,Ab,Ac,Ad,Ae,Af,Ag,Ah,Ai,Aj,Ak,Al,σ 0,σ 1,σ 2,σ 3,σ 4,σ 5,σ 6,σ 7]) (fun i=>([Am,An,Ao,Ap,Aq,Ar,As,At,z6]:List Value).getD i undef) rfl (fun i X W=>match i with
  | 0=>X=.agg #[.string s.name,.int .i64 s.height,.int .i64 s.time,.slice o1 s.clients.length c1,.slice (some ⟨b,f,none⟩) s.conns.length c2,.slice o3 s.chans.length c3,.slice o4 s.sent.length c4,.slice o5 s.got.length c5,.slice o6 s.acks.length c6,.slice o7 s.purses.length c7]
  | 1=>X=.pointer (some ⟨gs,4,none⟩)
  | 2=>X=.slice (some ⟨b,f,none⟩) s.conns.length c2
  | 3=>X=.int .i64 (k:Int)
  | 4=>X=.pointer (some ⟨b,f+k*4,none⟩)
  | 5=>X=.pointer (some ⟨b,f+k*4+1,none⟩)
  | 6=>X=.int .i64 x.client
  | 7=>X=.int .i64 (QA s x.client)
  | 8=>X=.int .i64 (QA s x.client)
  | _=>True) ?_ (by kernel_rfl) ?_ ?_
 ·intro i X W W' HB H
  match i,H with
  | 0,H=>exact H
  | 1,H=>exact H
  | 2,H=>exact H
  | 3,H=>exact H
  | 4,H=>exact H
  | 5,H=>exact H
  | 6,H=>exact H
  | 7,H=>exact H
  | 8,H=>exact H
  | _+9,_=>exact trivial
 ·refine ⟨?_,?_,?_,?_,?_,?_,?_,?_,?_,trivial⟩
  ·
   intro σ W HJ hdep
   simp [Region.binds] at hdep
   have HJ:=hid HJ
   have k0:=(rg hrs HJ).cell 0
   have k1:=(rg hrs HJ).cell 1
   have k2:=(rg hrs HJ).cell 2
   have k3:=(rg hrs HJ).cell 3
   have k4:=(rg hrs HJ).cell 4
   have k5:=(rg hrs HJ).cell 5
   have k6:=(rg hrs HJ).cell 6
   have k7:=(rg hrs HJ).cell 7
   have k8:=(rg hrs HJ).cell 8
   have k9:=(rg hrs HJ).cell 9
   simp at k0
   simp at k1
   simp at k2
   simp at k3
   simp at k4
   simp at k5
   simp at k6
   simp at k7
   simp at k8
   simp at k9
   refine Qa rfl rfl ?_
   go_simp
   exact Qo.mk0 (.agg #[.string s.name,.int .i64 s.height,.int .i64 s.time,.slice o1 s.clients.length c1,.slice (some ⟨b,f,none⟩) s.conns.length c2,.slice o3 s.chans.length c3,.slice o4 s.sent.length c4,.slice o5 s.got.length c5,.slice o6 s.acks.length c6,.slice o7 s.purses.length c7]) (by first | rfl | simp [Qh, *]) HJ.out rfl
  ·
   intro σ W HJ hdep
   simp [Region.binds] at hdep
   have HJ:=hid HJ
   refine Qa rfl rfl ?_
   go_simp
   exact Qo.mk0 (.pointer (some ⟨gs,4,none⟩)) (by first | rfl | simp [Qh, *]) HJ.out rfl
  ·
   intro σ W HJ hdep
   simp [Region.binds] at hdep
   have HJ:=hid HJ
   have kc:=(rg hrs HJ).cell 4
   simp at kc
   refine Qa rfl rfl ?_
   go_simp
   exact Qo.mk0 (.slice (some ⟨b,f,none⟩) s.conns.length c2) (by first | rfl | simp [Qh, *]) HJ.out rfl
  ·
   intro σ W HJ hdep
   simp [Region.binds] at hdep
   have HJ:=hid HJ
   refine Qa rfl rfl ?_
   go_simp
   exact Qo.mk0 (.int .i64 (k:Int)) (by first | rfl | simp [Qh, *]) HJ.out rfl
  ·
   intro σ W HJ hdep
   simp [Region.binds] at hdep
   have HJ:=hid HJ
   refine Qa rfl rfl ?_
   go_simp
   exact Qo.mk0 (.pointer (some ⟨b,f+k*4,none⟩)) (by first | rfl | simp [Qh, *]) HJ.out rfl
  ·
   intro σ W HJ hdep
   simp [Region.binds] at hdep
   have HJ:=hid HJ
   refine Qa rfl rfl ?_
   go_simp
   exact Qo.mk0 (.pointer (some ⟨b,f+k*4+1,none⟩)) (by first | rfl | simp [Qh, *]) HJ.out rfl
  ·
   intro σ W HJ hdep
   simp [Region.binds] at hdep
   have HJ:=hid HJ
   have kc:=(HJ.out.cell (p:=⟨b,f+k*4+1,none⟩) hb1).trans hca.out
   refine Qa rfl rfl ?_
   go_simp
   exact Qo.mk0 (.int .i64 x.client) (by first | rfl | simp [Qh, *]) HJ.out rfl
  ·
   intro σ W HJ hdep
   simp [Region.binds] at hdep
   have HJ:=hid HJ
   have HC:=hid (Qj4 s (.agg #[.string s.name,.int .i64 s.height,.int .i64 s.time,.slice o1 s.clients.length c1,.slice (some ⟨b,f,none⟩) s.conns.length c2,.slice o3 s.chans.length c3,.slice o4 s.sent.length c4,.slice o5 s.got.length c5,.slice o6 s.acks.length c6,.slice o7 s.purses.length c7]) N W x.client (hsv.out.below (HJ.out.mono hN)) (Nat.le_trans hN HJ.out.size) hw0.out)
   refine Qa rfl rfl ?_
   go_simp
   refine (HC.out).mono ?_
   rintro e w2 ⟨rfl,hb2⟩
   exact Qo.mk (.int .i64 (QA s x.client)) (by first | rfl | simp [Qh, *]) hb2 HJ.out rfl
  ·
   intro σ W HJ hdep
   simp [Region.binds] at hdep
   have HJ:=hid HJ
   refine Qa rfl rfl ?_
   go_simp
   exact Qo.mk0 (.int .i64 (QA s x.client)) (by first | rfl | simp [Qh, *]) HJ.out rfl
 ·intro σ w' hb hg
  exact hQ.out σ w' hb (by first | exact ⟨hg 8 (by decide)⟩ | exact hg 8 (by decide))
theorem QgR (s:St) (v:Value) (N:Nat) (w:World) (i st:Int) (hv:StV w N v s) (hN:N≤w.heap.size) (hfit:s.fits) :
  Calls Tryz.prog 64 #[v,.int .i64 i,.int .i64 st] w fun e w'=>e=.returned (.int .i64 (JB s i st))∧Below w.heap.size w w':=by
 have HW1:=hid (fun wx (hx:Below w.heap.size w wx)=>Qfg s v N wx (hv.below (hx.mono hN)) (Nat.le_trans hN hx.size) hfit)
 have HSV:=hid (show ∀ wx,Below w.heap.size w wx→StV wx N v s from fun wx hx=>hv.below (hx.mono hN))
 have HE:=hid (show JB s i st=if Qm s≠0 then Qm s else if i<0∨(s.conns.length:Int)≤i then 6 else if (YU s i).state≠st then 12 else QA s (YU s i).client from rfl)
 obtain ⟨o1,c1,o2,c2,o3,c3,o4,c4,o5,c5,o6,c6,o7,c7,rfl,hm⟩:=hv.open
 obtain ⟨w0,hw0,hb0,HR0,hsz0⟩:=Qki w 28 [.string s.name,.int .i64 s.height,.int .i64 s.time,.slice o1 s.clients.length c1,.slice o2 s.conns.length c2,.slice o3 s.chans.length c3,.slice o4 s.sent.length c4,.slice o5 s.got.length c5,.slice o6 s.acks.length c6,.slice o7 s.purses.length c7]
 have HB0:=hid hb0
 obtain ⟨k0,k1,k2,k3,k4,k5,k6,k7,k8,k9⟩:=HR0.out.c10
 have HW0:=hid hw0
 have HM:=hid hm
 clear hv hm hfit hb0 hw0
 go_enter Tryz.func64,Tryz.ntmps64
 go_upto_region 1 with fail
 rw [HW0.out]
 go_wp2_with fail
 refine (HW1.out _ HB0.out).mono ?_
 rintro e w1 ⟨rfl,hb1⟩
 have HB1:=hgo HB0 hb1
 have HR1:=rgo HR0 hb1
 clear hb1 k0 k1 k2 k3 k4 k5 k6 k7 k8 k9
 by_cases hz:Qm s=0
 ·have HZ:=hid hz
  rw [hz]
  have HE2:=hid (HE.out.trans (if_neg (by simp [hz])))
  clear hz
  have k4:w1.cell? ⟨w.heap.size,4,none⟩=some (.slice o2 s.conns.length c2):=HR1.out.cell 4
  by_cases h0:i<0
  ·have e0:decide (i<0)=true:=by simpa using h0
   have HL:=hid (HE2.out.trans (if_pos (.inl h0)))
   go_wp2
   go_ret
   exact ⟨by rw [HL.out];first | done | rfl,HB1.out⟩
  have e0:decide (i<0)=false:=by simpa using h0
  by_cases h1:(s.conns.length:Int)≤i
  ·have e1:decide ((s.conns.length:Int)≤i)=true:=by simpa using h1
   have HL:=hid (HE2.out.trans (if_pos (.inr h1)))
   go_wp2
   go_ret
   exact ⟨by rw [HL.out];first | done | rfl,HB1.out⟩
  have e1:decide ((s.conns.length:Int)≤i)=false:=by simpa using h1
  have HE3:=hid (HE2.out.trans (if_neg (by omega)))
  obtain ⟨k,rfl⟩:∃ k:Nat,i=(k:Int):=⟨i.toNat,by omega⟩
  have hlt:k<s.conns.length:=by omega
  have hlt':(k:Int)<(s.conns.length:Int):=by omega
  obtain ⟨x,hx⟩:∃ x,s.conns[k]?=some x:=⟨_,List.getElem?_eq_getElem hlt⟩
  have HX:=hid (QO hx)
  obtain ⟨b,f,rfl,gx⟩:=(HM.out.below (HB1.out.mono hN)).conns.spot (by omega)
  obtain ⟨hbN,r,hr,cx⟩:=gx k x hx
  subst hr
  have x0:=cx 0 _ rfl
  have HX1:=hid (cx 1 _ rfl)
  simp only [Nat.add_zero] at x0
  have hbl:b<w1.heap.size:=Nat.lt_of_lt_of_le hbN (Nat.le_trans hN HB1.out.size)
  clear gx cx hx
  by_cases hs:x.state=st
  ·have es:(x.state != st)=false:=by simpa using hs
   have HL:=hid (show JB s (k:Int) st=QA s x.client by rw [HE3.out,HX.out,if_neg (by simp [hs])])
   clear hs
   go_upto_region 8 with fail
   refine QkU s x k b f o1 o3 o4 o5 o6 o7 c1 c2 c3 c4 c5 c6 c7 (Nat.le_trans hN HB1.out.size) HR1 hlt' hbl HX1 (hid (HSV.out _ HB1.out)) HZ _ (hid ?_)
   intro σ w2 hb2 ea
   have HB2:=hgo HB1 hb2
   rw [ea]
   clear hb2 ea
   go_wp2
   go_ret
   exact ⟨by rw [HL.out];first | done | rfl,HB2.out⟩
  ·have es:(x.state != st)=true:=by simpa using hs
   have HL:=hid (show JB s (k:Int) st=12 by rw [HE3.out,HX.out,if_pos hs])
   clear hs
   go_wp2
   go_ret
   exact ⟨by rw [HL.out];first | done | rfl,HB1.out⟩
 ·have e0:(Qm s != 0)=true:=by simpa using hz
  have HS:=hid (HE.out.trans (if_pos hz))
  clear hz
  generalize hzz:Qm s=z at *
  have HZZ:=hid hzz
  clear hzz
  go_wp2
  go_ret
  exact ⟨by rw [HS.out];first | done | rfl,HB1.out⟩
end Go.Proofs.YtooemgkjkngpcaaGreatDoor
