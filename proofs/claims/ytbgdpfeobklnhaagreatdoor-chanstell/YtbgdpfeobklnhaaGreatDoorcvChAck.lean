/-
  Package chans' Ack.
-/
import Derived.Test.YtbgdpfeobklnhaaGreatDoorcvChUse
import Derived.Test.YtbgdpfeobklnhaaGreatDoorcvChAdd
import Derived.Test.YtbgdpfeobklnhaaGreatDoorcvSt9RKit
import Derived.Test.YtbgdpfeobklnhaaGreatDoorcvChMem
namespace Go.Proofs.YtbgdpfeobklnhaaGreatDoor
set_option maxRecDepth 1000000
set_option maxHeartbeats 8000000
open Go.RowKit
theorem Qhg (s:St) (v:Value) (N:Nat) (w:World) (i:Int) (od:Bool) (hv:StV w N v s) (hN:N≤w.heap.size) (hfit:s.fits) :
  Calls Tryz.prog 5 #[v,.int .i64 i,.bool od] w fun e w'=>Below w.heap.size w w'∧∃ v',e=.returned (.tuple #[v',.int .i64 (J2 s (J3 s i)),.int .i64 (J3 s i)])∧Qv N w.heap.size w' v' (Qad s i od):=by
 have HST:=hid (fun wx (hx:Below w.heap.size w wx)=>QcO s v N wx i (hv.below (hx.mono hN)) (Nat.le_trans hN hx.size) hfit)
 have HAD:=hid (fun (h0:QC s i=0) wx (hx:Below w.heap.size w wx)=>QcI s v N wx ⟨1,od,i,-1,0,0,0⟩ (hv.below (hx.mono hN)) (Nat.le_trans hN hx.size) hfit (QD (YK h0).1))
 have HD:=hid (show J3 s i=if QC s i≠0 then QC s i else Jn s from rfl)
 have HSS:=hid (show Qad s i od=Qbr s (J3 s i) ⟨1,od,i,-1,1,1,1⟩ from rfl)
 obtain ⟨o1,c1,o2,c2,o3,c3,o4,c4,o5,c5,o6,c6,o7,c7,rfl,hm⟩:=hv.open
 clear hv hm hfit
 go_enter Tryz.func5,Tryz.ntmps5
 go_upto_region 1 with fail
 refine QgR ?_
 intro w0 F0 hs
 clear hs
 obtain ⟨k0,k1,k2,k3,k4,k5,k6,k7,k8,k9⟩:=F0.r0.k10
 go_wp2_with fail
 refine (HST.out _ F0.b).mono ?_
 rintro e w1 ⟨rfl,hb1⟩
 have F:=F0.go hb1
 clear hb1 k0 k1 k2 k3 k4 k5 k6 k7 k8 k9 F0
 by_cases hz:QC s i=0
 ·have HI:=hid (show J3 s i=Jn s from HD.out.trans (if_neg (by simp [hz])))
  have HA2:=hid (HAD.out hz)
  rw [hz]
  clear hz
  obtain ⟨k0,k1,k2,k3,k4,k5,k6,k7,k8,k9⟩:=F.r0.k10
  go_wp2_with fail
  refine (HA2.out _ F.b).mono ?_
  rintro e w2 ⟨hb2,v',rfl,hva⟩
  have F2:=F.go hb2
  clear hb2 k0 k1 k2 k3 k4 k5 k6 k7 k8 k9
  obtain ⟨a0,a1,a2,a3,a4,a5,a6,a7,a8,a9,rfl,hon⟩:=hva.now.ten
  have HVA:=hid hva
  have HON:=hid hon
  clear hva hon
  go_wp2_with (refine F2.store 1 rfl rfl rfl rfl rfl Qb rfl HON.out ?_;intro w3 F3 O3)
  refine Qr Tryz.results5 rfl F3.r1 Qb rfl ⟨F3.b,_,by rw [HI.out];rfl,?_⟩
  rw [HSS.out,HI.out]
  exact (HVA.out.only O3 (by omega) F.r1.lt).lower F.b.size
 ·have e0:(QC s i != 0)=true:=by simpa using hz
  have HI:=hid (show J3 s i=QC s i from HD.out.trans (if_pos hz))
  have HNO:=hid (show Qad s i od=St.none from HSS.out.trans (by rw [HD.out,if_pos hz];exact if_neg hz))
  have HN0:=hid (show J2 s (QC s i)=0 from if_neg hz)
  clear hz
  generalize QC s i=zz at *
  go_wp2_with (refine F.store 1 rfl rfl rfl rfl rfl Qb rfl (by simp [Value.oneCell']) ?_;intro wz FZ OZ)
  refine Qr Tryz.results5 rfl FZ.r1 Qb rfl ⟨FZ.b,_,by rw [HI.out,HN0.out];rfl,?_⟩
  rw [HNO.out]
  exact Qi _ _ _
theorem Qh7 (s:St) (v hv2:Value) (N:Nat) (w:World) (i q z:Int) (h:Sh) (hv:StV w N v s) (hh:ShV w N hv2 h) (hN:N≤w.heap.size) (hfit:s.fits) (hhf:h.fits) (htab:Qy w) (hpow:YB w) (hz:Ys s ⟨3,(QN s i).ordered,(QN s i).conn,q,0,0,0⟩ 2 i h z) :
  Calls Tryz.prog 9 #[v,.int .i64 i,.int .i64 q,hv2] w fun e w'=>Below w.heap.size w w'∧∃ v',e=.returned (.tuple #[v',.int .i64 (YV s i q z)])∧Qv N w.heap.size w' v' (Zp s i q z):=by
 have HST:=hid (fun wx (hx:Below w.heap.size w wx)=>QcJ s v N wx i 1 (hv.below (hx.mono hN)) (Nat.le_trans hN hx.size) hfit)
 have HAD:=hid (fun (h0:QG s i 1=0) (o:Ch) wx (hx:Below w.heap.size w wx)=>ZQ s v N wx i o (hv.below (hx.mono hN)) (Nat.le_trans hN hx.size) hfit (QD (Q2 h0).1) (Q2 h0).2.1)
 have HMB:=hid (fun (h0:QG s i 1=0) (hq:Qn 0 q=true) wx (hx:Below w.heap.size w wx)=>QcL s v hv2 N wx 2 i z ((QN s i).turned (QN s i).state q) h (hv.below (hx.mono hN)) (hh.below (hx.mono hN)) (Nat.le_trans hN hx.size) hfit hhf (htab.past hx) (hpow.below hx) (Q2 h0).1 (Q2 h0).2.2.2 ((YN _ _).1 hq) (by omega) (by have:=(Q2 h0).2.1;have:=(QD (Q2 h0).1).2.2.1;omega) hz)
 have HD:=hid (show YV s i q z=if QG s i 1≠0 then QG s i 1 else if Qn 0 q=false then 3 else z from rfl)
 have HSS:=hid (show Zp s i q z=Qas s (YV s i q z) i ((QN s i).turned 3 q) from rfl)
 obtain ⟨o1,c1,o2,c2,o3,c3,o4,c4,o5,c5,o6,c6,o7,c7,rfl,hm⟩:=hv.open
 obtain ⟨q1,e1,q2,e2,q3,e3,r1,s1,r2,s2,r3,s3,r4,s4,r5,s5,r6,s6,rfl,hpv⟩:=hh.open
 have HM:=hid hm
 clear hv hm hfit hh hpv hhf htab hpow hz
 go_enter Tryz.func9,Tryz.ntmps9
 go_upto_region 1 with fail
 refine ZD ?_
 intro w0 F0 hs
 clear hs
 obtain ⟨k0,k1,k2,k3,k4,k5,k6,k7,k8,k9⟩:=F0.r0.k10
 go_wp2_with fail
 refine (HST.out _ F0.b).mono ?_
 rintro e w1 ⟨rfl,hb1⟩
 have F:=F0.go hb1
 clear hb1 k0 k1 k2 k3 k4 k5 k6 k7 k8 k9 F0
 by_cases hz:QG s i 1=0
 ·have HD2:=hid (HD.out.trans (if_neg (by simp [hz])))
  have HA2:=hid (HAD.out hz)
  have HM2:=hid (HMB.out hz)
  have hr:=(Q2 hz).2.1
  rw [hz]
  clear hz
  cases hfq:Qn 0 q with
  | false =>
   have HFQ:=hid hfq
   have HI:=hid (show YV s i q z=3 from HD2.out.trans (if_pos hfq))
   have HNO:=hid (show Zp s i q z=St.none by rw [HSS.out,HI.out];exact if_neg (by decide))
   clear hfq
   go_wp2_with (first | (go_at_call 33;refine (QP _ _ _).mono ?_;rintro e w' ⟨rfl,hww⟩;obtain rfl:=hww.symm;rw [HFQ.out]) | (refine F.store 2 rfl rfl rfl rfl rfl Qb rfl (by simp [Value.oneCell']) ?_;intro wz FZ OZ))
   refine JU Tryz.results9 rfl FZ.r2 Qb rfl ⟨FZ.b,_,by rw [HI.out];rfl,?_⟩
   rw [HNO.out]
   exact Qi _ _ _
  | true =>
   have HFQ:=hid hfq
   have HI:=hid (show YV s i q z=z from HD2.out.trans (if_neg (by simp [hfq])))
   have HM3:=hid (HM2.out hfq)
   clear hfq
   obtain ⟨k,rfl⟩:∃ k:Nat,i=(k:Int):=⟨i.toNat,by omega⟩
   obtain ⟨x,hx⟩:∃ x,s.chans[k]?=some x:=⟨_,List.getElem?_eq_getElem (by omega)⟩
   have HX:=hid hx
   rw [Yk hx] at HSS HM3
   clear hx
   have hlt:(k:Int)<(s.chans.length:Int):=by omega
   obtain ⟨b,f,rfl,hb,x0,x1,x2,x3,x4,x5,x6⟩:=(HM.out.below (F.b.mono hN)).chans.chan rfl HX.out
   have k5:=F.r0.k10.2.2.2.2.2.1
   go_upto_region 7 with (first | (go_at_call 33;refine (QP _ _ _).mono ?_;rintro e w' ⟨rfl,hww⟩;obtain rfl:=hww.symm;rw [HFQ.out]))
   refine F.box ?_
   intro w2 F2 hs2 hb2
   clear hs2 hb2 x0 x1 x2 x3 x4 x5 x6 k5
   have a3:=F2.r3.k7.2.2.2.1
   have z3:=F2.r3.frozen 3
   go_upto_region 8 with fail
   refine F2.cell 3 rfl ?_
   intro w3 F3 O3
   clear a3 z3 O3 F2
   obtain ⟨k0,k1,k2,k3,k4,k5,k6,k7,k8,k9⟩:=F3.r0.k10
   obtain ⟨h0,h1,h2,h3,h4,h5,h6,h7,h8,h9,h10,h11,h12,h13,h14,h15,h16,h17⟩:=F3.r1.k18
   obtain ⟨a0,a1,a2,a3,a4,a5,a6⟩:=F3.r3.k7
   go_wp2_with fail
   refine (HM3.out _ F3.b).mono ?_
   rintro e w4 ⟨rfl,hb4⟩
   have F4:=F3.go hb4
   clear hb4 k0 k1 k2 k3 k4 k5 k6 k7 k8 k9 h0 h1 h2 h3 h4 h5 h6 h7 h8 h9 h10 h11 h12 h13 h14 h15 h16 h17 a0 a1 a2 a3 a4 a5 a6 F3
   by_cases hz:z=0
   ·subst hz
    have a0:=F4.r3.k7.1
    have z0:=F4.r3.frozen 0
    go_upto_region 12 with fail
    refine F4.cell 3 rfl ?_
    intro w5 F5 O5
    clear a0 z0 O5 F4
    obtain ⟨k0,k1,k2,k3,k4,k5,k6,k7,k8,k9⟩:=F5.r0.k10
    obtain ⟨a0,a1,a2,a3,a4,a5,a6⟩:=F5.r3.k7
    go_wp2_with fail
    refine (HA2.out (x.turned 3 q) _ F5.b).mono ?_
    rintro e w6 ⟨hb6,v',rfl,hva⟩
    have F6:=F5.go hb6
    clear hb6 k0 k1 k2 k3 k4 k5 k6 k7 k8 k9 a0 a1 a2 a3 a4 a5 a6
    obtain ⟨a0,a1,a2,a3,a4,a5,a6,a7,a8,a9,rfl,hon⟩:=hva.now.ten
    have HVA:=hid hva
    have HON:=hid hon
    clear hva hon
    go_wp2_with (refine F6.store 2 rfl rfl rfl rfl rfl Qb rfl HON.out ?_;intro w7 F7 O7)
    refine JU Tryz.results9 rfl F7.r2 Qb rfl ⟨F7.b,_,by rw [HI.out];rfl,?_⟩
    rw [HSS.out,HI.out]
    exact (HVA.out.only O7 (by omega) F5.r2.lt).lower F5.b.size
   ·have e0:(z != 0)=true:=by simpa using hz
    have HI:=hid (HI.out)
    have HNO:=hid (show Zp s (k:Int) q z=St.none from HSS.out.trans (by rw [HI.out];exact if_neg hz))
    clear hz
    go_wp2_with (refine F4.store 2 rfl rfl rfl rfl rfl Qb rfl (by simp [Value.oneCell']) ?_;intro wz FZ OZ)
    refine JU Tryz.results9 rfl FZ.r2 Qb rfl ⟨FZ.b,_,by rw [HI.out];rfl,?_⟩
    rw [HNO.out]
    exact Qi _ _ _
 ·have e0:(QG s i 1 != 0)=true:=by simpa using hz
  have HI:=hid (show YV s i q z=QG s i 1 from HD.out.trans (if_pos hz))
  have HNO:=hid (show Zp s i q z=St.none from HSS.out.trans (by rw [HD.out,if_pos hz];exact if_neg hz))
  clear hz
  generalize QG s i 1=zz at *
  go_wp2_with (refine F.store 2 rfl rfl rfl rfl rfl Qb rfl (by simp [Value.oneCell']) ?_;intro wz FZ OZ)
  refine JU Tryz.results9 rfl FZ.r2 Qb rfl ⟨FZ.b,_,by rw [HI.out];rfl,?_⟩
  rw [HNO.out]
  exact Qi _ _ _
end Go.Proofs.YtbgdpfeobklnhaaGreatDoor
