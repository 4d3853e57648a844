/-
  Package chans' Confirm and Closed.
-/
import Derived.Test.YtbgdpfeobklnhaaGreatDoorcvChUse
import Derived.Test.YtbgdpfeobklnhaaGreatDoorcvChAdd
import Derived.Test.YtbgdpfeobklnhaaGreatDoorcvSt9RKit
import Derived.Test.YtbgdpfeobklnhaaGreatDoorcvChMem
namespace Go.Proofs.YtbgdpfeobklnhaaGreatDoor
set_option maxRecDepth 1000000
set_option maxHeartbeats 8000000
open Go.RowKit
theorem QdQ (s:St) (v hv2:Value) (N:Nat) (w:World) (i st te z:Int) (hto:1≤te∧te≤4) (h:Sh) (hv:StV w N v s) (hh:ShV w N hv2 h) (hN:N≤w.heap.size) (hfit:s.fits) (hhf:h.fits) (htab:Qy w) (hpow:YB w) (hz:Ys s ⟨st,(QN s i).ordered,(QN s i).conn,(QN s i).ochan,0,0,0⟩ te i h z) :
  Calls Tryz.prog 37 #[v,.int .i64 i,.int .i64 st,.int .i64 te,hv2] w fun e w'=>Below w.heap.size w w'∧∃ v',e=.returned (.tuple #[v',.int .i64 (QU s i st z)])∧Qv N w.heap.size w' v' (Q4 s i st z te):=by
 have HST:=hid (fun wx (hx:Below w.heap.size w wx)=>QcJ s v N wx i st (hv.below (hx.mono hN)) (Nat.le_trans hN hx.size) hfit)
 have HAD:=hid (fun (h0:QG s i st=0) (o:Ch) wx (hx:Below w.heap.size w wx)=>ZQ s v N wx i o (hv.below (hx.mono hN)) (Nat.le_trans hN hx.size) hfit (QD (Q2 h0).1) (Q2 h0).2.1)
 have HMB:=hid (fun (h0:QG s i st=0) (hq:¬ (QN s i).ochan<0) (hq2:(QN s i).ochan≤1000000000000) wx (hx:Below w.heap.size w wx)=>QcL s v hv2 N wx te i z (QN s i) h (hv.below (hx.mono hN)) (hh.below (hx.mono hN)) (Nat.le_trans hN hx.size) hfit hhf (htab.past hx) (hpow.below hx) (Q2 h0).1 (Q2 h0).2.2.2 ⟨by omega,hq2⟩ hto (by have:=(Q2 h0).2.1;have:=(QD (Q2 h0).1).2.2.1;omega) hz)
 have HD:=hid (show QU s i st z=if QG s i st≠0 then QG s i st else if (QN s i).ochan<0 then 8 else z from rfl)
 have HSS:=hid (show Q4 s i st z te=Qas s (QU s i st z) i ((QN s i).turned te (QN s i).ochan) from rfl)
 obtain ⟨o1,c1,o2,c2,o3,c3,o4,c4,o5,c5,o6,c6,o7,c7,rfl,hm⟩:=hv.open
 obtain ⟨q1,e1,q2,e2,q3,e3,r1,s1,r2,s2,r3,s3,r4,s4,r5,s5,r6,s6,rfl,hpv⟩:=hh.open
 have HM:=hid hm
 clear hv hm hfit hh hpv hhf htab hpow hz
 go_enter Tryz.func37,Tryz.ntmps37
 go_upto_region 1 with fail
 refine ZD ?_
 intro w0 F0 hs
 clear hs
 obtain ⟨k0,k1,k2,k3,k4,k5,k6,k7,k8,k9⟩:=F0.r0.k10
 go_wp2_with fail
 refine (HST.out _ F0.b).mono ?_
 rintro e w1 ⟨rfl,hb1⟩
 have F:=F0.go hb1
 clear hb1 k0 k1 k2 k3 k4 k5 k6 k7 k8 k9 F0
 by_cases hz:QG s i st=0
 ·have HA2:=hid (HAD.out hz)
  have HM2:=hid (HMB.out hz)
  have hr:=(Q2 hz).2.1
  have hwr:=(YD (Q2 hz).1).chans
  have HD2:=hid (HD.out.trans (if_neg (by simp [hz])))
  rw [hz]
  clear hz
  obtain ⟨k,rfl⟩:∃ k:Nat,i=(k:Int):=⟨i.toNat,by omega⟩
  obtain ⟨x,hx⟩:∃ x,s.chans[k]?=some x:=⟨_,List.getElem?_eq_getElem (by omega)⟩
  have HX:=hid hx
  rw [Yk hx] at HSS HM2 HD2
  have HXO:=hid (Qbn (hwr x (List.mem_of_getElem? hx))).2.2.1.2
  clear hx hwr
  have hlt:(k:Int)<(s.chans.length:Int):=by omega
  obtain ⟨b,f,rfl,hb,x0,x1,x2,x3,x4,x5,x6⟩:=(HM.out.below (F.b.mono hN)).chans.chan rfl HX.out
  have k5:=F.r0.k10.2.2.2.2.2.1
  go_upto_region 5 with fail
  refine F.box ?_
  intro w2 F2 hs2 hb2
  clear hs2 hb2 x0 x1 x2 x3 x4 x5 x6 k5
  by_cases hq:x.ochan<0
  ·have eq:decide (x.ochan<0)=true:=by simpa using hq
   have HI:=hid (show QU s (k:Int) st z=8 from HD2.out.trans (if_pos hq))
   have HNO:=hid (show Q4 s (k:Int) st z te=St.none by rw [HSS.out,HI.out];exact if_neg (by decide))
   clear hq
   have a3:=F2.r3.k7.2.2.2.1
   go_wp2_with (refine F2.store 2 rfl rfl rfl rfl rfl Qb rfl (by simp [Value.oneCell']) ?_;intro wz FZ OZ)
   refine JU Tryz.results37 rfl FZ.r2 Qb rfl ⟨FZ.b,_,by rw [HI.out];rfl,?_⟩
   rw [HNO.out]
   exact Qi _ _ _
  have eq:decide (x.ochan<0)=false:=by simpa using hq
  have HI:=hid (show QU s (k:Int) st z=z from HD2.out.trans (if_neg hq))
  have HM3:=hid (HM2.out (by omega) HXO.out)
  clear hq
  obtain ⟨k0,k1,k2,k3,k4,k5,k6,k7,k8,k9⟩:=F2.r0.k10
  obtain ⟨h0,h1,h2,h3,h4,h5,h6,h7,h8,h9,h10,h11,h12,h13,h14,h15,h16,h17⟩:=F2.r1.k18
  obtain ⟨a0,a1,a2,a3,a4,a5,a6⟩:=F2.r3.k7
  go_wp2_with fail
  refine (HM3.out _ F2.b).mono ?_
  rintro e w4 ⟨rfl,hb4⟩
  have F4:=F2.go hb4
  clear hb4 k0 k1 k2 k3 k4 k5 k6 k7 k8 k9 h0 h1 h2 h3 h4 h5 h6 h7 h8 h9 h10 h11 h12 h13 h14 h15 h16 h17 a0 a1 a2 a3 a4 a5 a6 F2
  by_cases hz:z=0
  ·subst hz
   have a0:=F4.r3.k7.1
   have z0:=F4.r3.frozen 0
   go_upto_region 11 with fail
   refine F4.cell 3 rfl ?_
   intro w5 F5 O5
   clear a0 z0 O5 F4
   obtain ⟨k0,k1,k2,k3,k4,k5,k6,k7,k8,k9⟩:=F5.r0.k10
   obtain ⟨a0,a1,a2,a3,a4,a5,a6⟩:=F5.r3.k7
   go_wp2_with fail
   refine (HA2.out (x.turned te x.ochan) _ F5.b).mono ?_
   rintro e w6 ⟨hb6,v',rfl,hva⟩
   have F6:=F5.go hb6
   clear hb6 k0 k1 k2 k3 k4 k5 k6 k7 k8 k9 a0 a1 a2 a3 a4 a5 a6
   obtain ⟨a0,a1,a2,a3,a4,a5,a6,a7,a8,a9,rfl,hon⟩:=hva.now.ten
   have HVA:=hid hva
   have HON:=hid hon
   clear hva hon
   go_wp2_with (refine F6.store 2 rfl rfl rfl rfl rfl Qb rfl HON.out ?_;intro w7 F7 O7)
   refine JU Tryz.results37 rfl F7.r2 Qb rfl ⟨F7.b,_,by rw [HI.out];rfl,?_⟩
   rw [HSS.out,HI.out]
   exact (HVA.out.only O7 (by omega) F5.r2.lt).lower F5.b.size
  ·have e0:(z != 0)=true:=by simpa using hz
   have HI:=hid (HI.out)
   have HNO:=hid (show Q4 s (k:Int) st z te=St.none from HSS.out.trans (by rw [HI.out];exact if_neg hz))
   clear hz
   go_wp2_with (refine F4.store 2 rfl rfl rfl rfl rfl Qb rfl (by simp [Value.oneCell']) ?_;intro wz FZ OZ)
   refine JU Tryz.results37 rfl FZ.r2 Qb rfl ⟨FZ.b,_,by rw [HI.out];rfl,?_⟩
   rw [HNO.out]
   exact Qi _ _ _
 ·have e0:(QG s i st != 0)=true:=by simpa using hz
  have HI:=hid (show QU s i st z=QG s i st from HD.out.trans (if_pos hz))
  have HNO:=hid (show Q4 s i st z te=St.none from HSS.out.trans (by rw [HD.out,if_pos hz];exact if_neg hz))
  clear hz
  generalize QG s i st=zz at *
  go_wp2_with (refine F.store 2 rfl rfl rfl rfl rfl Qb rfl (by simp [Value.oneCell']) ?_;intro wz FZ OZ)
  refine JU Tryz.results37 rfl FZ.r2 Qb rfl ⟨FZ.b,_,by rw [HI.out];rfl,?_⟩
  rw [HNO.out]
  exact Qi _ _ _
theorem Qhd (s:St) (v hv2:Value) (N:Nat) (w:World) (i z:Int) (h:Sh) (hv:StV w N v s) (hh:ShV w N hv2 h) (hN:N≤w.heap.size) (hfit:s.fits) (hhf:h.fits) (htab:Qy w) (hpow:YB w) (hz:Ys s ⟨2,(QN s i).ordered,(QN s i).conn,(QN s i).ochan,0,0,0⟩ 3 i h z) :
  Calls Tryz.prog 10 #[v,.int .i64 i,hv2] w fun e w'=>Below w.heap.size w w'∧∃ v',e=.returned (.tuple #[v',.int .i64 (QU s i 2 z)])∧Qv N w.heap.size w' v' (Q4 s i 2 z 3):=by
 have HAL:=hid (fun wx (hx:Below w.heap.size w wx)=>QdQ s v hv2 N wx i 2 3 z (by omega) h (hv.below (hx.mono hN)) (hh.below (hx.mono hN)) (Nat.le_trans hN hx.size) hfit hhf (htab.past hx) (hpow.below hx) hz)
 obtain ⟨o1,c1,o2,c2,o3,c3,o4,c4,o5,c5,o6,c6,o7,c7,rfl,hm⟩:=hv.open
 obtain ⟨q1,e1,q2,e2,q3,e3,r1,s1,r2,s2,r3,s3,r4,s4,r5,s5,r6,s6,rfl,hpv⟩:=hh.open
 clear hv hm hfit hh hpv hhf htab hpow hz
 go_enter Tryz.func10,Tryz.ntmps10
 go_upto_region 1 with fail
 refine ZD ?_
 intro w0 F0 hs
 clear hs
 obtain ⟨k0,k1,k2,k3,k4,k5,k6,k7,k8,k9⟩:=F0.r0.k10
 obtain ⟨h0,h1,h2,h3,h4,h5,h6,h7,h8,h9,h10,h11,h12,h13,h14,h15,h16,h17⟩:=F0.r1.k18
 go_wp2_with fail
 refine (HAL.out _ F0.b).mono ?_
 rintro e w1 ⟨hb1,v',rfl,hva⟩
 have F:=F0.go hb1
 clear hb1 k0 k1 k2 k3 k4 k5 k6 k7 k8 k9 h0 h1 h2 h3 h4 h5 h6 h7 h8 h9 h10 h11 h12 h13 h14 h15 h16 h17
 obtain ⟨a0,a1,a2,a3,a4,a5,a6,a7,a8,a9,rfl,hon⟩:=hva.now.ten
 have HVA:=hid hva
 have HON:=hid hon
 clear hva hon
 generalize hE:QU s i 2 z=zz at *
 have HI:=hid hE
 clear hE
 go_wp2_with (refine F.store 2 rfl rfl rfl rfl rfl Qb rfl HON.out ?_;intro w3 F3 O3)
 refine JU Tryz.results10 rfl F3.r2 Qb rfl ⟨F3.b,_,by rw [HI.out];rfl,?_⟩
 exact (HVA.out.only O3 (by omega) F0.r2.lt).lower F0.b.size
theorem QeO (s:St) (v hv2:Value) (N:Nat) (w:World) (i z:Int) (h:Sh) (hv:StV w N v s) (hh:ShV w N hv2 h) (hN:N≤w.heap.size) (hfit:s.fits) (hhf:h.fits) (htab:Qy w) (hpow:YB w) (hz:Ys s ⟨3,(QN s i).ordered,(QN s i).conn,(QN s i).ochan,0,0,0⟩ 4 i h z) :
  Calls Tryz.prog 12 #[v,.int .i64 i,hv2] w fun e w'=>Below w.heap.size w w'∧∃ v',e=.returned (.tuple #[v',.int .i64 (QU s i 3 z)])∧Qv N w.heap.size w' v' (Q4 s i 3 z 4):=by
 have HAL:=hid (fun wx (hx:Below w.heap.size w wx)=>QdQ s v hv2 N wx i 3 4 z (by omega) h (hv.below (hx.mono hN)) (hh.below (hx.mono hN)) (Nat.le_trans hN hx.size) hfit hhf (htab.past hx) (hpow.below hx) hz)
 obtain ⟨o1,c1,o2,c2,o3,c3,o4,c4,o5,c5,o6,c6,o7,c7,rfl,hm⟩:=hv.open
 obtain ⟨q1,e1,q2,e2,q3,e3,r1,s1,r2,s2,r3,s3,r4,s4,r5,s5,r6,s6,rfl,hpv⟩:=hh.open
 clear hv hm hfit hh hpv hhf htab hpow hz
 go_enter Tryz.func12,Tryz.ntmps12
 go_upto_region 1 with fail
 refine ZD ?_
 intro w0 F0 hs
 clear hs
 obtain ⟨k0,k1,k2,k3,k4,k5,k6,k7,k8,k9⟩:=F0.r0.k10
 obtain ⟨h0,h1,h2,h3,h4,h5,h6,h7,h8,h9,h10,h11,h12,h13,h14,h15,h16,h17⟩:=F0.r1.k18
 go_wp2_with fail
 refine (HAL.out _ F0.b).mono ?_
 rintro e w1 ⟨hb1,v',rfl,hva⟩
 have F:=F0.go hb1
 clear hb1 k0 k1 k2 k3 k4 k5 k6 k7 k8 k9 h0 h1 h2 h3 h4 h5 h6 h7 h8 h9 h10 h11 h12 h13 h14 h15 h16 h17
 obtain ⟨a0,a1,a2,a3,a4,a5,a6,a7,a8,a9,rfl,hon⟩:=hva.now.ten
 have HVA:=hid hva
 have HON:=hid hon
 clear hva hon
 generalize hE:QU s i 3 z=zz at *
 have HI:=hid hE
 clear hE
 go_wp2_with (refine F.store 2 rfl rfl rfl rfl rfl Qb rfl HON.out ?_;intro w3 F3 O3)
 refine JU Tryz.results12 rfl F3.r2 Qb rfl ⟨F3.b,_,by rw [HI.out];rfl,?_⟩
 exact (HVA.out.only O3 (by omega) F0.r2.lt).lower F0.b.size
theorem QfP (s:St) (v:Value) (N:Nat) (w:World) (i:Int) (hv:StV w N v s) (hN:N≤w.heap.size) (hfit:s.fits) :
  Calls Tryz.prog 11 #[v,.int .i64 i] w fun e w'=>Below w.heap.size w w'∧∃ v',e=.returned (.tuple #[v',.int .i64 (QG s i 3)])∧Qv N w.heap.size w' v' (Zq s i):=by
 have HST:=hid (fun wx (hx:Below w.heap.size w wx)=>QcJ s v N wx i 3 (hv.below (hx.mono hN)) (Nat.le_trans hN hx.size) hfit)
 have HAD:=hid (fun (h0:QG s i 3=0) (o:Ch) wx (hx:Below w.heap.size w wx)=>ZQ s v N wx i o (hv.below (hx.mono hN)) (Nat.le_trans hN hx.size) hfit (QD (Q2 h0).1) (Q2 h0).2.1)
 have HSS:=hid (show Zq s i=Qas s (QG s i 3) i ((QN s i).turned 4 (QN s i).ochan) from rfl)
 obtain ⟨o1,c1,o2,c2,o3,c3,o4,c4,o5,c5,o6,c6,o7,c7,rfl,hm⟩:=hv.open
 have HM:=hid hm
 clear hv hm hfit
 go_enter Tryz.func11,Tryz.ntmps11
 go_upto_region 1 with fail
 refine QgR ?_
 intro w0 F0 hs
 clear hs
 obtain ⟨k0,k1,k2,k3,k4,k5,k6,k7,k8,k9⟩:=F0.r0.k10
 go_wp2_with fail
 refine (HST.out _ F0.b).mono ?_
 rintro e w1 ⟨rfl,hb1⟩
 have F:=F0.go hb1
 clear hb1 k0 k1 k2 k3 k4 k5 k6 k7 k8 k9 F0
 by_cases hz:QG s i 3=0
 ·have HA2:=hid (HAD.out hz)
  have hr:=(Q2 hz).2.1
  have HI:=hid hz
  rw [hz]
  clear hz
  obtain ⟨k,rfl⟩:∃ k:Nat,i=(k:Int):=⟨i.toNat,by omega⟩
  obtain ⟨x,hx⟩:∃ x,s.chans[k]?=some x:=⟨_,List.getElem?_eq_getElem (by omega)⟩
  have HX:=hid hx
  rw [Yk hx] at HSS
  clear hx
  have hlt:(k:Int)<(s.chans.length:Int):=by omega
  obtain ⟨b,f,rfl,hb,x0,x1,x2,x3,x4,x5,x6⟩:=(HM.out.below (F.b.mono hN)).chans.chan rfl HX.out
  have k5:=F.r0.k10.2.2.2.2.2.1
  go_upto_region 5 with fail
  refine F.box ?_
  intro w2 F2 hs2 hb2
  clear hs2 hb2 x0 x1 x2 x3 x4 x5 x6 k5
  have a0:=F2.r2.k7.1
  have z0:=F2.r2.frozen 0
  go_upto_region 6 with fail
  refine F2.cell 2 rfl ?_
  intro w5 F5 O5
  clear a0 z0 O5 F2
  obtain ⟨k0,k1,k2,k3,k4,k5,k6,k7,k8,k9⟩:=F5.r0.k10
  obtain ⟨a0,a1,a2,a3,a4,a5,a6⟩:=F5.r2.k7
  go_wp2_with fail
  refine (HA2.out (x.turned 4 x.ochan) _ F5.b).mono ?_
  rintro e w6 ⟨hb6,v',rfl,hva⟩
  have F6:=F5.go hb6
  clear hb6 k0 k1 k2 k3 k4 k5 k6 k7 k8 k9 a0 a1 a2 a3 a4 a5 a6
  obtain ⟨a0,a1,a2,a3,a4,a5,a6,a7,a8,a9,rfl,hon⟩:=hva.now.ten
  have HVA:=hid hva
  have HON:=hid hon
  clear hva hon
  go_wp2_with (refine F6.store 1 rfl rfl rfl rfl rfl Qb rfl HON.out ?_;intro w7 F7 O7)
  refine JU Tryz.results11 rfl F7.r1 Qb rfl ⟨F7.b,_,by rw [HI.out];rfl,?_⟩
  rw [HSS.out,HI.out]
  exact (HVA.out.only O7 (by omega) F5.r1.lt).lower F5.b.size
 ·have e0:(QG s i 3 != 0)=true:=by simpa using hz
  have HNO:=hid (show Zq s i=St.none from HSS.out.trans (if_neg hz))
  clear hz
  generalize hE:QG s i 3=zz at *
  have HI:=hid hE
  clear hE
  go_wp2_with (refine F.store 1 rfl rfl rfl rfl rfl Qb rfl (by simp [Value.oneCell']) ?_;intro wz FZ OZ)
  refine JU Tryz.results11 rfl FZ.r1 Qb rfl ⟨FZ.b,_,by rw [HI.out];rfl,?_⟩
  rw [HNO.out]
  exact Qi _ _ _
end Go.Proofs.YtbgdpfeobklnhaaGreatDoor
