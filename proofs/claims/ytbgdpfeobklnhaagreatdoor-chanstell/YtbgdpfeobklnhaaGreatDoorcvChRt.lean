/-
  The document's Channel: Try.
-/
import Derived.Test.YtbgdpfeobklnhaaGreatDoorcvChRefR
import Derived.Test.YtbgdpfeobklnhaaGreatDoorcvChOwnZ
import Derived.Test.YtbgdpfeobklnhaaGreatDoorcvChMem
import Derived.Test.YtbgdpfeobklnhaaGreatDoorcvSt8RWrong
import Derived.Test.YtbgdpfeobklnhaaGreatDoorcvSt8RCopy
import Derived.Test.YtbgdpfeobklnhaaGreatDoorcvSt8RVal
import Derived.Test.YtbgdpfeobklnhaaGreatDoorcvCoMem
namespace Go.Proofs.YtbgdpfeobklnhaaGreatDoor
set_option maxRecDepth 1000000
set_option maxHeartbeats 8000000
open Go.RowKit
theorem QjZ (s:St) (v hv2:Value) (N:Nat) (w:World) (i q:Int) (od:Bool) (h:Sh) (hv:StV w N v s) (hh:ShV w N hv2 h) (hN:N≤w.heap.size) (hfit:s.fits)  :
  Calls Tryz.prog 6 #[.int .u8 105,v,.int .i64 i,.int .i64 i,.bool od,.int .i64 q,hv2] w fun e w'=>Below w.heap.size w w'∧∃ v',e=.returned (.tuple #[v',.int .i64 (J2 s (J3 s i)),.int .i64 (J3 s i)])∧Qv N w.heap.size w' v' (Qad s i od):=by
 have HWR:=hid (fun wx (hx:Below w.heap.size w wx)=>Yo s v N wx (hv.below (hx.mono hN)) (Nat.le_trans hN hx.size) hfit)
 have HOV:=hid (fun (h0:Qk s=0) (c:Int) wx (hx:Below w.heap.size w wx)=>Z4 s v N wx c (hv.below (hx.mono hN)) (Nat.le_trans hN hx.size) h0)
 have HCP:=hid (fun (h0:Qk s=0) wx (hx:Below w.heap.size w wx)=>Z7 s v N wx (hv.below (hx.mono hN)) (Nat.le_trans hN hx.size) hfit (QD h0))
 have HSS:=hid (show Qad s i od=Qbr s (J3 s i) ⟨1,od,i,-1,1,1,1⟩ from rfl)
 have HD:=hid (show J3 s i=if QC s i≠0 then QC s i else Jn s from rfl)
 have HST:=hid (show QC s i=if Qk s≠0 then Qk s else QI s i from rfl)
 obtain ⟨o1,c1,o2,c2,o3,c3,o4,c4,o5,c5,o6,c6,o7,c7,rfl,hm⟩:=hv.open
 obtain ⟨q1,e1,q2,e2,q3,e3,r1,s1,r2,s2,r3,s3,r4,s4,r5,s5,r6,s6,rfl,hpv⟩:=hh.open
 have HM:=hid hm
 clear hv hm hh hpv hfit
 go_enter Tryz.func6,Tryz.ntmps6
 go_upto_region 2 with fail
 refine ZD ?_
 intro w0 F0 hs
 clear hs
 obtain ⟨k0,k1,k2,k3,k4,k5,k6,k7,k8,k9⟩:=F0.r0.k10
 go_wp2_with fail
 refine (HWR.out _ F0.b).mono ?_
 rintro e w1 ⟨rfl,hb1⟩
 have F:=F0.go hb1
 clear hb1 k0 k1 k2 k3 k4 k5 k6 k7 k8 k9 F0
 by_cases hw:Qk s=0
 case neg =>
  have e0:(Qk s != 0)=true:=by simpa using hw
  have HE:=hid (show QC s i=Qk s from HST.out.trans (if_pos hw))
  have HI:=hid (show J3 s i=Qk s from HD.out.trans ((if_pos (by rw [HE.out];exact hw)).trans (HE.out)))
  have HNO:=hid (show Qad s i od=St.none by rw [HSS.out,HI.out];exact if_neg (hw))
  have HN0:=hid (show J2 s (Qk s)=0 from if_neg (hw))
  clear hw
  generalize Qk s=zz at *
  go_wp2_with fail
  refine (Qz _ _).mono ?_
  rintro x wn ⟨rfl,hbn⟩
  have FN:=F.go hbn
  clear hbn
  go_wp2_with (refine FN.store 2 rfl rfl rfl rfl rfl Qb rfl (by simp [Value.oneCell']) ?_;intro wz FZ OZ)
  refine Qr Tryz.results6 rfl FZ.r2 Qb rfl ⟨FZ.b,_,by rw [HI.out,HN0.out];rfl,?_⟩
  rw [HNO.out]
  exact Qi _ _ _
 have HW:=hid hw
 have HS2:=hid (HST.out.trans (if_neg (by simp [hw])))
 rw [hw]
 clear hw HST
 go_upto_region 16 with fail
 refine F.box ?_
 intro w5 F5 hs2 hb2
 clear hs2 hb2 F
 obtain ⟨k0,k1,k2,k3,k4,k5,k6,k7,k8,k9⟩:=F5.r0.k10
 go_wp2_with fail
 refine (HOV.out HW.out i _ F5.b).mono ?_
 rintro e w6 ⟨hb6,y,rfl,hy⟩
 have F6:=F5.go hb6
 have HY:=hid hy
 clear hb6 k0 k1 k2 k3 k4 k5 k6 k7 k8 k9 hy F5
 go_upto_region 17 with fail
 refine F6.box ?_
 intro w7 F7 hs7 hb7
 clear hs7 hb7 F6
 by_cases ho:QI s i=0
 case neg =>
  have e3:(QI s i != 0)=true:=by simpa using ho
  have HE:=hid HS2.out
  have HI:=hid (show J3 s i=QI s i from HD.out.trans ((if_pos (by rw [HE.out];exact ho)).trans (HE.out)))
  have HNO:=hid (show Qad s i od=St.none by rw [HSS.out,HI.out];exact if_neg (ho))
  have HN0:=hid (show J2 s (QI s i)=0 from if_neg (ho))
  clear ho
  generalize QI s i=zz at *
  go_wp2_with fail
  refine (Qz _ _).mono ?_
  rintro x wn ⟨rfl,hbn⟩
  have FN:=F7.go hbn
  clear hbn
  go_wp2_with (refine FN.store 2 rfl rfl rfl rfl rfl Qb rfl (by simp [Value.oneCell']) ?_;intro wz FZ OZ)
  refine Qr Tryz.results6 rfl FZ.r2 Qb rfl ⟨FZ.b,_,by rw [HI.out,HN0.out];rfl,?_⟩
  rw [HNO.out]
  exact Qi _ _ _
 have HO:=hid ho
 have HE:=hid (HS2.out.trans ho)
 rw [ho]
 have hyc:=HY.out ho
 have hok:=Y0 ho
 clear ho HY HS2
 have HD2:=hid (HD.out.trans (if_neg (by rw [HE.out];simp)))
 have HYC:=hid hyc
 have HOK:=hid hok
 clear hyc hok
 have HD4:=hid HD2.out
 obtain ⟨k0,k1,k2,k3,k4,k5,k6,k7,k8,k9⟩:=F7.r0.k10
 go_wp2_with fail
 refine (HCP.out HW.out _ F7.b).mono ?_
 rintro e w13 ⟨hb13,p1,d1,p2,d2,p3,d3,p4,d4,p5,d5,p6,d6,p7,d7,rfl,hown⟩
 have F13:=F7.go hb13
 have HOW:=hid hown
 have hsz13:=hb13.size
 clear hb13 k0 k1 k2 k3 k4 k5 k6 k7 k8 k9 hown
 go_upto_region 31 with (refine F13.storeNew rfl rfl rfl rfl Qb rfl (by simp [Value.oneCell']) ?_;intro w14 F14 hb14)
 have HB14:=hid hb14
 clear hb14
 have k5:=F14.r0.k10.2.2.2.2.2.1
 by_cases h8:8≤s.chans.length
 case pos =>
  have e8:decide ((8:Int)≤(s.chans.length:Int))=true:=by simp;omega
  have HI0:=hid (HD4.out.trans (show Jn s=5 from if_pos h8))
  have HI:=hid (show J3 s i=5 from HI0.out)
  have HNO:=hid (show Qad s i od=St.none by rw [HSS.out,HI.out];exact if_neg (by decide))
  have HN0:=hid (show J2 s (5)=0 from if_neg (by decide))
  go_wp2_with fail
  refine (Qz _ _).mono ?_
  rintro x wn ⟨rfl,hbn⟩
  have FN:=F14.go hbn
  clear hbn
  go_wp2_with (refine FN.store 2 rfl rfl rfl rfl rfl Qb rfl (by simp [Value.oneCell']) ?_;intro wz FZ OZ)
  refine Qr Tryz.results6 rfl FZ.r2 Qb rfl ⟨FZ.b,_,by rw [HI.out,HN0.out];rfl,?_⟩
  rw [HNO.out]
  exact Qi _ _ _
 have e8:decide ((8:Int)≤(s.chans.length:Int))=false:=by simp;omega
 have HI:=hid (HD4.out.trans (show Jn s=0 from if_neg h8))
 have hlc:s.chans.length≤100:=(QD HW.out).2.2.1
 clear HD4
 go_upto_region 35 with fail
 refine F14.box ?_
 intro w15 F15 hs15 hb15
 have HB15:=hgo HB14 hb15
 have hge:w13.heap.size≤w14.heap.size:=HB14.out.size
 clear hs15 hb15 k5 F14
 go_upto_region 37 with fail
 have F16:=F15
 have HB16:=HB15
 clear F15
 have k5:=F16.r5.k10.2.2.2.2.2.1
 obtain ⟨a0,a1,a2,a3,a4,a5,a6⟩:=F16.r6.k7
 go_wp2_with (at_builtin;refine Hid.out ?_)
 refine hid ?_
 refine QjW ?_
 intro w17 hr17 hb17
 have HB17:=HB16.out.trans (hb17.mono HB16.out.size)
 have hsz17:=HB17.size
 have hz17:=hb17.size
 have hx17:=F16.r6.lt
 have ho17:=(HOW.out.toZB w17.heap.size).below HB17
 refine ZA Qc7 rfl _ _ rfl w7.heap.size _ (s.chans.map Qh) rfl ho17.chans _ _ (Qh (⟨1,od,i,-1,1,1,1⟩:Ch)) rfl (Qeu hr17) (YJ (l:=[(⟨1,od,i,-1,1,1,1⟩:Ch)])) (by simp;omega) (by omega) ?_
 intro g da w18 hrow hb18 hg18 hlie
 have hown3:=HOW.out.chans.own
 have F17:=F16.go hb17
 have F18:=F17.grown hg18 (fun b e=>Nat.le_trans F7.b.size (hown3 b e).1) (F7.awayR hown3 (l1:=[w13.heap.size,w14.heap.size]) (by simp;omega))
 have hle:(s.chans.map Qh).length+1=(s.chans ++ [(⟨1,od,i,-1,1,1,1⟩:Ch)]).length:=by simp
 rw [hle] at hrow ⊢
 have hrow':QV 54 Qh 7 w18 w7.heap.size (.slice (some ⟨g,0,none⟩) (s.chans ++ [(⟨1,od,i,-1,1,1,1⟩:Ch)]).length da) (s.chans ++ [(⟨1,od,i,-1,1,1,1⟩:Ch)]):=by have:=hrow;rw [show s.chans.map Qh ++ [Qh (⟨1,od,i,-1,1,1,1⟩:Ch)]=(s.chans ++ [(⟨1,od,i,-1,1,1,1⟩:Ch)]).map Qh by simp] at this;exact this
 have ho18:=ho17.putChans hg18 hrow' (fun b e=>by obtain rfl:g=b:=(by simpa [Value.ownBlock] using e);exact hlie.imp id (fun h=>by omega)) (fun b e=>by
  obtain rfl:g=b:=(by simpa [Value.ownBlock] using e)
  rcases hlie with h | h
  ·have:=hown3 g h;exact ⟨.inr this.1,by omega⟩
  ·exact ⟨.inr (by omega),by omega⟩)
 obtain ⟨pa,hpa⟩:∃ pa:Option Addr,some ⟨g,0,none⟩=pa:=⟨_,rfl⟩
 rw [hpa] at ho18 ⊢
 have HO18:=hid ho18
 clear hrow hrow' ho18 hb18 hg18 hlie hpa hb17 hr17 k5 a0 a1 a2 a3 a4 a5 a6 hle hown3 ho17 HB17 F17
 generalize hln:(s.chans ++ [(⟨1,od,i,-1,1,1,1⟩:Ch)]).length=ln at *
 clear hln
 have g5:=F18.r5.k10.2.2.2.2.2.1
 have z5:=F18.r5.frozen 5
 go_upto_region 38 with fail
 refine F18.cell 5 rfl ?_
 intro w19 F19 O19
 have hgr:=F7.r2.lt
 have HO19:=hid (HO18.out.only O19 (by omega))
 clear g5 z5 O19 F18
 refine QjO (by omega) (by omega) F19.r5 F19.r0 F19.r2 rfl (by simp [Value.oneCell']) _ (hid ?_)
 intro σ38 w20 O20 hr20 e5 e6
 have F20:=F19.only (i:=2) rfl hr20 O20
 have HO20:=hid (HO19.out.only O20 (by omega))
 rw [e5,e6]
 clear e5 e6 hr20 O20 F19
 go_wp2
 refine Qr Tryz.results6 rfl F20.r2 Qb rfl ⟨F20.b,_,by rw [HI.out];rfl,?_⟩
 rw [HSS.out,HI.out]
 exact (HO20.out.holds (fun b hb=>hb.1)).lower F7.b.size
theorem Qj0 (s:St) (v hv2:Value) (N:Nat) (w:World) (i q:Int) (od:Bool) (h:Sh) (z:Int) (hv:StV w N v s) (hh:ShV w N hv2 h) (hN:N≤w.heap.size) (hfit:s.fits) (hhf:h.fits) (htab:Qy w) (hz:Ys s ⟨2,od,i,q,0,0,0⟩ 1 (-1) h z) :
  Calls Tryz.prog 6 #[.int .u8 116,v,.int .i64 i,.int .i64 i,.bool od,.int .i64 q,hv2] w fun e w'=>Below w.heap.size w w'∧∃ v',e=.returned (.tuple #[v',.int .i64 (J2 s (Yl s i q z)),.int .i64 (Yl s i q z)])∧Qv N w.heap.size w' v' (ZZ s i od q z):=by
 have HWR:=hid (fun wx (hx:Below w.heap.size w wx)=>Yo s v N wx (hv.below (hx.mono hN)) (Nat.le_trans hN hx.size) hfit)
 have HOV:=hid (fun (h0:Qk s=0) (c:Int) wx (hx:Below w.heap.size w wx)=>Z4 s v N wx c (hv.below (hx.mono hN)) (Nat.le_trans hN hx.size) h0)
 have HCP:=hid (fun (h0:Qk s=0) wx (hx:Below w.heap.size w wx)=>Z7 s v N wx (hv.below (hx.mono hN)) (Nat.le_trans hN hx.size) hfit (QD h0))
 have HTH:=hid (fun wx (hx:Below w.heap.size w wx) (c zz:Int) (kv vv:Value) (key val:List (BitVec 8)) h1 h2 h3 h4 h5 h6=>Qa0 s v hv2 kv vv wx.heap.size wx c zz key val h ((hv.below (hx.mono hN)).mono (Nat.le_trans hN hx.size)) ((hh.below (hx.mono hN)).mono (Nat.le_trans hN hx.size)) h1 h2 (Nat.le_refl _) hfit hhf (htab.past hx) h3 h4 h5 h6)
 have HSS:=hid (show ZZ s i od q z=Qbr s (Yl s i q z) ⟨2,od,i,q,1,1,1⟩ from rfl)
 have HD:=hid (show Yl s i q z=if QC s i≠0 then QC s i else if Qn 0 q=false then 3 else if z≠0 then z else Jn s from rfl)
 have HST:=hid (show QC s i=if Qk s≠0 then Qk s else QI s i from rfl)
 obtain ⟨o1,c1,o2,c2,o3,c3,o4,c4,o5,c5,o6,c6,o7,c7,rfl,hm⟩:=hv.open
 obtain ⟨q1,e1,q2,e2,q3,e3,r1,s1,r2,s2,r3,s3,r4,s4,r5,s5,r6,s6,rfl,hpv⟩:=hh.open
 have HM:=hid hm
 have HZ:=hid hz
 clear hv hm hh hpv hfit hhf htab hz
 go_enter Tryz.func6,Tryz.ntmps6
 go_upto_region 2 with fail
 refine ZD ?_
 intro w0 F0 hs
 clear hs
 obtain ⟨k0,k1,k2,k3,k4,k5,k6,k7,k8,k9⟩:=F0.r0.k10
 go_wp2_with fail
 refine (HWR.out _ F0.b).mono ?_
 rintro e w1 ⟨rfl,hb1⟩
 have F:=F0.go hb1
 clear hb1 k0 k1 k2 k3 k4 k5 k6 k7 k8 k9 F0
 by_cases hw:Qk s=0
 case neg =>
  have e0:(Qk s != 0)=true:=by simpa using hw
  have HE:=hid (show QC s i=Qk s from HST.out.trans (if_pos hw))
  have HI:=hid (show Yl s i q z=Qk s from HD.out.trans ((if_pos (by rw [HE.out];exact hw)).trans (HE.out)))
  have HNO:=hid (show ZZ s i od q z=St.none by rw [HSS.out,HI.out];exact if_neg (hw))
  have HN0:=hid (show J2 s (Qk s)=0 from if_neg (hw))
  clear hw
  generalize Qk s=zz at *
  go_wp2_with fail
  refine (Qz _ _).mono ?_
  rintro x wn ⟨rfl,hbn⟩
  have FN:=F.go hbn
  clear hbn
  go_wp2_with (refine FN.store 2 rfl rfl rfl rfl rfl Qb rfl (by simp [Value.oneCell']) ?_;intro wz FZ OZ)
  refine Qr Tryz.results6 rfl FZ.r2 Qb rfl ⟨FZ.b,_,by rw [HI.out,HN0.out];rfl,?_⟩
  rw [HNO.out]
  exact Qi _ _ _
 have HW:=hid hw
 have HS2:=hid (HST.out.trans (if_neg (by simp [hw])))
 rw [hw]
 clear hw HST
 go_upto_region 16 with fail
 refine F.box ?_
 intro w5 F5 hs2 hb2
 clear hs2 hb2 F
 obtain ⟨k0,k1,k2,k3,k4,k5,k6,k7,k8,k9⟩:=F5.r0.k10
 go_wp2_with fail
 refine (HOV.out HW.out i _ F5.b).mono ?_
 rintro e w6 ⟨hb6,y,rfl,hy⟩
 have F6:=F5.go hb6
 have HY:=hid hy
 clear hb6 k0 k1 k2 k3 k4 k5 k6 k7 k8 k9 hy F5
 go_upto_region 17 with fail
 refine F6.box ?_
 intro w7 F7 hs7 hb7
 clear hs7 hb7 F6
 by_cases ho:QI s i=0
 case neg =>
  have e3:(QI s i != 0)=true:=by simpa using ho
  have HE:=hid HS2.out
  have HI:=hid (show Yl s i q z=QI s i from HD.out.trans ((if_pos (by rw [HE.out];exact ho)).trans (HE.out)))
  have HNO:=hid (show ZZ s i od q z=St.none by rw [HSS.out,HI.out];exact if_neg (ho))
  have HN0:=hid (show J2 s (QI s i)=0 from if_neg (ho))
  clear ho
  generalize QI s i=zz at *
  go_wp2_with fail
  refine (Qz _ _).mono ?_
  rintro x wn ⟨rfl,hbn⟩
  have FN:=F7.go hbn
  clear hbn
  go_wp2_with (refine FN.store 2 rfl rfl rfl rfl rfl Qb rfl (by simp [Value.oneCell']) ?_;intro wz FZ OZ)
  refine Qr Tryz.results6 rfl FZ.r2 Qb rfl ⟨FZ.b,_,by rw [HI.out,HN0.out];rfl,?_⟩
  rw [HNO.out]
  exact Qi _ _ _
 have HO:=hid ho
 have HE:=hid (HS2.out.trans ho)
 rw [ho]
 have hyc:=HY.out ho
 have hok:=Y0 ho
 clear ho HY HS2
 have HD2:=hid (HD.out.trans (if_neg (by rw [HE.out];simp)))
 have HYC:=hid hyc
 have HOK:=hid hok
 clear hyc hok
 by_cases hfq:Qn 0 q=true
 case neg =>
  have hfq':Qn 0 q=false:=by simpa using hfq
  have HF1:=hid (show [q].all (Qn 0)=false by simp [hfq'])
  have HI0:=hid (HD2.out.trans (if_pos hfq'))
  clear hfq hfq'
  go_wp2_with (go_at_call 26;refine Qjd ?_;intro wf hrf hbf;refine (Q0 0 [q] _ 1 _ hrf rfl (by decide)).mono ?_;rintro e wg ⟨rfl,hww⟩;obtain rfl:=hww.symm;rw [HF1.out];have FF:=F7.go hbf;clear hbf hrf)
  have HI:=hid (show Yl s i q z=3 from HI0.out)
  have HNO:=hid (show ZZ s i od q z=St.none by rw [HSS.out,HI.out];exact if_neg (by decide))
  have HN0:=hid (show J2 s (3)=0 from if_neg (by decide))
  refine (Qz _ _).mono ?_
  rintro x wn ⟨rfl,hbn⟩
  have FN:=FF.go hbn
  clear hbn
  go_wp2_with (refine FN.store 2 rfl rfl rfl rfl rfl Qb rfl (by simp [Value.oneCell']) ?_;intro wz FZ OZ)
  refine Qr Tryz.results6 rfl FZ.r2 Qb rfl ⟨FZ.b,_,by rw [HI.out,HN0.out];rfl,?_⟩
  rw [HNO.out]
  exact Qi _ _ _
 have HFQ:=hid ((YN _ _).1 hfq)
 have HF1:=hid (show [q].all (Qn 0)=true by simp [hfq])
 have HD3:=hid (HD2.out.trans (if_neg (by simp [hfq])))
 clear hfq HD2
 have hbd:=ZK HW.out HO.out
 rw [← HYC.out] at hbd
 have hbk : -1≤(-1)∧(-1)≤1000000000000:=by omega
 have HOB:=hid (show (1≤(1:Int)∧(1:Int)≤4)∧(0≤y.oconn∧y.oconn≤1000000000000)∧(-1≤(-1)∧(-1)≤1000000000000) from ⟨⟨by decide,by decide⟩,hbd.1,hbk⟩)
 have HCL:=hid hbd.2
 have HMZ:=hid (show JB s y.client h (Zd Yy [(q).toNat]) (JC ⟨1,od,y.oconn,(-1),0,0,0⟩) z by rw [HYC.out];exact HZ.out)
 clear hbd hbk
 go_upto_region 24 with (go_at_call 26;refine Qjd ?_;intro wf hrf hbf;refine (Q0 0 [q] _ 1 _ hrf rfl (by decide)).mono ?_;rintro e wg ⟨rfl,hww⟩;obtain rfl:=hww.symm;rw [HF1.out];have FF:=F7.go hbf;clear hbf hrf)
 obtain ⟨m1,m2,m3,m4,m5,r0,r1,r2,r3,r4,hb5,l0,l1,l2,l3⟩:=QbF wf
 have F9:=FF.go hb5
 have y3:=F9.r4.k4.2.2.2
 clear hb5
 go_upto_region 25 with fail
 refine F9.box ?_
 intro w10 F10 hs10 hb10
 clear hs10 hb10 y3 r0 r1 r2 r3 r4 l0 l1 l2 l3 F9
 have a3:=F10.r5.k7.2.2.2.1
 have z3:=F10.r5.frozen 3
 go_upto_region 27 with fail
 refine F10.cell 5 rfl ?_
 intro w11 F11 O11
 clear a3 z3 O11 F10
 refine QgN (hid F11.r0) (hid F11.r4) (hid F11.r5) (hid F11.r1) (key:=Zd Yy [(q).toNat]) (val:=JC ⟨1,od,y.oconn,(-1),0,0,0⟩) (z:=z) (fun W hW r hr=>ZL ⟨#[99,104,97,110]⟩ [q] r 1 W (by decide) hr rfl (by decide) (fun n hn=>by have:=HFQ.out;simp at hn;omega)) (fun W hW=>Qal ⟨1,od,y.oconn,(-1),0,0,0⟩ HOB.out W) (fun W kv vv hW h4 h5=>HTH.out W (F11.go hW).b y.client z kv vv _ _ h4 h5 HCL.out (Yv _ HFQ.out) (Yw _ HOB.out) HMZ.out) _ (hid ?_)
 intro σ27 w12 hb12 ea
 have F12:=F11.go hb12
 rw [ea]
 clear hb12 ea F11 HTH HMZ
 by_cases hz0:z=0
 case neg =>
  have e5:(z != 0)=true:=by simpa using hz0
  have HI0:=hid (HD3.out.trans (if_pos hz0))
  have HI:=hid (show Yl s i q z=z from HI0.out)
  have HNO:=hid (show ZZ s i od q z=St.none by rw [HSS.out,HI.out];exact if_neg (hz0))
  have HN0:=hid (show J2 s (z)=0 from if_neg (hz0))
  clear hz0
  go_wp2_with fail
  refine (Qz _ _).mono ?_
  rintro x wn ⟨rfl,hbn⟩
  have FN:=F12.go hbn
  clear hbn
  go_wp2_with (refine FN.store 2 rfl rfl rfl rfl rfl Qb rfl (by simp [Value.oneCell']) ?_;intro wz FZ OZ)
  refine Qr Tryz.results6 rfl FZ.r2 Qb rfl ⟨FZ.b,_,by rw [HI.out,HN0.out];rfl,?_⟩
  rw [HNO.out]
  exact Qi _ _ _
 subst hz0
 have HD4:=hid (HD3.out.trans (if_neg (by simp)))
 clear HD3
 obtain ⟨k0,k1,k2,k3,k4,k5,k6,k7,k8,k9⟩:=F12.r0.k10
 go_wp2_with fail
 refine (HCP.out HW.out _ F12.b).mono ?_
 rintro e w13 ⟨hb13,p1,d1,p2,d2,p3,d3,p4,d4,p5,d5,p6,d6,p7,d7,rfl,hown⟩
 have F13:=F12.go hb13
 have HOW:=hid hown
 have hsz13:=hb13.size
 clear hb13 k0 k1 k2 k3 k4 k5 k6 k7 k8 k9 hown
 go_upto_region 31 with (refine F13.storeNew rfl rfl rfl rfl Qb rfl (by simp [Value.oneCell']) ?_;intro w14 F14 hb14)
 have HB14:=hid hb14
 clear hb14
 have k5:=F14.r0.k10.2.2.2.2.2.1
 by_cases h8:8≤s.chans.length
 case pos =>
  have e8:decide ((8:Int)≤(s.chans.length:Int))=true:=by simp;omega
  have HI0:=hid (HD4.out.trans (show Jn s=5 from if_pos h8))
  have HI:=hid (show Yl s i q 0=5 from HI0.out)
  have HNO:=hid (show ZZ s i od q 0=St.none by rw [HSS.out,HI.out];exact if_neg (by decide))
  have HN0:=hid (show J2 s (5)=0 from if_neg (by decide))
  go_wp2_with fail
  refine (Qz _ _).mono ?_
  rintro x wn ⟨rfl,hbn⟩
  have FN:=F14.go hbn
  clear hbn
  go_wp2_with (refine FN.store 2 rfl rfl rfl rfl rfl Qb rfl (by simp [Value.oneCell']) ?_;intro wz FZ OZ)
  refine Qr Tryz.results6 rfl FZ.r2 Qb rfl ⟨FZ.b,_,by rw [HI.out,HN0.out];rfl,?_⟩
  rw [HNO.out]
  exact Qi _ _ _
 have e8:decide ((8:Int)≤(s.chans.length:Int))=false:=by simp;omega
 have HI:=hid (HD4.out.trans (show Jn s=0 from if_neg h8))
 have hlc:s.chans.length≤100:=(QD HW.out).2.2.1
 clear HD4
 go_upto_region 35 with fail
 refine F14.box ?_
 intro w15 F15 hs15 hb15
 have HB15:=hgo HB14 hb15
 have hge:w13.heap.size≤w14.heap.size:=HB14.out.size
 clear hs15 hb15 k5 F14
 have a0:=F15.r7.k7.1
 have a3:=F15.r7.k7.2.2.2.1
 have z0:=F15.r7.frozen 0
 have z3:=F15.r7.frozen 3
 go_upto_region 37 with fail
 refine ((F15.set1 7 0 _ rfl).set1 7 3 _ rfl).named (((JL.refl w14.heap.size w15).cell 0 _).cell 3 _) ?_
 intro w16 F16 O16
 have HB16:=hid (O16.down HB15.out hge)
 clear a0 a3 z0 z3 O16 F15
 have k5:=F16.r6.k10.2.2.2.2.2.1
 obtain ⟨a0,a1,a2,a3,a4,a5,a6⟩:=F16.r7.k7
 go_wp2_with (at_builtin;refine Hid.out ?_)
 refine hid ?_
 refine QjW ?_
 intro w17 hr17 hb17
 have HB17:=HB16.out.trans (hb17.mono HB16.out.size)
 have hsz17:=HB17.size
 have hz17:=hb17.size
 have hx17:=F16.r7.lt
 have ho17:=(HOW.out.toZB w17.heap.size).below HB17
 refine ZA Qc7 rfl _ _ rfl w12.heap.size _ (s.chans.map Qh) rfl ho17.chans _ _ (Qh (⟨2,od,i,q,1,1,1⟩:Ch)) rfl (Qeu hr17) (YJ (l:=[(⟨2,od,i,q,1,1,1⟩:Ch)])) (by simp;omega) (by omega) ?_
 intro g da w18 hrow hb18 hg18 hlie
 have hown3:=HOW.out.chans.own
 have F17:=F16.go hb17
 have F18:=F17.grown hg18 (fun b e=>Nat.le_trans F12.b.size (hown3 b e).1) (F12.awayR hown3 (l1:=[w13.heap.size,w14.heap.size]) (by simp;omega))
 have hle:(s.chans.map Qh).length+1=(s.chans ++ [(⟨2,od,i,q,1,1,1⟩:Ch)]).length:=by simp
 rw [hle] at hrow ⊢
 have hrow':QV 54 Qh 7 w18 w12.heap.size (.slice (some ⟨g,0,none⟩) (s.chans ++ [(⟨2,od,i,q,1,1,1⟩:Ch)]).length da) (s.chans ++ [(⟨2,od,i,q,1,1,1⟩:Ch)]):=by have:=hrow;rw [show s.chans.map Qh ++ [Qh (⟨2,od,i,q,1,1,1⟩:Ch)]=(s.chans ++ [(⟨2,od,i,q,1,1,1⟩:Ch)]).map Qh by simp] at this;exact this
 have ho18:=ho17.putChans hg18 hrow' (fun b e=>by obtain rfl:g=b:=(by simpa [Value.ownBlock] using e);exact hlie.imp id (fun h=>by omega)) (fun b e=>by
  obtain rfl:g=b:=(by simpa [Value.ownBlock] using e)
  rcases hlie with h | h
  ·have:=hown3 g h;exact ⟨.inr this.1,by omega⟩
  ·exact ⟨.inr (by omega),by omega⟩)
 obtain ⟨pa,hpa⟩:∃ pa:Option Addr,some ⟨g,0,none⟩=pa:=⟨_,rfl⟩
 rw [hpa] at ho18 ⊢
 have HO18:=hid ho18
 clear hrow hrow' ho18 hb18 hg18 hlie hpa hb17 hr17 k5 a0 a1 a2 a3 a4 a5 a6 hle hown3 ho17 HB17 F17
 generalize hln:(s.chans ++ [(⟨2,od,i,q,1,1,1⟩:Ch)]).length=ln at *
 clear hln
 have g5:=F18.r6.k10.2.2.2.2.2.1
 have z5:=F18.r6.frozen 5
 go_upto_region 38 with fail
 refine F18.cell 6 rfl ?_
 intro w19 F19 O19
 have hgr:=F12.r2.lt
 have HO19:=hid (HO18.out.only O19 (by omega))
 clear g5 z5 O19 F18
 refine QjO (by omega) (by omega) F19.r6 F19.r0 F19.r2 rfl (by simp [Value.oneCell']) _ (hid ?_)
 intro σ38 w20 O20 hr20 e5 e6
 have F20:=F19.only (i:=2) rfl hr20 O20
 have HO20:=hid (HO19.out.only O20 (by omega))
 rw [e5,e6]
 clear e5 e6 hr20 O20 F19
 go_wp2
 refine Qr Tryz.results6 rfl F20.r2 Qb rfl ⟨F20.b,_,by rw [HI.out];rfl,?_⟩
 rw [HSS.out,HI.out]
 exact (HO20.out.holds (fun b hb=>hb.1)).lower F12.b.size
end Go.Proofs.YtbgdpfeobklnhaaGreatDoor
