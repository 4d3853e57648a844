/-
  The document's Channel: Closed.
-/
import Derived.Test.YtbgdpfeobklnhaaGreatDoorcvChRefR
import Derived.Test.YtbgdpfeobklnhaaGreatDoorcvChOwnZ
import Derived.Test.YtbgdpfeobklnhaaGreatDoorcvChMem
import Derived.Test.YtbgdpfeobklnhaaGreatDoorcvSt8RWrong
import Derived.Test.YtbgdpfeobklnhaaGreatDoorcvSt8RCopy
import Derived.Test.YtbgdpfeobklnhaaGreatDoorcvSt8RVal
import Derived.Test.YtbgdpfeobklnhaaGreatDoorcvCoMem
namespace Go.Proofs.YtbgdpfeobklnhaaGreatDoor
set_option maxRecDepth 1000000
set_option maxHeartbeats 8000000
open Go.RowKit
theorem Qj1 (s:St) (v hv2:Value) (N:Nat) (w:World) (i q:Int) (od:Bool) (h:Sh) (hv:StV w N v s) (hh:ShV w N hv2 h) (hN:N≤w.heap.size) (hfit:s.fits)  :
  Calls Tryz.prog 6 #[.int .u8 120,v,.int .i64 i,.int .i64 i,.bool od,.int .i64 q,hv2] w fun e w'=>Below w.heap.size w w'∧∃ v',e=.returned (.tuple #[v',.int .i64 (0),.int .i64 (QG s i 3)])∧Qv N w.heap.size w' v' (Zq s i):=by
 have HWR:=hid (fun wx (hx:Below w.heap.size w wx)=>Yo s v N wx (hv.below (hx.mono hN)) (Nat.le_trans hN hx.size) hfit)
 have HOV:=hid (fun (h0:Qk s=0) (c:Int) wx (hx:Below w.heap.size w wx)=>Z4 s v N wx c (hv.below (hx.mono hN)) (Nat.le_trans hN hx.size) h0)
 have HCP:=hid (fun (h0:Qk s=0) wx (hx:Below w.heap.size w wx)=>Z7 s v N wx (hv.below (hx.mono hN)) (Nat.le_trans hN hx.size) hfit (QD h0))
 have HSS:=hid (show Zq s i=Qas s (QG s i 3) i ((QN s i).turned 4 (QN s i).ochan) from rfl)
 have HST:=hid (show QG s i 3=if Qk s≠0 then Qk s else if i<0∨(s.chans.length:Int)≤i then 6 else if (QN s i).state≠3 then 12 else QI s (QN s i).conn from rfl)
 obtain ⟨o1,c1,o2,c2,o3,c3,o4,c4,o5,c5,o6,c6,o7,c7,rfl,hm⟩:=hv.open
 obtain ⟨q1,e1,q2,e2,q3,e3,r1,s1,r2,s2,r3,s3,r4,s4,r5,s5,r6,s6,rfl,hpv⟩:=hh.open
 have HM:=hid hm
 clear hv hm hh hpv hfit
 go_enter Tryz.func6,Tryz.ntmps6
 go_upto_region 2 with fail
 refine ZD ?_
 intro w0 F0 hs
 clear hs
 obtain ⟨k0,k1,k2,k3,k4,k5,k6,k7,k8,k9⟩:=F0.r0.k10
 go_wp2_with fail
 refine (HWR.out _ F0.b).mono ?_
 rintro e w1 ⟨rfl,hb1⟩
 have F:=F0.go hb1
 clear hb1 k0 k1 k2 k3 k4 k5 k6 k7 k8 k9 F0
 by_cases hw:Qk s=0
 case neg =>
  have e0:(Qk s != 0)=true:=by simpa using hw
  have HE:=hid (show QG s i 3=Qk s from HST.out.trans (if_pos hw))
  have HI:=hid (show QG s i 3=Qk s from HE.out)
  have HNO:=hid (show Zq s i=St.none by rw [HSS.out,HI.out];exact if_neg (hw))
  clear hw
  generalize Qk s=zz at *
  go_wp2_with fail
  refine (Qz _ _).mono ?_
  rintro x wn ⟨rfl,hbn⟩
  have FN:=F.go hbn
  clear hbn
  go_wp2_with (refine FN.store 2 rfl rfl rfl rfl rfl Qb rfl (by simp [Value.oneCell']) ?_;intro wz FZ OZ)
  refine Qr Tryz.results6 rfl FZ.r2 Qb rfl ⟨FZ.b,_,by rw [HI.out];rfl,?_⟩
  rw [HNO.out]
  exact Qi _ _ _
 have HW:=hid hw
 have HS2:=hid (HST.out.trans (if_neg (by simp [hw])))
 rw [hw]
 clear hw HST
 go_upto_region 8 with fail
 refine F.box ?_
 intro w2 F2 hs2 hb2
 clear hs2 hb2 F
 have k5:=F2.r0.k10.2.2.2.2.2.1
 by_cases h0:i<0
 case pos =>
  have e0:decide (i<0)=true:=by simpa using h0
  have HE:=hid (HS2.out.trans (if_pos (.inl h0)))
  clear h0
  have HI:=hid (show QG s i 3=6 from HE.out)
  have HNO:=hid (show Zq s i=St.none by rw [HSS.out,HI.out];exact if_neg (by decide))
  go_wp2_with fail
  refine (Qz _ _).mono ?_
  rintro x wn ⟨rfl,hbn⟩
  have FN:=F2.go hbn
  clear hbn
  go_wp2_with (refine FN.store 2 rfl rfl rfl rfl rfl Qb rfl (by simp [Value.oneCell']) ?_;intro wz FZ OZ)
  refine Qr Tryz.results6 rfl FZ.r2 Qb rfl ⟨FZ.b,_,by rw [HI.out];rfl,?_⟩
  rw [HNO.out]
  exact Qi _ _ _
 have e0:decide (i<0)=false:=by simpa using h0
 by_cases h1:(s.chans.length:Int)≤i
 case pos =>
  have e1:decide ((s.chans.length:Int)≤i)=true:=by simpa using h1
  have HE:=hid (HS2.out.trans (if_pos (.inr h1)))
  clear h0
  have HI:=hid (show QG s i 3=6 from HE.out)
  have HNO:=hid (show Zq s i=St.none by rw [HSS.out,HI.out];exact if_neg (by decide))
  go_wp2_with fail
  refine (Qz _ _).mono ?_
  rintro x wn ⟨rfl,hbn⟩
  have FN:=F2.go hbn
  clear hbn
  go_wp2_with (refine FN.store 2 rfl rfl rfl rfl rfl Qb rfl (by simp [Value.oneCell']) ?_;intro wz FZ OZ)
  refine Qr Tryz.results6 rfl FZ.r2 Qb rfl ⟨FZ.b,_,by rw [HI.out];rfl,?_⟩
  rw [HNO.out]
  exact Qi _ _ _
 have e1:decide ((s.chans.length:Int)≤i)=false:=by simpa using h1
 have HS3:=hid (HS2.out.trans (if_neg (by omega)))
 clear HS2
 obtain ⟨k,rfl⟩:∃ k:Nat,i=(k:Int):=⟨i.toNat,by omega⟩
 have hlt:(k:Int)<(s.chans.length:Int):=by omega
 obtain ⟨x,hx⟩:∃ x,s.chans[k]?=some x:=⟨_,List.getElem?_eq_getElem (by omega)⟩
 have HX:=hid hx
 rw [Yk hx] at HS3 HSS
 clear hx h0 h1
 obtain ⟨b,f,rfl,hb,x0,x1,x2,x3,x4,x5,x6⟩:=(HM.out.below (F2.b.mono hN)).chans.chan rfl HX.out
 go_upto_region 11 with (refine F2.store 3 rfl rfl rfl rfl rfl Qaq rfl (by simp [Value.oneCell']) ?_;intro w3 F3 O3)
 clear x0 x1 x2 x3 x4 x5 x6 k5 hb O3 F2
 obtain ⟨m1,m2,m3,m4,m5,r0,r1,r2,r3,r4,hb5,l0,l1,l2,l3⟩:=QaX w3
 have F4:=F3.go hb5
 clear hb5
 have a0:=F3.r3.k7.1
 by_cases h2:x.state=3
 case neg =>
  have e2:(x.state != 3)=true:=by simpa using h2
  have HE:=hid (HS3.out.trans (if_pos h2))
  clear h2
  have HI:=hid (show QG s (k:Int) 3=12 from HE.out)
  have HNO:=hid (show Zq s (k:Int)=St.none by rw [HSS.out,HI.out];exact if_neg (by decide))
  go_wp2_with fail
  refine (Qz _ _).mono ?_
  rintro x wn ⟨rfl,hbn⟩
  have FN:=F4.go hbn
  clear hbn
  go_wp2_with (refine FN.store 2 rfl rfl rfl rfl rfl Qb rfl (by simp [Value.oneCell']) ?_;intro wz FZ OZ)
  refine Qr Tryz.results6 rfl FZ.r2 Qb rfl ⟨FZ.b,_,by rw [HI.out];rfl,?_⟩
  rw [HNO.out]
  exact Qi _ _ _
 have e2:(x.state != 3)=false:=by simpa using h2
 have HS4:=hid (HS3.out.trans (if_neg (by simp [h2])))
 clear h2 HS3
 go_upto_region 13 with fail
 refine QgM (hid F4.r3) _ (hid ?_)
 intro σ w5 hb5 ea eb
 have F5:=F4.go hb5
 rw [ea,eb]
 clear hb5 ea eb a0 r0 r1 r2 r3 r4 l0 l1 l2 l3 F3 F4
 have a3:=F5.r3.k7.2.2.2.1
 obtain ⟨k0,k1,k2,k3,k4,k5,k6,k7,k8,k9⟩:=F5.r0.k10
 go_wp2_with fail
 refine (HOV.out HW.out x.conn _ F5.b).mono ?_
 rintro e w6 ⟨hb6,y,rfl,hy⟩
 have F6:=F5.go hb6
 have HY:=hid hy
 clear hb6 k0 k1 k2 k3 k4 k5 k6 k7 k8 k9 a3 hy F5
 go_upto_region 17 with fail
 refine F6.box ?_
 intro w7 F7 hs7 hb7
 clear hs7 hb7 F6
 by_cases ho:QI s x.conn=0
 case neg =>
  have e3:(QI s x.conn != 0)=true:=by simpa using ho
  have HE:=hid HS4.out
  have HI:=hid (show QG s (k:Int) 3=QI s x.conn from HE.out)
  have HNO:=hid (show Zq s (k:Int)=St.none by rw [HSS.out,HI.out];exact if_neg (ho))
  clear ho
  generalize QI s x.conn=zz at *
  go_wp2_with fail
  refine (Qz _ _).mono ?_
  rintro x wn ⟨rfl,hbn⟩
  have FN:=F7.go hbn
  clear hbn
  go_wp2_with (refine FN.store 2 rfl rfl rfl rfl rfl Qb rfl (by simp [Value.oneCell']) ?_;intro wz FZ OZ)
  refine Qr Tryz.results6 rfl FZ.r2 Qb rfl ⟨FZ.b,_,by rw [HI.out];rfl,?_⟩
  rw [HNO.out]
  exact Qi _ _ _
 have HO:=hid ho
 have HE:=hid (HS4.out.trans ho)
 rw [ho]
 have hyc:=HY.out ho
 have hok:=Y0 ho
 clear ho HY HS4
 have HI:=hid HE.out
 have HYC:=hid hyc
 have HOK:=hid hok
 clear hyc hok
 obtain ⟨k0,k1,k2,k3,k4,k5,k6,k7,k8,k9⟩:=F7.r0.k10
 go_wp2_with fail
 refine (HCP.out HW.out _ F7.b).mono ?_
 rintro e w13 ⟨hb13,p1,d1,p2,d2,p3,d3,p4,d4,p5,d5,p6,d6,p7,d7,rfl,hown⟩
 have F13:=F7.go hb13
 have HOW:=hid hown
 have hsz13:=hb13.size
 clear hb13 k0 k1 k2 k3 k4 k5 k6 k7 k8 k9 hown
 go_upto_region 31 with (refine F13.storeNew rfl rfl rfl rfl Qb rfl (by simp [Value.oneCell']) ?_;intro w14 F14 hb14)
 have HB14:=hid hb14
 clear hb14
 have ho14:=HOW.out.below HB14.out
 obtain ⟨g,hge,hgb,hgl,-,-⟩:=Qs.at HOW.out.chans (r:=Qh x) (i:=k) (by rw [List.getElem?_map,HX.out];rfl)
 subst hge
 have HRS:=hid (show (s.chans.map Qh)[k]?=some (Qh x) by rw [List.getElem?_map,HX.out];rfl)
 go_upto_region 39 with fail
 refine QgO (by omega) HRS.out hlt F14.r5 ho14.chans _ (hid ?_)
 intro σ39 w15 O15 hT
 have F15:=F14.grown O15.grows (fun b e=>by obtain rfl:=Option.some.inj e;exact Nat.le_trans F7.b.size hgb) (F7.awayR (r:=some g) (hi:=w13.heap.size) (fun b e=>by obtain rfl:=Option.some.inj e;exact ⟨hgb,hgl⟩) (l1:=[w13.heap.size]) (by simp))
 have hrow:QV 54 Qh 7 w15 w7.heap.size (.slice (some ⟨g,0,none⟩) s.chans.length d3) (s.chans.set k (x.turned 3 (x.ochan))):=by
  have h1:Qs 54 7 w15 w7.heap.size (.slice (some ⟨g,0,none⟩) s.chans.length d3) ((s.chans.map Qh).set k (Qh (x.turned 3 (x.ochan)))):=hT
  rw [← List.map_set] at h1
  exact h1
 have ho15:=ho14.putChans O15.grows hrow (fun b e=>.inl e)
 have hgr:=F7.r2.lt
 obtain ⟨g',hge,-,-,hcc,hfz⟩:=Qs.at hrow (r:=Qh (x.turned 3 (x.ochan))) (i:=k) (by rw [List.getElem?_map,List.getElem?_set_self (List.getElem?_eq_some_iff.1 HX.out).1];rfl)
 obtain rfl:g=g':=by simpa using hge
 have f0:=hcc 0 _ rfl
 have z0:=hfz (k*7)
 simp only [Nat.add_zero] at f0
 have hrow2:QV 54 Qh 7 (w15.setCell ⟨g,k*7,none⟩ (.int .i64 4)) w7.heap.size (.slice (some ⟨g,0,none⟩) s.chans.length d3) (s.chans.set k (x.turned 4 (x.ochan))):=by
  have h1:=Qs.putCell hrow (i:=k) (j:=0) (x:=.int .i64 4) (r:=Qh (x.turned 3 (x.ochan))) (by rw [List.getElem?_map,List.getElem?_set_self (List.getElem?_eq_some_iff.1 HX.out).1];rfl) (by decide) rfl
  have h2:((s.chans.set k (x.turned 3 (x.ochan))).map Qh).set k ((Qh (x.turned 3 (x.ochan))).set 0 (.int .i64 4))=(s.chans.set k (x.turned 4 (x.ochan))).map Qh:=by
   rw [List.map_set,List.set_set,List.map_set]
   rfl
  rw [h2] at h1
  exact h1
 have hg2:=((JL.refl g w15).cell (k*7) (.int .i64 4)).grows
 have ho16:=ho15.putChans hg2 hrow2 (fun b e=>.inl e)
 simp only at ho16
 have F16:=F15.grown hg2 (fun b e=>by obtain rfl:=Option.some.inj e;exact Nat.le_trans F7.b.size hgb) (F7.awayR (r:=some g) (hi:=w13.heap.size) (fun b e=>by obtain rfl:=Option.some.inj e;exact ⟨hgb,hgl⟩) (l1:=[w13.heap.size]) (by simp))
 have k5:=F15.r5.k10.2.2.2.2.2.1
 obtain ⟨w16,hw16⟩:∃ w16,w15.setCell ⟨g,k*7,none⟩ (.int .i64 4)=w16:=⟨_,rfl⟩
 rw [hw16] at F16 ho16
 have HO16:=hid ho16
 have HW16:=hid hw16
 clear hw16 ho16 ho15 ho14 hrow hrow2 hg2 hT hcc hfz hge O15
 go_upto_region 42 with fail
 refine QcH HW16.out ?_
 clear f0 z0 k5 F15
 obtain ⟨k0,k1,k2,k3,k4,k5,k6,k7,k8,k9⟩:=F16.r5.k10
 go_wp2_with (refine F16.store 2 rfl rfl rfl rfl rfl Qb rfl (by simp [Value.oneCell']) ?_;intro w17 F17 O17)
 refine Qr Tryz.results6 rfl F17.r2 Qb rfl ⟨F17.b,_,by rw [HI.out];rfl,?_⟩
 rw [HSS.out,HI.out]
 exact ((HO16.out.only O17 (by omega) hgr).lower (base':=w.heap.size) F7.b.size).holds
theorem Qj2 (s:St) (v hv2:Value) (N:Nat) (w:World) (i q:Int) (od:Bool) (h:Sh) (z:Int) (hv:StV w N v s) (hh:ShV w N hv2 h) (hN:N≤w.heap.size) (hfit:s.fits) (hhf:h.fits) (htab:Qy w) (hz:Ys s ⟨3,(QN s i).ordered,(QN s i).conn,(QN s i).ochan,0,0,0⟩ 4 i h z) :
  Calls Tryz.prog 6 #[.int .u8 121,v,.int .i64 i,.int .i64 i,.bool od,.int .i64 q,hv2] w fun e w'=>Below w.heap.size w w'∧∃ v',e=.returned (.tuple #[v',.int .i64 (0),.int .i64 (QU s i 3 z)])∧Qv N w.heap.size w' v' (Q4 s i 3 z 4):=by
 have HWR:=hid (fun wx (hx:Below w.heap.size w wx)=>Yo s v N wx (hv.below (hx.mono hN)) (Nat.le_trans hN hx.size) hfit)
 have HOV:=hid (fun (h0:Qk s=0) (c:Int) wx (hx:Below w.heap.size w wx)=>Z4 s v N wx c (hv.below (hx.mono hN)) (Nat.le_trans hN hx.size) h0)
 have HCP:=hid (fun (h0:Qk s=0) wx (hx:Below w.heap.size w wx)=>Z7 s v N wx (hv.below (hx.mono hN)) (Nat.le_trans hN hx.size) hfit (QD h0))
 have HTH:=hid (fun wx (hx:Below w.heap.size w wx) (c zz:Int) (kv vv:Value) (key val:List (BitVec 8)) h1 h2 h3 h4 h5 h6=>Qa0 s v hv2 kv vv wx.heap.size wx c zz key val h ((hv.below (hx.mono hN)).mono (Nat.le_trans hN hx.size)) ((hh.below (hx.mono hN)).mono (Nat.le_trans hN hx.size)) h1 h2 (Nat.le_refl _) hfit hhf (htab.past hx) h3 h4 h5 h6)
 have HSS:=hid (show Q4 s i 3 z 4=Qas s (QU s i 3 z) i ((QN s i).turned 4 (QN s i).ochan) from rfl)
 have HD:=hid (show QU s i 3 z=if QG s i 3≠0 then QG s i 3 else if (QN s i).ochan<0 then 8 else z from rfl)
 have HST:=hid (show QG s i 3=if Qk s≠0 then Qk s else if i<0∨(s.chans.length:Int)≤i then 6 else if (QN s i).state≠3 then 12 else QI s (QN s i).conn from rfl)
 obtain ⟨o1,c1,o2,c2,o3,c3,o4,c4,o5,c5,o6,c6,o7,c7,rfl,hm⟩:=hv.open
 obtain ⟨q1,e1,q2,e2,q3,e3,r1,s1,r2,s2,r3,s3,r4,s4,r5,s5,r6,s6,rfl,hpv⟩:=hh.open
 have HM:=hid hm
 have HZ:=hid hz
 clear hv hm hh hpv hfit hhf htab hz
 go_enter Tryz.func6,Tryz.ntmps6
 go_upto_region 2 with fail
 refine ZD ?_
 intro w0 F0 hs
 clear hs
 obtain ⟨k0,k1,k2,k3,k4,k5,k6,k7,k8,k9⟩:=F0.r0.k10
 go_wp2_with fail
 refine (HWR.out _ F0.b).mono ?_
 rintro e w1 ⟨rfl,hb1⟩
 have F:=F0.go hb1
 clear hb1 k0 k1 k2 k3 k4 k5 k6 k7 k8 k9 F0
 by_cases hw:Qk s=0
 case neg =>
  have e0:(Qk s != 0)=true:=by simpa using hw
  have HE:=hid (show QG s i 3=Qk s from HST.out.trans (if_pos hw))
  have HI:=hid (show QU s i 3 z=Qk s from HD.out.trans ((if_pos (by rw [HE.out];exact hw)).trans (HE.out)))
  have HNO:=hid (show Q4 s i 3 z 4=St.none by rw [HSS.out,HI.out];exact if_neg (hw))
  clear hw
  generalize Qk s=zz at *
  go_wp2_with fail
  refine (Qz _ _).mono ?_
  rintro x wn ⟨rfl,hbn⟩
  have FN:=F.go hbn
  clear hbn
  go_wp2_with (refine FN.store 2 rfl rfl rfl rfl rfl Qb rfl (by simp [Value.oneCell']) ?_;intro wz FZ OZ)
  refine Qr Tryz.results6 rfl FZ.r2 Qb rfl ⟨FZ.b,_,by rw [HI.out];rfl,?_⟩
  rw [HNO.out]
  exact Qi _ _ _
 have HW:=hid hw
 have HS2:=hid (HST.out.trans (if_neg (by simp [hw])))
 rw [hw]
 clear hw HST
 go_upto_region 8 with fail
 refine F.box ?_
 intro w2 F2 hs2 hb2
 clear hs2 hb2 F
 have k5:=F2.r0.k10.2.2.2.2.2.1
 by_cases h0:i<0
 case pos =>
  have e0:decide (i<0)=true:=by simpa using h0
  have HE:=hid (HS2.out.trans (if_pos (.inl h0)))
  clear h0
  have HI:=hid (show QU s i 3 z=6 from HD.out.trans ((if_pos (by rw [HE.out];decide)).trans (HE.out)))
  have HNO:=hid (show Q4 s i 3 z 4=St.none by rw [HSS.out,HI.out];exact if_neg (by decide))
  go_wp2_with fail
  refine (Qz _ _).mono ?_
  rintro x wn ⟨rfl,hbn⟩
  have FN:=F2.go hbn
  clear hbn
  go_wp2_with (refine FN.store 2 rfl rfl rfl rfl rfl Qb rfl (by simp [Value.oneCell']) ?_;intro wz FZ OZ)
  refine Qr Tryz.results6 rfl FZ.r2 Qb rfl ⟨FZ.b,_,by rw [HI.out];rfl,?_⟩
  rw [HNO.out]
  exact Qi _ _ _
 have e0:decide (i<0)=false:=by simpa using h0
 by_cases h1:(s.chans.length:Int)≤i
 case pos =>
  have e1:decide ((s.chans.length:Int)≤i)=true:=by simpa using h1
  have HE:=hid (HS2.out.trans (if_pos (.inr h1)))
  clear h0
  have HI:=hid (show QU s i 3 z=6 from HD.out.trans ((if_pos (by rw [HE.out];decide)).trans (HE.out)))
  have HNO:=hid (show Q4 s i 3 z 4=St.none by rw [HSS.out,HI.out];exact if_neg (by decide))
  go_wp2_with fail
  refine (Qz _ _).mono ?_
  rintro x wn ⟨rfl,hbn⟩
  have FN:=F2.go hbn
  clear hbn
  go_wp2_with (refine FN.store 2 rfl rfl rfl rfl rfl Qb rfl (by simp [Value.oneCell']) ?_;intro wz FZ OZ)
  refine Qr Tryz.results6 rfl FZ.r2 Qb rfl ⟨FZ.b,_,by rw [HI.out];rfl,?_⟩
  rw [HNO.out]
  exact Qi _ _ _
 have e1:decide ((s.chans.length:Int)≤i)=false:=by simpa using h1
 have HS3:=hid (HS2.out.trans (if_neg (by omega)))
 clear HS2
 obtain ⟨k,rfl⟩:∃ k:Nat,i=(k:Int):=⟨i.toNat,by omega⟩
 have hlt:(k:Int)<(s.chans.length:Int):=by omega
 obtain ⟨x,hx⟩:∃ x,s.chans[k]?=some x:=⟨_,List.getElem?_eq_getElem (by omega)⟩
 have HX:=hid hx
 rw [Yk hx] at HS3 HSS HD HZ
 clear hx h0 h1
 obtain ⟨b,f,rfl,hb,x0,x1,x2,x3,x4,x5,x6⟩:=(HM.out.below (F2.b.mono hN)).chans.chan rfl HX.out
 go_upto_region 11 with (refine F2.store 3 rfl rfl rfl rfl rfl Qaq rfl (by simp [Value.oneCell']) ?_;intro w3 F3 O3)
 clear x0 x1 x2 x3 x4 x5 x6 k5 hb O3 F2
 obtain ⟨m1,m2,m3,m4,m5,r0,r1,r2,r3,r4,hb5,l0,l1,l2,l3⟩:=QaX w3
 have F4:=F3.go hb5
 clear hb5
 have a0:=F3.r3.k7.1
 by_cases h2:x.state=3
 case neg =>
  have e2:(x.state != 3)=true:=by simpa using h2
  have HE:=hid (HS3.out.trans (if_pos h2))
  clear h2
  have HI:=hid (show QU s (k:Int) 3 z=12 from HD.out.trans ((if_pos (by rw [HE.out];decide)).trans (HE.out)))
  have HNO:=hid (show Q4 s (k:Int) 3 z 4=St.none by rw [HSS.out,HI.out];exact if_neg (by decide))
  go_wp2_with fail
  refine (Qz _ _).mono ?_
  rintro x wn ⟨rfl,hbn⟩
  have FN:=F4.go hbn
  clear hbn
  go_wp2_with (refine FN.store 2 rfl rfl rfl rfl rfl Qb rfl (by simp [Value.oneCell']) ?_;intro wz FZ OZ)
  refine Qr Tryz.results6 rfl FZ.r2 Qb rfl ⟨FZ.b,_,by rw [HI.out];rfl,?_⟩
  rw [HNO.out]
  exact Qi _ _ _
 have e2:(x.state != 3)=false:=by simpa using h2
 have HS4:=hid (HS3.out.trans (if_neg (by simp [h2])))
 clear h2 HS3
 go_upto_region 13 with fail
 refine QgM (hid F4.r3) _ (hid ?_)
 intro σ w5 hb5 ea eb
 have F5:=F4.go hb5
 rw [ea,eb]
 clear hb5 ea eb a0 r0 r1 r2 r3 r4 l0 l1 l2 l3 F3 F4
 have a3:=F5.r3.k7.2.2.2.1
 obtain ⟨k0,k1,k2,k3,k4,k5,k6,k7,k8,k9⟩:=F5.r0.k10
 go_wp2_with fail
 refine (HOV.out HW.out x.conn _ F5.b).mono ?_
 rintro e w6 ⟨hb6,y,rfl,hy⟩
 have F6:=F5.go hb6
 have HY:=hid hy
 clear hb6 k0 k1 k2 k3 k4 k5 k6 k7 k8 k9 a3 hy F5
 go_upto_region 17 with fail
 refine F6.box ?_
 intro w7 F7 hs7 hb7
 clear hs7 hb7 F6
 by_cases ho:QI s x.conn=0
 case neg =>
  have e3:(QI s x.conn != 0)=true:=by simpa using ho
  have HE:=hid HS4.out
  have HI:=hid (show QU s (k:Int) 3 z=QI s x.conn from HD.out.trans ((if_pos (by rw [HE.out];exact ho)).trans (HE.out)))
  have HNO:=hid (show Q4 s (k:Int) 3 z 4=St.none by rw [HSS.out,HI.out];exact if_neg (ho))
  clear ho
  generalize QI s x.conn=zz at *
  go_wp2_with fail
  refine (Qz _ _).mono ?_
  rintro x wn ⟨rfl,hbn⟩
  have FN:=F7.go hbn
  clear hbn
  go_wp2_with (refine FN.store 2 rfl rfl rfl rfl rfl Qb rfl (by simp [Value.oneCell']) ?_;intro wz FZ OZ)
  refine Qr Tryz.results6 rfl FZ.r2 Qb rfl ⟨FZ.b,_,by rw [HI.out];rfl,?_⟩
  rw [HNO.out]
  exact Qi _ _ _
 have HO:=hid ho
 have HE:=hid (HS4.out.trans ho)
 rw [ho]
 have hyc:=HY.out ho
 have hok:=Y0 ho
 clear ho HY HS4
 have HD2:=hid (HD.out.trans (if_neg (by rw [HE.out];simp)))
 have HYC:=hid hyc
 have HOK:=hid hok
 clear hyc hok
 by_cases hq0:x.ochan<0
 case pos =>
  have e4:decide (x.ochan<0)=true:=by simpa using hq0
  have HI0:=hid (HD2.out.trans (if_pos hq0))
  clear hq0
  have HI:=hid (show QU s (k:Int) 3 z=8 from HI0.out)
  have HNO:=hid (show Q4 s (k:Int) 3 z 4=St.none by rw [HSS.out,HI.out];exact if_neg (by decide))
  go_wp2_with fail
  refine (Qz _ _).mono ?_
  rintro x wn ⟨rfl,hbn⟩
  have FN:=F7.go hbn
  clear hbn
  go_wp2_with (refine FN.store 2 rfl rfl rfl rfl rfl Qb rfl (by simp [Value.oneCell']) ?_;intro wz FZ OZ)
  refine Qr Tryz.results6 rfl FZ.r2 Qb rfl ⟨FZ.b,_,by rw [HI.out];rfl,?_⟩
  rw [HNO.out]
  exact Qi _ _ _
 have e4:decide (x.ochan<0)=false:=by simpa using hq0
 have HD3:=hid (HD2.out.trans (if_neg hq0))
 have HFQ:=hid (show 0≤x.ochan∧x.ochan≤1000000000000 from ⟨by omega,(Qbn ((YD HW.out).chans x (List.mem_of_getElem? HX.out))).2.2.1.2⟩)
 clear hq0 HD2
 have hbd:=ZK HW.out HO.out
 rw [← HYC.out] at hbd
 have hbk : -1≤(k:Int)∧(k:Int)≤1000000000000:=by have:=(QD HW.out).2.2.1;omega
 have HOB:=hid (show (1≤(4:Int)∧(4:Int)≤4)∧(0≤y.oconn∧y.oconn≤1000000000000)∧(-1≤(k:Int)∧(k:Int)≤1000000000000) from ⟨⟨by decide,by decide⟩,hbd.1,hbk⟩)
 have HCL:=hid hbd.2
 have HMZ:=hid (show JB s y.client h (Zd Yy [(x.ochan).toNat]) (JC ⟨4,x.ordered,y.oconn,(k:Int),0,0,0⟩) z by rw [HYC.out];exact HZ.out)
 clear hbd hbk
 go_upto_region 24 with fail
 obtain ⟨m1,m2,m3,m4,m5,r0,r1,r2,r3,r4,hb5,l0,l1,l2,l3⟩:=QbF w7
 have F9:=F7.go hb5
 have y3:=F9.r4.k4.2.2.2
 clear hb5
 go_upto_region 25 with fail
 refine F9.box ?_
 intro w10 F10 hs10 hb10
 clear hs10 hb10 y3 r0 r1 r2 r3 r4 l0 l1 l2 l3 F9
 go_upto_region 27 with fail
 have F11:=F10
 clear F10
 refine QgN (hid F11.r0) (hid F11.r4) (hid F11.r5) (hid F11.r1) (key:=Zd Yy [(x.ochan).toNat]) (val:=JC ⟨4,x.ordered,y.oconn,(k:Int),0,0,0⟩) (z:=z) (fun W hW r hr=>ZL ⟨#[99,104,97,110]⟩ [x.ochan] r 1 W (by decide) hr rfl (by decide) (fun n hn=>by have:=HFQ.out;simp at hn;omega)) (fun W hW=>Qal ⟨4,x.ordered,y.oconn,(k:Int),0,0,0⟩ HOB.out W) (fun W kv vv hW h4 h5=>HTH.out W (F11.go hW).b y.client z kv vv _ _ h4 h5 HCL.out (Yv _ HFQ.out) (Yw _ HOB.out) HMZ.out) _ (hid ?_)
 intro σ27 w12 hb12 ea
 have F12:=F11.go hb12
 rw [ea]
 clear hb12 ea F11 HTH HMZ
 by_cases hz0:z=0
 case neg =>
  have e5:(z != 0)=true:=by simpa using hz0
  have HI0:=hid (HD3.out)
  have HI:=hid (show QU s (k:Int) 3 z=z from HI0.out)
  have HNO:=hid (show Q4 s (k:Int) 3 z 4=St.none by rw [HSS.out,HI.out];exact if_neg (hz0))
  clear hz0
  go_wp2_with fail
  refine (Qz _ _).mono ?_
  rintro x wn ⟨rfl,hbn⟩
  have FN:=F12.go hbn
  clear hbn
  go_wp2_with (refine FN.store 2 rfl rfl rfl rfl rfl Qb rfl (by simp [Value.oneCell']) ?_;intro wz FZ OZ)
  refine Qr Tryz.results6 rfl FZ.r2 Qb rfl ⟨FZ.b,_,by rw [HI.out];rfl,?_⟩
  rw [HNO.out]
  exact Qi _ _ _
 subst hz0
 have HI:=hid HD3.out
 clear HD3
 obtain ⟨k0,k1,k2,k3,k4,k5,k6,k7,k8,k9⟩:=F12.r0.k10
 go_wp2_with fail
 refine (HCP.out HW.out _ F12.b).mono ?_
 rintro e w13 ⟨hb13,p1,d1,p2,d2,p3,d3,p4,d4,p5,d5,p6,d6,p7,d7,rfl,hown⟩
 have F13:=F12.go hb13
 have HOW:=hid hown
 have hsz13:=hb13.size
 clear hb13 k0 k1 k2 k3 k4 k5 k6 k7 k8 k9 hown
 go_upto_region 31 with (refine F13.storeNew rfl rfl rfl rfl Qb rfl (by simp [Value.oneCell']) ?_;intro w14 F14 hb14)
 have HB14:=hid hb14
 clear hb14
 have ho14:=HOW.out.below HB14.out
 obtain ⟨g,hge,hgb,hgl,-,-⟩:=Qs.at HOW.out.chans (r:=Qh x) (i:=k) (by rw [List.getElem?_map,HX.out];rfl)
 subst hge
 have HRS:=hid (show (s.chans.map Qh)[k]?=some (Qh x) by rw [List.getElem?_map,HX.out];rfl)
 go_upto_region 39 with fail
 refine QgO (by omega) HRS.out hlt F14.r6 ho14.chans _ (hid ?_)
 intro σ39 w15 O15 hT
 have F15:=F14.grown O15.grows (fun b e=>by obtain rfl:=Option.some.inj e;exact Nat.le_trans F12.b.size hgb) (F12.awayR (r:=some g) (hi:=w13.heap.size) (fun b e=>by obtain rfl:=Option.some.inj e;exact ⟨hgb,hgl⟩) (l1:=[w13.heap.size]) (by simp))
 have hrow:QV 54 Qh 7 w15 w12.heap.size (.slice (some ⟨g,0,none⟩) s.chans.length d3) (s.chans.set k (x.turned 3 (x.ochan))):=by
  have h1:Qs 54 7 w15 w12.heap.size (.slice (some ⟨g,0,none⟩) s.chans.length d3) ((s.chans.map Qh).set k (Qh (x.turned 3 (x.ochan)))):=hT
  rw [← List.map_set] at h1
  exact h1
 have ho15:=ho14.putChans O15.grows hrow (fun b e=>.inl e)
 have hgr:=F12.r2.lt
 obtain ⟨g',hge,-,-,hcc,hfz⟩:=Qs.at hrow (r:=Qh (x.turned 3 (x.ochan))) (i:=k) (by rw [List.getElem?_map,List.getElem?_set_self (List.getElem?_eq_some_iff.1 HX.out).1];rfl)
 obtain rfl:g=g':=by simpa using hge
 have f0:=hcc 0 _ rfl
 have z0:=hfz (k*7)
 simp only [Nat.add_zero] at f0
 have hrow2:QV 54 Qh 7 (w15.setCell ⟨g,k*7,none⟩ (.int .i64 4)) w12.heap.size (.slice (some ⟨g,0,none⟩) s.chans.length d3) (s.chans.set k (x.turned 4 (x.ochan))):=by
  have h1:=Qs.putCell hrow (i:=k) (j:=0) (x:=.int .i64 4) (r:=Qh (x.turned 3 (x.ochan))) (by rw [List.getElem?_map,List.getElem?_set_self (List.getElem?_eq_some_iff.1 HX.out).1];rfl) (by decide) rfl
  have h2:((s.chans.set k (x.turned 3 (x.ochan))).map Qh).set k ((Qh (x.turned 3 (x.ochan))).set 0 (.int .i64 4))=(s.chans.set k (x.turned 4 (x.ochan))).map Qh:=by
   rw [List.map_set,List.set_set,List.map_set]
   rfl
  rw [h2] at h1
  exact h1
 have hg2:=((JL.refl g w15).cell (k*7) (.int .i64 4)).grows
 have ho16:=ho15.putChans hg2 hrow2 (fun b e=>.inl e)
 simp only at ho16
 have F16:=F15.grown hg2 (fun b e=>by obtain rfl:=Option.some.inj e;exact Nat.le_trans F12.b.size hgb) (F12.awayR (r:=some g) (hi:=w13.heap.size) (fun b e=>by obtain rfl:=Option.some.inj e;exact ⟨hgb,hgl⟩) (l1:=[w13.heap.size]) (by simp))
 have k5:=F15.r6.k10.2.2.2.2.2.1
 obtain ⟨w16,hw16⟩:∃ w16,w15.setCell ⟨g,k*7,none⟩ (.int .i64 4)=w16:=⟨_,rfl⟩
 rw [hw16] at F16 ho16
 have HO16:=hid ho16
 have HW16:=hid hw16
 clear hw16 ho16 ho15 ho14 hrow hrow2 hg2 hT hcc hfz hge O15
 go_upto_region 42 with fail
 refine QcH HW16.out ?_
 clear f0 z0 k5 F15
 obtain ⟨k0,k1,k2,k3,k4,k5,k6,k7,k8,k9⟩:=F16.r6.k10
 go_wp2_with (refine F16.store 2 rfl rfl rfl rfl rfl Qb rfl (by simp [Value.oneCell']) ?_;intro w17 F17 O17)
 refine Qr Tryz.results6 rfl F17.r2 Qb rfl ⟨F17.b,_,by rw [HI.out];rfl,?_⟩
 rw [HSS.out,HI.out]
 exact ((HO16.out.only O17 (by omega) hgr).lower (base':=w.heap.size) F12.b.size).holds
end Go.Proofs.YtbgdpfeobklnhaaGreatDoor
