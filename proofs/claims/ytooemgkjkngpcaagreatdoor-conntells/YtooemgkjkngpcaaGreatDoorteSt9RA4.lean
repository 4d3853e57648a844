/-
  The document's Connect: St9RA4.
-/
import Derived.Test.YtooemgkjkngpcaaGreatDoorteSt9RNo
import Derived.Test.YtooemgkjkngpcaaGreatDoorteSt9RT2
import Derived.Test.YtooemgkjkngpcaaGreatDoorteSt8RWrong
import Derived.Test.YtooemgkjkngpcaaGreatDoorteCoOpened
namespace Go.Proofs.YtooemgkjkngpcaaGreatDoor
set_option maxRecDepth 1000000
set_option maxHeartbeats 8000000
open Go.RowKit
theorem Qiq (s:St) (v hv2:Value) (N:Nat) (w:World) (i c o q:Int) (h:Sh) (hv:StV w N v s) (hh:ShV w N hv2 h) (hN:N≤w.heap.size) (hfit:s.fits) (hw:Qm s=0) (hi:i<0) :
  Calls Tryz.prog 16 #[.int .u8 97,v,.int .i64 i,.int .i64 c,.int .i64 o,.int .i64 q,hv2] w fun e w'=>Below w.heap.size w w'∧∃ v',e=.returned (.tuple #[v',.int .i64 (0),.int .i64 (6)])∧Qn N w.heap.size w' v' (St.none):=by
 have HWR:=hid (fun wx (hx:Below w.heap.size w wx)=>Qv s v N wx (hv.below (hx.mono hN)) (Nat.le_trans hN hx.size) hfit)
 have eneg:decide (i<0)=true:=by simpa using hi
 obtain ⟨o1,c1,o2,c2,o3,c3,o4,c4,o5,c5,o6,c6,o7,c7,rfl,hm⟩:=hv.open
 obtain ⟨q1,e1,q2,e2,q3,e3,r1,s1,r2,s2,r3,s3,r4,s4,r5,s5,r6,s6,rfl,-⟩:=hh.open
 obtain ⟨w0,hw0,hb0,HA0,HH0,HZ0,hsz0,RA,RH,RZ,RB,HD0,HIZ⟩:=QK w s h o1 o2 o3 o4 o5 o6 o7 c1 c2 c3 c4 c5 c6 c7 q1 e1 q2 e2 q3 e3 r1 s1 r2 s2 r3 s3 r4 s4 r5 s5 r6 s6
 have HB0:=hid hb0
 obtain ⟨k0,k1,k2,k3,k4,k5,k6,k7,k8,k9⟩:=HA0.out.c10
 have HW0:=hid hw0
 clear hv hm hh hfit hb0 hw0
 go_enter Tryz.func16,Tryz.ntmps16
 go_upto_region 2 with fail
 rw [HW0.out]
 go_wp2_with fail
 refine (HWR.out _ HB0.out).mono ?_
 rintro e w1 ⟨rfl,hb1⟩
 have HD1:=hgo HD0 hb1
 have hsz1:=hb1.size
 clear hb1
 clear k0 k1 k2 k3 k4 k5 k6 k7 k8 k9
 rw [hw]
 obtain ⟨w2,hw2⟩:∃ w2,w1.alloc (.cells #[.int .i64 0,.int .i64 0,.int .i64 0,.int .i64 0] 58)=w2:=⟨_,rfl⟩
 have hbw2:=bof hw2
 have HD2:=hgo HD1 hbw2
 have HX2:=hid (Q7 hw2)
 have hsz2:=hbw2.size
 have HW2:=hid hw2
 clear hbw2 hw2
 have hltX:w1.heap.size<w2.heap.size:=HX2.out.lt
 go_upto_region 7 with fail
 rw [HW2.out]
 have k4:w2.cell? ⟨w.heap.size,4,none⟩=some (.slice o2 s.conns.length c2):=(RA.out _ HD2.out).cell 4
 go_upto_region 8 with fail
 clear k4
 go_wp2_with fail
 refine (Jz _ _).mono ?_
 rintro x wn ⟨rfl,hbn⟩
 obtain ⟨wz,HHZz,HSWz,HBz,y0,y1,y2,y3,y4,y5,y6,y7,y8,y9⟩:=Q8 HB0.out (HD2.out.trans (hbn.mono HD2.out.size)) HZ0.out
 clear hbn
 go_wp2_with (refine Qf rfl (.tmp 14) (.tmp 53) rfl rfl rfl HHZz.out HIZ.out rfl ZT HSWz.out ?_)
 refine bodyPost_ret (v:=.tuple #[.agg zA,.int .i64 0,.int .i64 6]) (by simp [zA,results,Tryz.results16,go_sem,y0,y1,y2,y3,y4,y5,y6,y7,y8,y9]) rfl ⟨HBz.out,_,rfl,?_⟩
 exact Qp _ _ _
theorem QiQ (s:St) (v hv2:Value) (N:Nat) (w:World) (i c o q:Int) (h:Sh) (hv:StV w N v s) (hh:ShV w N hv2 h) (hN:N≤w.heap.size) (hfit:s.fits) (hw:Qm s=0) (hi:0≤i∧(s.conns.length:Int)≤i) :
  Calls Tryz.prog 16 #[.int .u8 97,v,.int .i64 i,.int .i64 c,.int .i64 o,.int .i64 q,hv2] w fun e w'=>Below w.heap.size w w'∧∃ v',e=.returned (.tuple #[v',.int .i64 (0),.int .i64 (6)])∧Qn N w.heap.size w' v' (St.none):=by
 have HWR:=hid (fun wx (hx:Below w.heap.size w wx)=>Qv s v N wx (hv.below (hx.mono hN)) (Nat.le_trans hN hx.size) hfit)
 have eneg:decide (i<0)=false:=decide_eq_false (by omega)
 have efar:decide ((s.conns.length:Int)≤i)=true:=decide_eq_true (by omega)
 obtain ⟨o1,c1,o2,c2,o3,c3,o4,c4,o5,c5,o6,c6,o7,c7,rfl,hm⟩:=hv.open
 obtain ⟨q1,e1,q2,e2,q3,e3,r1,s1,r2,s2,r3,s3,r4,s4,r5,s5,r6,s6,rfl,-⟩:=hh.open
 obtain ⟨w0,hw0,hb0,HA0,HH0,HZ0,hsz0,RA,RH,RZ,RB,HD0,HIZ⟩:=QK w s h o1 o2 o3 o4 o5 o6 o7 c1 c2 c3 c4 c5 c6 c7 q1 e1 q2 e2 q3 e3 r1 s1 r2 s2 r3 s3 r4 s4 r5 s5 r6 s6
 have HB0:=hid hb0
 obtain ⟨k0,k1,k2,k3,k4,k5,k6,k7,k8,k9⟩:=HA0.out.c10
 have HW0:=hid hw0
 clear hv hm hh hfit hb0 hw0
 go_enter Tryz.func16,Tryz.ntmps16
 go_upto_region 2 with fail
 rw [HW0.out]
 go_wp2_with fail
 refine (HWR.out _ HB0.out).mono ?_
 rintro e w1 ⟨rfl,hb1⟩
 have HD1:=hgo HD0 hb1
 have hsz1:=hb1.size
 clear hb1
 clear k0 k1 k2 k3 k4 k5 k6 k7 k8 k9
 rw [hw]
 obtain ⟨w2,hw2⟩:∃ w2,w1.alloc (.cells #[.int .i64 0,.int .i64 0,.int .i64 0,.int .i64 0] 58)=w2:=⟨_,rfl⟩
 have hbw2:=bof hw2
 have HD2:=hgo HD1 hbw2
 have HX2:=hid (Q7 hw2)
 have hsz2:=hbw2.size
 have HW2:=hid hw2
 clear hbw2 hw2
 have hltX:w1.heap.size<w2.heap.size:=HX2.out.lt
 go_upto_region 7 with fail
 rw [HW2.out]
 have k4:w2.cell? ⟨w.heap.size,4,none⟩=some (.slice o2 s.conns.length c2):=(RA.out _ HD2.out).cell 4
 go_upto_region 8 with fail
 clear k4
 go_wp2_with fail
 refine (Jz _ _).mono ?_
 rintro x wn ⟨rfl,hbn⟩
 obtain ⟨wz,HHZz,HSWz,HBz,y0,y1,y2,y3,y4,y5,y6,y7,y8,y9⟩:=Q8 HB0.out (HD2.out.trans (hbn.mono HD2.out.size)) HZ0.out
 clear hbn
 go_wp2_with (refine Qf rfl (.tmp 14) (.tmp 53) rfl rfl rfl HHZz.out HIZ.out rfl ZT HSWz.out ?_)
 refine bodyPost_ret (v:=.tuple #[.agg zA,.int .i64 0,.int .i64 6]) (by simp [zA,results,Tryz.results16,go_sem,y0,y1,y2,y3,y4,y5,y6,y7,y8,y9]) rfl ⟨HBz.out,_,rfl,?_⟩
 exact Qp _ _ _
theorem QfD (s:St) (v hv2:Value) (N:Nat) (w:World) (i c o q:Int) (h:Sh) (hv:StV w N v s) (hh:ShV w N hv2 h) (hN:N≤w.heap.size) (hfit:s.fits) (k:Nat) (x:Cn) (hik:i=(k:Int)) (hx:s.conns[k]?=some x) (hw:Qm s=0) (hst:x.state≠1) :
  Calls Tryz.prog 16 #[.int .u8 97,v,.int .i64 i,.int .i64 c,.int .i64 o,.int .i64 q,hv2] w fun e w'=>Below w.heap.size w w'∧∃ v',e=.returned (.tuple #[v',.int .i64 (0),.int .i64 (12)])∧Qn N w.heap.size w' v' (St.none):=by
 have HWR:=hid (fun wx (hx:Below w.heap.size w wx)=>Qv s v N wx (hv.below (hx.mono hN)) (Nat.le_trans hN hx.size) hfit)
 subst hik
 have HSTT:=hid hst
 clear hst
 obtain ⟨o1,c1,o2,c2,o3,c3,o4,c4,o5,c5,o6,c6,o7,c7,rfl,hm⟩:=hv.open
 obtain ⟨q1,e1,q2,e2,q3,e3,r1,s1,r2,s2,r3,s3,r4,s4,r5,s5,r6,s6,rfl,-⟩:=hh.open
 obtain ⟨w0,hw0,hb0,HA0,HH0,HZ0,hsz0,RA,RH,RZ,RB,HD0,HIZ⟩:=QK w s h o1 o2 o3 o4 o5 o6 o7 c1 c2 c3 c4 c5 c6 c7 q1 e1 q2 e2 q3 e3 r1 s1 r2 s2 r3 s3 r4 s4 r5 s5 r6 s6
 have HB0:=hid hb0
 have HMM:=hid (show ∀ wx,Below w.heap.size w wx→JS wx N s (.slice o1 s.clients.length c1) (.slice o2 s.conns.length c2) (.slice o3 s.chans.length c3) (.slice o4 s.sent.length c4) (.slice o5 s.got.length c5) (.slice o6 s.acks.length c6) (.slice o7 s.purses.length c7) from fun wx hx=>hm.below (hx.mono hN))
 obtain ⟨k0,k1,k2,k3,k4,k5,k6,k7,k8,k9⟩:=HA0.out.c10
 have HW0:=hid hw0
 clear hv hm hh hfit hb0 hw0
 go_enter Tryz.func16,Tryz.ntmps16
 go_upto_region 2 with fail
 rw [HW0.out]
 go_wp2_with fail
 refine (HWR.out _ HB0.out).mono ?_
 rintro e w1 ⟨rfl,hb1⟩
 have HD1:=hgo HD0 hb1
 have hsz1:=hb1.size
 clear hb1
 clear k0 k1 k2 k3 k4 k5 k6 k7 k8 k9
 rw [hw]
 obtain ⟨w2,hw2⟩:∃ w2,w1.alloc (.cells #[.int .i64 0,.int .i64 0,.int .i64 0,.int .i64 0] 58)=w2:=⟨_,rfl⟩
 have hbw2:=bof hw2
 have HD2:=hgo HD1 hbw2
 have HX2:=hid (Q7 hw2)
 have hsz2:=hbw2.size
 have HW2:=hid hw2
 clear hbw2 hw2
 have hltX:w1.heap.size<w2.heap.size:=HX2.out.lt
 go_upto_region 7 with fail
 rw [HW2.out]
 have k4:w2.cell? ⟨w.heap.size,4,none⟩=some (.slice o2 s.conns.length c2):=(RA.out _ HD2.out).cell 4
 have hkl2:k<s.conns.length:=(List.getElem?_eq_some_iff.1 hx).1
 have eneg:decide ((k:Int)<0)=false:=decide_eq_false (by omega)
 have efar:decide ((s.conns.length:Int)≤(k:Int))=false:=decide_eq_false (by omega)
 have hlt':(k:Int)<(s.conns.length:Int):=by omega
 obtain ⟨b,f,hof,gx⟩:=(HMM.out _ (RB.out _ HD2.out)).conns.spot (by omega)
 obtain ⟨hbN,r,hr,cx⟩:=gx k x hx
 subst hr
 have x0:=cx 0 _ rfl
 have x1:=cx 1 _ rfl
 have x2:=cx 2 _ rfl
 have x3:=cx 3 _ rfl
 simp only [Nat.add_zero] at x0
 have k4x:w2.cell? ⟨w.heap.size,4,none⟩=some (.slice (some ⟨b,f,none⟩) s.conns.length c2):=by rw [← hof];exact k4
 have HOF2:=hid hof
 clear k4 gx cx hof
 obtain ⟨m0,m1,m2,m3⟩:=HX2.out.c4
 obtain ⟨zm0,zm1,zm2,zm3⟩:=HX2.out.z4
 obtain ⟨wx,hwx,howx,HXx,hszx,hbb⟩:=YT HX2.out (.int .i64 x.state) (.int .i64 x.client) (.int .i64 x.oclient) (.int .i64 x.oconn)
 have HDx:=hid (hbb _ _ HD2.out (by omega))
 clear hbb
 have HWx:=hid hwx
 clear hwx howx
 go_upto_region 10 with fail
 rw [HWx.out]
 clear x0 x1 x2 x3 k4x m0 m1 m2 m3 zm0 zm1 zm2 zm3 eneg efar
 have x0:wx.cell? ⟨w1.heap.size,0,none⟩=some (.int .i64 x.state):=HXx.out.cell 0
 have x1:wx.cell? ⟨w1.heap.size,1,none⟩=some (.int .i64 x.client):=HXx.out.cell 1
 have es:(x.state != 1)=true:=by simpa using HSTT.out
 go_upto_region 11 with fail
 clear x0 x1 es
 go_wp2_with fail
 refine (Jz _ _).mono ?_
 rintro x wn ⟨rfl,hbn⟩
 obtain ⟨wz,HHZz,HSWz,HBz,y0,y1,y2,y3,y4,y5,y6,y7,y8,y9⟩:=Q8 HB0.out (HDx.out.trans (hbn.mono HDx.out.size)) HZ0.out
 clear hbn
 go_wp2_with (refine Qf rfl (.tmp 14) (.tmp 79) rfl rfl rfl HHZz.out HIZ.out rfl ZT HSWz.out ?_)
 refine bodyPost_ret (v:=.tuple #[.agg zA,.int .i64 0,.int .i64 12]) (by simp [zA,results,Tryz.results16,go_sem,y0,y1,y2,y3,y4,y5,y6,y7,y8,y9]) rfl ⟨HBz.out,_,rfl,?_⟩
 exact Qp _ _ _
theorem QhL (s:St) (v hv2:Value) (N:Nat) (w:World) (i c o q:Int) (h:Sh) (hv:StV w N v s) (hh:ShV w N hv2 h) (hN:N≤w.heap.size) (hfit:s.fits) (k:Nat) (x:Cn) (hik:i=(k:Int)) (hx:s.conns[k]?=some x) (hw:Qm s=0) (hst:x.state=1) (hl:QA s x.client≠0) :
  Calls Tryz.prog 16 #[.int .u8 97,v,.int .i64 i,.int .i64 c,.int .i64 o,.int .i64 q,hv2] w fun e w'=>Below w.heap.size w w'∧∃ v',e=.returned (.tuple #[v',.int .i64 (0),.int .i64 (QA s x.client)])∧Qn N w.heap.size w' v' (St.none):=by
 have HWR:=hid (fun wx (hx:Below w.heap.size w wx)=>Qv s v N wx (hv.below (hx.mono hN)) (Nat.le_trans hN hx.size) hfit)
 have HLV:=hid (fun wx (hx:Below w.heap.size w wx)=>Q4 s v N wx x.client (hv.below (hx.mono hN)) (Nat.le_trans hN hx.size) hw)
 subst hik
 have HSTT:=hid hst
 clear hst
 obtain ⟨o1,c1,o2,c2,o3,c3,o4,c4,o5,c5,o6,c6,o7,c7,rfl,hm⟩:=hv.open
 obtain ⟨q1,e1,q2,e2,q3,e3,r1,s1,r2,s2,r3,s3,r4,s4,r5,s5,r6,s6,rfl,-⟩:=hh.open
 obtain ⟨w0,hw0,hb0,HA0,HH0,HZ0,hsz0,RA,RH,RZ,RB,HD0,HIZ⟩:=QK w s h o1 o2 o3 o4 o5 o6 o7 c1 c2 c3 c4 c5 c6 c7 q1 e1 q2 e2 q3 e3 r1 s1 r2 s2 r3 s3 r4 s4 r5 s5 r6 s6
 have HB0:=hid hb0
 have HMM:=hid (show ∀ wx,Below w.heap.size w wx→JS wx N s (.slice o1 s.clients.length c1) (.slice o2 s.conns.length c2) (.slice o3 s.chans.length c3) (.slice o4 s.sent.length c4) (.slice o5 s.got.length c5) (.slice o6 s.acks.length c6) (.slice o7 s.purses.length c7) from fun wx hx=>hm.below (hx.mono hN))
 obtain ⟨k0,k1,k2,k3,k4,k5,k6,k7,k8,k9⟩:=HA0.out.c10
 have HW0:=hid hw0
 clear hv hm hh hfit hb0 hw0
 go_enter Tryz.func16,Tryz.ntmps16
 go_upto_region 2 with fail
 rw [HW0.out]
 go_wp2_with fail
 refine (HWR.out _ HB0.out).mono ?_
 rintro e w1 ⟨rfl,hb1⟩
 have HD1:=hgo HD0 hb1
 have hsz1:=hb1.size
 clear hb1
 clear k0 k1 k2 k3 k4 k5 k6 k7 k8 k9
 rw [hw]
 obtain ⟨w2,hw2⟩:∃ w2,w1.alloc (.cells #[.int .i64 0,.int .i64 0,.int .i64 0,.int .i64 0] 58)=w2:=⟨_,rfl⟩
 have hbw2:=bof hw2
 have HD2:=hgo HD1 hbw2
 have HX2:=hid (Q7 hw2)
 have hsz2:=hbw2.size
 have HW2:=hid hw2
 clear hbw2 hw2
 have hltX:w1.heap.size<w2.heap.size:=HX2.out.lt
 go_upto_region 7 with fail
 rw [HW2.out]
 have k4:w2.cell? ⟨w.heap.size,4,none⟩=some (.slice o2 s.conns.length c2):=(RA.out _ HD2.out).cell 4
 have hkl2:k<s.conns.length:=(List.getElem?_eq_some_iff.1 hx).1
 have eneg:decide ((k:Int)<0)=false:=decide_eq_false (by omega)
 have efar:decide ((s.conns.length:Int)≤(k:Int))=false:=decide_eq_false (by omega)
 have hlt':(k:Int)<(s.conns.length:Int):=by omega
 obtain ⟨b,f,hof,gx⟩:=(HMM.out _ (RB.out _ HD2.out)).conns.spot (by omega)
 obtain ⟨hbN,r,hr,cx⟩:=gx k x hx
 subst hr
 have x0:=cx 0 _ rfl
 have x1:=cx 1 _ rfl
 have x2:=cx 2 _ rfl
 have x3:=cx 3 _ rfl
 simp only [Nat.add_zero] at x0
 have k4x:w2.cell? ⟨w.heap.size,4,none⟩=some (.slice (some ⟨b,f,none⟩) s.conns.length c2):=by rw [← hof];exact k4
 have HOF2:=hid hof
 clear k4 gx cx hof
 obtain ⟨m0,m1,m2,m3⟩:=HX2.out.c4
 obtain ⟨zm0,zm1,zm2,zm3⟩:=HX2.out.z4
 obtain ⟨wx,hwx,howx,HXx,hszx,hbb⟩:=YT HX2.out (.int .i64 x.state) (.int .i64 x.client) (.int .i64 x.oclient) (.int .i64 x.oconn)
 have HDx:=hid (hbb _ _ HD2.out (by omega))
 clear hbb
 have HWx:=hid hwx
 clear hwx howx
 go_upto_region 10 with fail
 rw [HWx.out]
 clear x0 x1 x2 x3 k4x m0 m1 m2 m3 zm0 zm1 zm2 zm3 eneg efar
 have x0:wx.cell? ⟨w1.heap.size,0,none⟩=some (.int .i64 x.state):=HXx.out.cell 0
 have x1:wx.cell? ⟨w1.heap.size,1,none⟩=some (.int .i64 x.client):=HXx.out.cell 1
 have es:(x.state != 1)=false:=by simpa using HSTT.out
 go_upto_region 13 with fail
 clear x0 x1 es
 obtain ⟨k0,k1,k2,k3,k4,k5,k6,k7,k8,k9⟩:=(RA.out _ HDx.out).c10
 go_wp2_with fail
 refine (HLV.out _ (RB.out _ HDx.out)).mono ?_
 rintro e w3 ⟨rfl,hbw3⟩
 have HD3:=hgo HDx hbw3
 have HX3:=rgo HXx hbw3
 have hsz3:=hbw3.size
 clear hbw3
 clear k0 k1 k2 k3 k4 k5 k6 k7 k8 k9
 have e0:(QA s x.client != 0)=true:=by simpa using hl
 clear hl
 generalize hzz:QA s x.client=zz at *
 have HZZ:=hid hzz
 clear hzz
 go_wp2_with fail
 refine (Jz _ _).mono ?_
 rintro x wn ⟨rfl,hbn⟩
 obtain ⟨wz,HHZz,HSWz,HBz,y0,y1,y2,y3,y4,y5,y6,y7,y8,y9⟩:=Q8 HB0.out (HD3.out.trans (hbn.mono HD3.out.size)) HZ0.out
 clear hbn
 go_wp2_with (refine Qf rfl (.tmp 14) (.tmp 92) rfl rfl rfl HHZz.out HIZ.out rfl ZT HSWz.out ?_)
 refine bodyPost_ret (v:=.tuple #[.agg zA,.int .i64 0,.int .i64 zz]) (by simp [zA,results,Tryz.results16,go_sem,y0,y1,y2,y3,y4,y5,y6,y7,y8,y9]) rfl ⟨HBz.out,_,by rw [HZZ.out];first | done | rfl,?_⟩
 exact Qp _ _ _
theorem Qgt (s:St) (v hv2:Value) (N:Nat) (w:World) (i c o q:Int) (h:Sh) (hv:StV w N v s) (hh:ShV w N hv2 h) (hN:N≤w.heap.size) (hfit:s.fits) (k:Nat) (x:Cn) (hik:i=(k:Int)) (hx:s.conns[k]?=some x) (hw:Qm s=0) (hst:x.state=1) (hl:QA s x.client=0) (hfq:Qg 0 q=false) :
  Calls Tryz.prog 16 #[.int .u8 97,v,.int .i64 i,.int .i64 c,.int .i64 o,.int .i64 q,hv2] w fun e w'=>Below w.heap.size w w'∧∃ v',e=.returned (.tuple #[v',.int .i64 (0),.int .i64 (3)])∧Qn N w.heap.size w' v' (St.none):=by
 have HWR:=hid (fun wx (hx:Below w.heap.size w wx)=>Qv s v N wx (hv.below (hx.mono hN)) (Nat.le_trans hN hx.size) hfit)
 have HLV:=hid (fun wx (hx:Below w.heap.size w wx)=>Q4 s v N wx x.client (hv.below (hx.mono hN)) (Nat.le_trans hN hx.size) hw)
 subst hik
 have HSTT:=hid hst
 clear hst
 obtain ⟨o1,c1,o2,c2,o3,c3,o4,c4,o5,c5,o6,c6,o7,c7,rfl,hm⟩:=hv.open
 obtain ⟨q1,e1,q2,e2,q3,e3,r1,s1,r2,s2,r3,s3,r4,s4,r5,s5,r6,s6,rfl,-⟩:=hh.open
 obtain ⟨w0,hw0,hb0,HA0,HH0,HZ0,hsz0,RA,RH,RZ,RB,HD0,HIZ⟩:=QK w s h o1 o2 o3 o4 o5 o6 o7 c1 c2 c3 c4 c5 c6 c7 q1 e1 q2 e2 q3 e3 r1 s1 r2 s2 r3 s3 r4 s4 r5 s5 r6 s6
 have HB0:=hid hb0
 have HMM:=hid (show ∀ wx,Below w.heap.size w wx→JS wx N s (.slice o1 s.clients.length c1) (.slice o2 s.conns.length c2) (.slice o3 s.chans.length c3) (.slice o4 s.sent.length c4) (.slice o5 s.got.length c5) (.slice o6 s.acks.length c6) (.slice o7 s.purses.length c7) from fun wx hx=>hm.below (hx.mono hN))
 obtain ⟨k0,k1,k2,k3,k4,k5,k6,k7,k8,k9⟩:=HA0.out.c10
 have HW0:=hid hw0
 clear hv hm hh hfit hb0 hw0
 go_enter Tryz.func16,Tryz.ntmps16
 go_upto_region 2 with fail
 rw [HW0.out]
 go_wp2_with fail
 refine (HWR.out _ HB0.out).mono ?_
 rintro e w1 ⟨rfl,hb1⟩
 have HD1:=hgo HD0 hb1
 have hsz1:=hb1.size
 clear hb1
 clear k0 k1 k2 k3 k4 k5 k6 k7 k8 k9
 rw [hw]
 obtain ⟨w2,hw2⟩:∃ w2,w1.alloc (.cells #[.int .i64 0,.int .i64 0,.int .i64 0,.int .i64 0] 58)=w2:=⟨_,rfl⟩
 have hbw2:=bof hw2
 have HD2:=hgo HD1 hbw2
 have HX2:=hid (Q7 hw2)
 have hsz2:=hbw2.size
 have HW2:=hid hw2
 clear hbw2 hw2
 have hltX:w1.heap.size<w2.heap.size:=HX2.out.lt
 go_upto_region 7 with fail
 rw [HW2.out]
 have k4:w2.cell? ⟨w.heap.size,4,none⟩=some (.slice o2 s.conns.length c2):=(RA.out _ HD2.out).cell 4
 have hkl2:k<s.conns.length:=(List.getElem?_eq_some_iff.1 hx).1
 have eneg:decide ((k:Int)<0)=false:=decide_eq_false (by omega)
 have efar:decide ((s.conns.length:Int)≤(k:Int))=false:=decide_eq_false (by omega)
 have hlt':(k:Int)<(s.conns.length:Int):=by omega
 obtain ⟨b,f,hof,gx⟩:=(HMM.out _ (RB.out _ HD2.out)).conns.spot (by omega)
 obtain ⟨hbN,r,hr,cx⟩:=gx k x hx
 subst hr
 have x0:=cx 0 _ rfl
 have x1:=cx 1 _ rfl
 have x2:=cx 2 _ rfl
 have x3:=cx 3 _ rfl
 simp only [Nat.add_zero] at x0
 have k4x:w2.cell? ⟨w.heap.size,4,none⟩=some (.slice (some ⟨b,f,none⟩) s.conns.length c2):=by rw [← hof];exact k4
 have HOF2:=hid hof
 clear k4 gx cx hof
 obtain ⟨m0,m1,m2,m3⟩:=HX2.out.c4
 obtain ⟨zm0,zm1,zm2,zm3⟩:=HX2.out.z4
 obtain ⟨wx,hwx,howx,HXx,hszx,hbb⟩:=YT HX2.out (.int .i64 x.state) (.int .i64 x.client) (.int .i64 x.oclient) (.int .i64 x.oconn)
 have HDx:=hid (hbb _ _ HD2.out (by omega))
 clear hbb
 have HWx:=hid hwx
 clear hwx howx
 go_upto_region 10 with fail
 rw [HWx.out]
 clear x0 x1 x2 x3 k4x m0 m1 m2 m3 zm0 zm1 zm2 zm3 eneg efar
 have x0:wx.cell? ⟨w1.heap.size,0,none⟩=some (.int .i64 x.state):=HXx.out.cell 0
 have x1:wx.cell? ⟨w1.heap.size,1,none⟩=some (.int .i64 x.client):=HXx.out.cell 1
 have es:(x.state != 1)=false:=by simpa using HSTT.out
 go_upto_region 13 with fail
 clear x0 x1 es
 obtain ⟨k0,k1,k2,k3,k4,k5,k6,k7,k8,k9⟩:=(RA.out _ HDx.out).c10
 go_wp2_with fail
 refine (HLV.out _ (RB.out _ HDx.out)).mono ?_
 rintro e w3 ⟨rfl,hbw3⟩
 have HD3:=hgo HDx hbw3
 have HX3:=rgo HXx hbw3
 have hsz3:=hbw3.size
 clear hbw3
 clear k0 k1 k2 k3 k4 k5 k6 k7 k8 k9
 rw [hl]
 obtain ⟨wq,hwq⟩:∃ wq,w3.alloc (.cells #[.int .i64 q] 3)=wq:=⟨_,rfl⟩
 have hbwq:=bof hwq
 have HDq:=hgo HD3 hbwq
 have HXq:=rgo HX3 hbwq
 have HFRq:=hid (Qy 0 [q] w3.heap.size 1 wq (by rw [← hwq];exact Row.new _ _ _) rfl (by decide))
 have HALq:=hid (show [q].all (Qg 0)=false by simp [hfq])
 have hszq:=hbwq.size
 have HWq:=hid hwq
 clear hbwq hwq
 go_upto_region 17 with (go_at_call 44;first | (rw [HWq.out];refine HFRq.out.mono ?_;rintro e w' ⟨rfl,hww⟩;obtain rfl:=hww.symm;rw [HALq.out]))
 go_wp2_with fail
 refine (Jz _ _).mono ?_
 rintro x wn ⟨rfl,hbn⟩
 obtain ⟨wz,HHZz,HSWz,HBz,y0,y1,y2,y3,y4,y5,y6,y7,y8,y9⟩:=Q8 HB0.out (HDq.out.trans (hbn.mono HDq.out.size)) HZ0.out
 clear hbn
 go_wp2_with (refine Qf rfl (.tmp 14) (.tmp 123) rfl rfl rfl HHZz.out HIZ.out rfl ZT HSWz.out ?_)
 refine bodyPost_ret (v:=.tuple #[.agg zA,.int .i64 0,.int .i64 3]) (by simp [zA,results,Tryz.results16,go_sem,y0,y1,y2,y3,y4,y5,y6,y7,y8,y9]) rfl ⟨HBz.out,_,rfl,?_⟩
 exact Qp _ _ _
theorem Qgg (s:St) (v hv2:Value) (N:Nat) (w:World) (i c o q:Int) (h:Sh) (hv:StV w N v s) (hh:ShV w N hv2 h) (hN:N≤w.heap.size) (hfit:s.fits) (k:Nat) (x:Cn) (hik:i=(k:Int)) (hx:s.conns[k]?=some x) (hw:Qm s=0) (z:Int) (hhf:h.fits) (htab:Qt w) (hz:Qaa s i q h z) (hst:x.state=1) (hl:QA s x.client=0) (hfq:Qg 0 q=true) (hz0:z≠0) :
  Calls Tryz.prog 16 #[.int .u8 97,v,.int .i64 i,.int .i64 c,.int .i64 o,.int .i64 q,hv2] w fun e w'=>Below w.heap.size w w'∧∃ v',e=.returned (.tuple #[v',.int .i64 (0),.int .i64 (z)])∧Qn N w.heap.size w' v' (St.none):=by
 have HWR:=hid (fun wx (hx:Below w.heap.size w wx)=>Qv s v N wx (hv.below (hx.mono hN)) (Nat.le_trans hN hx.size) hfit)
 have HLV:=hid (fun wx (hx:Below w.heap.size w wx)=>Q4 s v N wx x.client (hv.below (hx.mono hN)) (Nat.le_trans hN hx.size) hw)
 have HCP:=hid (fun wx (hx:Below w.heap.size w wx)=>YK s v N wx (hv.below (hx.mono hN)) (Nat.le_trans hN hx.size) hfit (Qr hw))
 have HSV:=hid (show ∀ wx,Below w.heap.size w wx→StV wx N v s from fun wx hx=>hv.below (hx.mono hN))
 have HHV:=hid (show ∀ wx,Below w.heap.size w wx→ShV wx N hv2 h from fun wx hx=>hh.below (hx.mono hN))
 have HTAB:=hid (show ∀ wx,Below w.heap.size w wx→Qt wx from fun wx hx=>htab.past hx)
 have HSF:=hid hfit
 have HHF:=hid hhf
 have hcl:=J5 hl
 have hxok:=Jx ((JN hw).conns x (List.mem_of_getElem? hx))
 have hk8:k<100:=by have:=(List.getElem?_eq_some_iff.1 hx).1;have:=(Qr hw).2.1;omega
 have HMW:=hid (show Qk ⟨2,x.oclient,x.client,(k:Int)⟩=0 from JJ (by omega) (by omega) (by have:=(Qr hw).1;omega) (by omega))
 have HZ:=hid (show QZ s x.client h (Jo QN [q.toNat]) (JA ⟨2,x.oclient,x.client,(k:Int)⟩) z by have:=hz;unfold Qaa at this;rw [hik,QO hx] at this;exact this)
 have hkl:=Jt q ((QW _ _).1 hfq)
 have hvl:=Jp ⟨2,x.oclient,x.client,(k:Int)⟩ HMW.out
 have hlc:s.conns.length≤100:=(Qr hw).2.1
 have hqq:=(QW _ _).1 hfq
 subst hik
 have HSTT:=hid hst
 clear hst
 obtain ⟨o1,c1,o2,c2,o3,c3,o4,c4,o5,c5,o6,c6,o7,c7,rfl,hm⟩:=hv.open
 obtain ⟨q1,e1,q2,e2,q3,e3,r1,s1,r2,s2,r3,s3,r4,s4,r5,s5,r6,s6,rfl,-⟩:=hh.open
 obtain ⟨w0,hw0,hb0,HA0,HH0,HZ0,hsz0,RA,RH,RZ,RB,HD0,HIZ⟩:=QK w s h o1 o2 o3 o4 o5 o6 o7 c1 c2 c3 c4 c5 c6 c7 q1 e1 q2 e2 q3 e3 r1 s1 r2 s2 r3 s3 r4 s4 r5 s5 r6 s6
 have HB0:=hid hb0
 have HMM:=hid (show ∀ wx,Below w.heap.size w wx→JS wx N s (.slice o1 s.clients.length c1) (.slice o2 s.conns.length c2) (.slice o3 s.chans.length c3) (.slice o4 s.sent.length c4) (.slice o5 s.got.length c5) (.slice o6 s.acks.length c6) (.slice o7 s.purses.length c7) from fun wx hx=>hm.below (hx.mono hN))
 obtain ⟨k0,k1,k2,k3,k4,k5,k6,k7,k8,k9⟩:=HA0.out.c10
 have HW0:=hid hw0
 clear hv hm hh hfit hb0 hw0 hhf htab hz
 go_enter Tryz.func16,Tryz.ntmps16
 go_upto_region 2 with fail
 rw [HW0.out]
 go_wp2_with fail
 refine (HWR.out _ HB0.out).mono ?_
 rintro e w1 ⟨rfl,hb1⟩
 have HD1:=hgo HD0 hb1
 have hsz1:=hb1.size
 clear hb1
 clear k0 k1 k2 k3 k4 k5 k6 k7 k8 k9
 rw [hw]
 obtain ⟨w2,hw2⟩:∃ w2,w1.alloc (.cells #[.int .i64 0,.int .i64 0,.int .i64 0,.int .i64 0] 58)=w2:=⟨_,rfl⟩
 have hbw2:=bof hw2
 have HD2:=hgo HD1 hbw2
 have HX2:=hid (Q7 hw2)
 have hsz2:=hbw2.size
 have HW2:=hid hw2
 clear hbw2 hw2
 have hltX:w1.heap.size<w2.heap.size:=HX2.out.lt
 go_upto_region 7 with fail
 rw [HW2.out]
 have k4:w2.cell? ⟨w.heap.size,4,none⟩=some (.slice o2 s.conns.length c2):=(RA.out _ HD2.out).cell 4
 have hkl2:k<s.conns.length:=(List.getElem?_eq_some_iff.1 hx).1
 have eneg:decide ((k:Int)<0)=false:=decide_eq_false (by omega)
 have efar:decide ((s.conns.length:Int)≤(k:Int))=false:=decide_eq_false (by omega)
 have hlt':(k:Int)<(s.conns.length:Int):=by omega
 obtain ⟨b,f,hof,gx⟩:=(HMM.out _ (RB.out _ HD2.out)).conns.spot (by omega)
 obtain ⟨hbN,r,hr,cx⟩:=gx k x hx
 subst hr
 have x0:=cx 0 _ rfl
 have x1:=cx 1 _ rfl
 have x2:=cx 2 _ rfl
 have x3:=cx 3 _ rfl
 simp only [Nat.add_zero] at x0
 have k4x:w2.cell? ⟨w.heap.size,4,none⟩=some (.slice (some ⟨b,f,none⟩) s.conns.length c2):=by rw [← hof];exact k4
 have HOF2:=hid hof
 clear k4 gx cx hof
 obtain ⟨m0,m1,m2,m3⟩:=HX2.out.c4
 obtain ⟨zm0,zm1,zm2,zm3⟩:=HX2.out.z4
 obtain ⟨wx,hwx,howx,HXx,hszx,hbb⟩:=YT HX2.out (.int .i64 x.state) (.int .i64 x.client) (.int .i64 x.oclient) (.int .i64 x.oconn)
 have HDx:=hid (hbb _ _ HD2.out (by omega))
 clear hbb
 have HWx:=hid hwx
 clear hwx howx
 go_upto_region 10 with fail
 rw [HWx.out]
 clear x0 x1 x2 x3 k4x m0 m1 m2 m3 zm0 zm1 zm2 zm3 eneg efar
 have x0:wx.cell? ⟨w1.heap.size,0,none⟩=some (.int .i64 x.state):=HXx.out.cell 0
 have x1:wx.cell? ⟨w1.heap.size,1,none⟩=some (.int .i64 x.client):=HXx.out.cell 1
 have es:(x.state != 1)=false:=by simpa using HSTT.out
 go_upto_region 13 with fail
 clear x0 x1 es
 obtain ⟨k0,k1,k2,k3,k4,k5,k6,k7,k8,k9⟩:=(RA.out _ HDx.out).c10
 go_wp2_with fail
 refine (HLV.out _ (RB.out _ HDx.out)).mono ?_
 rintro e w3 ⟨rfl,hbw3⟩
 have HD3:=hgo HDx hbw3
 have HX3:=rgo HXx hbw3
 have hsz3:=hbw3.size
 clear hbw3
 clear k0 k1 k2 k3 k4 k5 k6 k7 k8 k9
 rw [hl]
 obtain ⟨wq,hwq⟩:∃ wq,w3.alloc (.cells #[.int .i64 q] 3)=wq:=⟨_,rfl⟩
 have hbwq:=bof hwq
 have HDq:=hgo HD3 hbwq
 have HXq:=rgo HX3 hbwq
 have HFRq:=hid (Qy 0 [q] w3.heap.size 1 wq (by rw [← hwq];exact Row.new _ _ _) rfl (by decide))
 have HALq:=hid (show [q].all (Qg 0)=true by simp [hfq])
 have hszq:=hbwq.size
 have HWq:=hid hwq
 clear hbwq hwq
 obtain ⟨w5,hw5⟩:∃ w5,(wq.alloc (.cells #[.int .i64 0,.int .i64 0,.int .i64 0,.int .i64 0] 58)).alloc (.cells #[.int .i64 0] 3)=w5:=⟨_,rfl⟩
 have hbw5:Below wq.heap.size wq w5:=by rw [← hw5];exact ((Below.refl _ _).alloc (Nat.le_refl _) _).alloc (by simp) _
 have HD5:=hgo HDq hbw5
 have HX5:=rgo HXq hbw5
 have HKY:=hid (QM ⟨#[99,111,110,110]⟩ [0] (wq.heap.size+1) 1 w5 (by decide) (by rw [← hw5];exact Row.newAt _ _ _ _ (by simp)) rfl (by decide) (fun n hn=>by simp at hn;omega))
 have HM5:=hid (show Row w5 (wq.heap.size) 58 [.int .i64 0,.int .i64 0,.int .i64 0,.int .i64 0] by rw [← hw5];exact (Row.new _ _ _).alloc _)
 have hsz5:=hbw5.size
 have HW5:=hid hw5
 clear hbw5 hw5
 have hltM:=HM5.out.lt
 go_upto_region 18 with (go_at_call 44;first | (rw [HWq.out];refine HFRq.out.mono ?_;rintro e w' ⟨rfl,hww⟩;obtain rfl:=hww.symm;rw [HALq.out]))
 go_wp2_with fail
 rw [HW5.out]
 refine HKY.out.mono ?_
 rintro e wb ⟨kv0,rfl,-,hbwb⟩
 have HDb:=hgo HD5 hbwb
 have HXb:=rgo HX5 hbwb
 have HMb:=rgo HM5 hbwb
 have hszb:=hbwb.size
 clear hbwb
 go_upto_region 24 with fail
 refine Qj9 x k q HXb HMb hqq _ (hid ?_)
 intro σa kv ws hbws hkv hmr
 have HDs:=hgo HDb hbws
 have HXs:=rgo HXb hbws
 have HMs:=rgo HMb hbws
 have hszs:=hbws.size
 clear hbws
 have HKVs:=hid hkv
 clear hkv hmr
 obtain ⟨wt,hwt,howt,HMt,hszt,hbb⟩:=YT HMs.out (.int .i64 2) (.int .i64 x.oclient) (.int .i64 x.client) (.int .i64 (k:Int))
 have HDt:=hid (hbb _ _ HDs.out (by omega))
 clear hbb
 have HXt:=hid (show Row wt (w1.heap.size) 58 [.int .i64 x.state,.int .i64 x.client,.int .i64 x.oclient,.int .i64 x.oconn] from (howt _ (by omega)).trans HXs.out)
 have HWt:=hid hwt
 clear hwt howt
 have HKT:=hid (show Bytes wt ws.heap.size kv (Jo QN [q.toNat]) from HKVs.out.only HMs.out rfl (fun b hb=>by rw [← HWt.out];exact (Below.heap_setCell _ _ _ _ hb).trans ((Below.heap_setCell _ _ _ _ hb).trans ((Below.heap_setCell _ _ _ _ hb).trans (Below.heap_setCell _ _ _ _ hb)))))
 rw [HWt.out]
 go_upto_region 31 with fail
 refine QfR s h x.client z ⟨2,x.oclient,x.client,(k:Int)⟩ (Jo QN [q.toNat]) kv o1 o2 o3 o4 o5 o6 o7 c1 c2 c3 c4 c5 c6 c7 q1 q2 q3 r1 r2 r3 r4 r5 r6 e1 e2 e3 s1 s2 s3 s4 s5 s6 (N:=ws.heap.size) (by omega) (hid (RA.out _ HDt.out)) (hid (RH.out _ HDt.out)) HMt (hid ((HSV.out _ (RB.out _ HDt.out)).mono (by omega))) (hid ((HHV.out _ (RB.out _ HDt.out)).mono (by omega))) HKT HMW HSF HHF (hid (HTAB.out _ (RB.out _ HDt.out))) hcl hkl hvl HZ _ (hid ?_)
 intro σ w6 hbw6 ez
 have HD6:=hgo HDt hbw6
 have HX6:=rgo HXt hbw6
 have HM6:=rgo HMt hbw6
 have hsz6:=hbw6.size
 clear hbw6
 rw [ez]
 clear ez
 have e0:(z != 0)=true:=by simpa using hz0
 go_wp2_with fail
 refine (Jz _ _).mono ?_
 rintro x wn ⟨rfl,hbn⟩
 obtain ⟨wz,HHZz,HSWz,HBz,y0,y1,y2,y3,y4,y5,y6,y7,y8,y9⟩:=Q8 HB0.out (HD6.out.trans (hbn.mono HD6.out.size)) HZ0.out
 clear hbn
 go_wp2_with (refine Qf rfl (.tmp 14) (.tmp 180) rfl rfl rfl HHZz.out HIZ.out rfl ZT HSWz.out ?_)
 refine bodyPost_ret (v:=.tuple #[.agg zA,.int .i64 0,.int .i64 z]) (by simp [zA,results,Tryz.results16,go_sem,y0,y1,y2,y3,y4,y5,y6,y7,y8,y9]) rfl ⟨HBz.out,_,rfl,?_⟩
 exact Qp _ _ _
theorem QjR (s:St) (v hv2:Value) (N:Nat) (w:World) (i c o q:Int) (h:Sh) (hv:StV w N v s) (hh:ShV w N hv2 h) (hN:N≤w.heap.size) (hfit:s.fits) (k:Nat) (x:Cn) (hik:i=(k:Int)) (hx:s.conns[k]?=some x) (hw:Qm s=0) (z:Int) (hhf:h.fits) (htab:Qt w) (hz:Qaa s i q h z) (hst:x.state=1) (hl:QA s x.client=0) (hfq:Qg 0 q=true) (hz0:z=0) :
  Calls Tryz.prog 16 #[.int .u8 97,v,.int .i64 i,.int .i64 c,.int .i64 o,.int .i64 q,hv2] w fun e w'=>Below w.heap.size w w'∧∃ v',e=.returned (.tuple #[v',.int .i64 (0),.int .i64 (0)])∧Qn N w.heap.size w' v' ({ s with conns:=s.conns.set k ⟨3,x.client,x.oclient,q⟩ }):=by
 have HWR:=hid (fun wx (hx:Below w.heap.size w wx)=>Qv s v N wx (hv.below (hx.mono hN)) (Nat.le_trans hN hx.size) hfit)
 have HLV:=hid (fun wx (hx:Below w.heap.size w wx)=>Q4 s v N wx x.client (hv.below (hx.mono hN)) (Nat.le_trans hN hx.size) hw)
 have HCP:=hid (fun wx (hx:Below w.heap.size w wx)=>YK s v N wx (hv.below (hx.mono hN)) (Nat.le_trans hN hx.size) hfit (Qr hw))
 have HSV:=hid (show ∀ wx,Below w.heap.size w wx→StV wx N v s from fun wx hx=>hv.below (hx.mono hN))
 have HHV:=hid (show ∀ wx,Below w.heap.size w wx→ShV wx N hv2 h from fun wx hx=>hh.below (hx.mono hN))
 have HTAB:=hid (show ∀ wx,Below w.heap.size w wx→Qt wx from fun wx hx=>htab.past hx)
 have HSF:=hid hfit
 have HHF:=hid hhf
 have hcl:=J5 hl
 have hxok:=Jx ((JN hw).conns x (List.mem_of_getElem? hx))
 have hk8:k<100:=by have:=(List.getElem?_eq_some_iff.1 hx).1;have:=(Qr hw).2.1;omega
 have HMW:=hid (show Qk ⟨2,x.oclient,x.client,(k:Int)⟩=0 from JJ (by omega) (by omega) (by have:=(Qr hw).1;omega) (by omega))
 have HZ:=hid (show QZ s x.client h (Jo QN [q.toNat]) (JA ⟨2,x.oclient,x.client,(k:Int)⟩) z by have:=hz;unfold Qaa at this;rw [hik,QO hx] at this;exact this)
 have hkl:=Jt q ((QW _ _).1 hfq)
 have hvl:=Jp ⟨2,x.oclient,x.client,(k:Int)⟩ HMW.out
 have hlc:s.conns.length≤100:=(Qr hw).2.1
 have hqq:=(QW _ _).1 hfq
 subst hik
 have HSTT:=hid hst
 clear hst
 obtain ⟨o1,c1,o2,c2,o3,c3,o4,c4,o5,c5,o6,c6,o7,c7,rfl,hm⟩:=hv.open
 obtain ⟨q1,e1,q2,e2,q3,e3,r1,s1,r2,s2,r3,s3,r4,s4,r5,s5,r6,s6,rfl,-⟩:=hh.open
 obtain ⟨w0,hw0,hb0,HA0,HH0,HZ0,hsz0,RA,RH,RZ,RB,HD0,HIZ⟩:=QK w s h o1 o2 o3 o4 o5 o6 o7 c1 c2 c3 c4 c5 c6 c7 q1 e1 q2 e2 q3 e3 r1 s1 r2 s2 r3 s3 r4 s4 r5 s5 r6 s6
 have HB0:=hid hb0
 have HMM:=hid (show ∀ wx,Below w.heap.size w wx→JS wx N s (.slice o1 s.clients.length c1) (.slice o2 s.conns.length c2) (.slice o3 s.chans.length c3) (.slice o4 s.sent.length c4) (.slice o5 s.got.length c5) (.slice o6 s.acks.length c6) (.slice o7 s.purses.length c7) from fun wx hx=>hm.below (hx.mono hN))
 obtain ⟨k0,k1,k2,k3,k4,k5,k6,k7,k8,k9⟩:=HA0.out.c10
 have HW0:=hid hw0
 clear hv hm hh hfit hb0 hw0 hhf htab hz
 go_enter Tryz.func16,Tryz.ntmps16
 go_upto_region 2 with fail
 rw [HW0.out]
 go_wp2_with fail
 refine (HWR.out _ HB0.out).mono ?_
 rintro e w1 ⟨rfl,hb1⟩
 have HD1:=hgo HD0 hb1
 have hsz1:=hb1.size
 clear hb1
 clear k0 k1 k2 k3 k4 k5 k6 k7 k8 k9
 rw [hw]
 obtain ⟨w2,hw2⟩:∃ w2,w1.alloc (.cells #[.int .i64 0,.int .i64 0,.int .i64 0,.int .i64 0] 58)=w2:=⟨_,rfl⟩
 have hbw2:=bof hw2
 have HD2:=hgo HD1 hbw2
 have HX2:=hid (Q7 hw2)
 have hsz2:=hbw2.size
 have HW2:=hid hw2
 clear hbw2 hw2
 have hltX:w1.heap.size<w2.heap.size:=HX2.out.lt
 go_upto_region 7 with fail
 rw [HW2.out]
 have k4:w2.cell? ⟨w.heap.size,4,none⟩=some (.slice o2 s.conns.length c2):=(RA.out _ HD2.out).cell 4
 have hkl2:k<s.conns.length:=(List.getElem?_eq_some_iff.1 hx).1
 have eneg:decide ((k:Int)<0)=false:=decide_eq_false (by omega)
 have efar:decide ((s.conns.length:Int)≤(k:Int))=false:=decide_eq_false (by omega)
 have hlt':(k:Int)<(s.conns.length:Int):=by omega
 obtain ⟨b,f,hof,gx⟩:=(HMM.out _ (RB.out _ HD2.out)).conns.spot (by omega)
 obtain ⟨hbN,r,hr,cx⟩:=gx k x hx
 subst hr
 have x0:=cx 0 _ rfl
 have x1:=cx 1 _ rfl
 have x2:=cx 2 _ rfl
 have x3:=cx 3 _ rfl
 simp only [Nat.add_zero] at x0
 have k4x:w2.cell? ⟨w.heap.size,4,none⟩=some (.slice (some ⟨b,f,none⟩) s.conns.length c2):=by rw [← hof];exact k4
 have HOF2:=hid hof
 clear k4 gx cx hof
 obtain ⟨m0,m1,m2,m3⟩:=HX2.out.c4
 obtain ⟨zm0,zm1,zm2,zm3⟩:=HX2.out.z4
 obtain ⟨wx,hwx,howx,HXx,hszx,hbb⟩:=YT HX2.out (.int .i64 x.state) (.int .i64 x.client) (.int .i64 x.oclient) (.int .i64 x.oconn)
 have HDx:=hid (hbb _ _ HD2.out (by omega))
 clear hbb
 have HWx:=hid hwx
 clear hwx howx
 go_upto_region 10 with fail
 rw [HWx.out]
 clear x0 x1 x2 x3 k4x m0 m1 m2 m3 zm0 zm1 zm2 zm3 eneg efar
 have x0:wx.cell? ⟨w1.heap.size,0,none⟩=some (.int .i64 x.state):=HXx.out.cell 0
 have x1:wx.cell? ⟨w1.heap.size,1,none⟩=some (.int .i64 x.client):=HXx.out.cell 1
 have es:(x.state != 1)=false:=by simpa using HSTT.out
 go_upto_region 13 with fail
 clear x0 x1 es
 obtain ⟨k0,k1,k2,k3,k4,k5,k6,k7,k8,k9⟩:=(RA.out _ HDx.out).c10
 go_wp2_with fail
 refine (HLV.out _ (RB.out _ HDx.out)).mono ?_
 rintro e w3 ⟨rfl,hbw3⟩
 have HD3:=hgo HDx hbw3
 have HX3:=rgo HXx hbw3
 have hsz3:=hbw3.size
 clear hbw3
 clear k0 k1 k2 k3 k4 k5 k6 k7 k8 k9
 rw [hl]
 obtain ⟨wq,hwq⟩:∃ wq,w3.alloc (.cells #[.int .i64 q] 3)=wq:=⟨_,rfl⟩
 have hbwq:=bof hwq
 have HDq:=hgo HD3 hbwq
 have HXq:=rgo HX3 hbwq
 have HFRq:=hid (Qy 0 [q] w3.heap.size 1 wq (by rw [← hwq];exact Row.new _ _ _) rfl (by decide))
 have HALq:=hid (show [q].all (Qg 0)=true by simp [hfq])
 have hszq:=hbwq.size
 have HWq:=hid hwq
 clear hbwq hwq
 obtain ⟨w5,hw5⟩:∃ w5,(wq.alloc (.cells #[.int .i64 0,.int .i64 0,.int .i64 0,.int .i64 0] 58)).alloc (.cells #[.int .i64 0] 3)=w5:=⟨_,rfl⟩
 have hbw5:Below wq.heap.size wq w5:=by rw [← hw5];exact ((Below.refl _ _).alloc (Nat.le_refl _) _).alloc (by simp) _
 have HD5:=hgo HDq hbw5
 have HX5:=rgo HXq hbw5
 have HKY:=hid (QM ⟨#[99,111,110,110]⟩ [0] (wq.heap.size+1) 1 w5 (by decide) (by rw [← hw5];exact Row.newAt _ _ _ _ (by simp)) rfl (by decide) (fun n hn=>by simp at hn;omega))
 have HM5:=hid (show Row w5 (wq.heap.size) 58 [.int .i64 0,.int .i64 0,.int .i64 0,.int .i64 0] by rw [← hw5];exact (Row.new _ _ _).alloc _)
 have hsz5:=hbw5.size
 have HW5:=hid hw5
 clear hbw5 hw5
 have hltM:=HM5.out.lt
 go_upto_region 18 with (go_at_call 44;first | (rw [HWq.out];refine HFRq.out.mono ?_;rintro e w' ⟨rfl,hww⟩;obtain rfl:=hww.symm;rw [HALq.out]))
 go_wp2_with fail
 rw [HW5.out]
 refine HKY.out.mono ?_
 rintro e wb ⟨kv0,rfl,-,hbwb⟩
 have HDb:=hgo HD5 hbwb
 have HXb:=rgo HX5 hbwb
 have HMb:=rgo HM5 hbwb
 have hszb:=hbwb.size
 clear hbwb
 go_upto_region 24 with fail
 refine Qj9 x k q HXb HMb hqq _ (hid ?_)
 intro σa kv ws hbws hkv hmr
 have HDs:=hgo HDb hbws
 have HXs:=rgo HXb hbws
 have HMs:=rgo HMb hbws
 have hszs:=hbws.size
 clear hbws
 have HKVs:=hid hkv
 clear hkv hmr
 obtain ⟨wt,hwt,howt,HMt,hszt,hbb⟩:=YT HMs.out (.int .i64 2) (.int .i64 x.oclient) (.int .i64 x.client) (.int .i64 (k:Int))
 have HDt:=hid (hbb _ _ HDs.out (by omega))
 clear hbb
 have HXt:=hid (show Row wt (w1.heap.size) 58 [.int .i64 x.state,.int .i64 x.client,.int .i64 x.oclient,.int .i64 x.oconn] from (howt _ (by omega)).trans HXs.out)
 have HWt:=hid hwt
 clear hwt howt
 have HKT:=hid (show Bytes wt ws.heap.size kv (Jo QN [q.toNat]) from HKVs.out.only HMs.out rfl (fun b hb=>by rw [← HWt.out];exact (Below.heap_setCell _ _ _ _ hb).trans ((Below.heap_setCell _ _ _ _ hb).trans ((Below.heap_setCell _ _ _ _ hb).trans (Below.heap_setCell _ _ _ _ hb)))))
 rw [HWt.out]
 go_upto_region 31 with fail
 refine QfR s h x.client z ⟨2,x.oclient,x.client,(k:Int)⟩ (Jo QN [q.toNat]) kv o1 o2 o3 o4 o5 o6 o7 c1 c2 c3 c4 c5 c6 c7 q1 q2 q3 r1 r2 r3 r4 r5 r6 e1 e2 e3 s1 s2 s3 s4 s5 s6 (N:=ws.heap.size) (by omega) (hid (RA.out _ HDt.out)) (hid (RH.out _ HDt.out)) HMt (hid ((HSV.out _ (RB.out _ HDt.out)).mono (by omega))) (hid ((HHV.out _ (RB.out _ HDt.out)).mono (by omega))) HKT HMW HSF HHF (hid (HTAB.out _ (RB.out _ HDt.out))) hcl hkl hvl HZ _ (hid ?_)
 intro σ w6 hbw6 ez
 have HD6:=hgo HDt hbw6
 have HX6:=rgo HXt hbw6
 have HM6:=rgo HMt hbw6
 have hsz6:=hbw6.size
 clear hbw6
 rw [ez]
 clear ez
 subst hz0
 obtain ⟨k0,k1,k2,k3,k4,k5,k6,k7,k8,k9⟩:=(RA.out _ HD6.out).c10
 go_wp2_with fail
 refine (HCP.out _ (RB.out _ HD6.out)).mono ?_
 rintro e w7 ⟨hbw7,p1,d1,p2,d2,p3,d3,p4,d4,p5,d5,p6,d6,p7,d7,rfl,hown⟩
 have HD7:=hgo HD6 hbw7
 have HX7:=rgo HX6 hbw7
 have HM7:=rgo HM6 hbw7
 have hsz7:=hbw7.size
 clear hbw7
 clear k0 k1 k2 k3 k4 k5 k6 k7 k8 k9
 have HO7:=hid hown
 clear hown
 obtain ⟨w8,hw8⟩:∃ w8,w7.alloc (.cells #[.string ⟨#[]⟩,.int .i64 0,.int .i64 0,.slice none 0 0,.slice none 0 0,.slice none 0 0,.slice none 0 0,.slice none 0 0,.slice none 0 0,.slice none 0 0] 28)=w8:=⟨_,rfl⟩
 have hbw8:=bof hw8
 have HD8:=hgo HD7 hbw8
 have HT8:=hid (Q7 hw8)
 have hsz8:=hbw8.size
 have HW8:=hid hw8
 clear hbw8 hw8
 obtain ⟨w9,hw9,HRSt,HHZt,HONt,HSWt⟩:=QJ HT8.out [.string s.name,.int .i64 s.height,.int .i64 s.time,.slice p1 s.clients.length d1,.slice p2 s.conns.length d2,.slice p3 s.chans.length d3,.slice p4 s.sent.length d4,.slice p5 s.got.length d5,.slice p6 s.acks.length d6,.slice p7 s.purses.length d7] (by simp [Value.oneCell'])
 have HD9:=hid (show Below w0.heap.size w0 w9 by rw [← hw9];exact Qd HD8.out (by omega) _)
 have ho9:∀ b,b≠w7.heap.size→w9.heap[b]?=w8.heap[b]?:=fun b hb=>by rw [← hw9];exact setRow_other _ _ _ _ hb
 have hsz9:w8.heap.size≤w9.heap.size:=by rw [← hw9];simp
 have hlt9:w7.heap.size<w9.heap.size:=by rw [← hw9];simp;exact HT8.out.lt
 have HO9:=hid (HO7.out.toZ.on (w':=w9) (by rw [← hw9];exact Qd ((Below.refl 0 w7).trans (by rw [← HW8.out];exact (Below.refl _ _).alloc (Nat.zero_le _) _)) (Nat.zero_le _) _) (fun b hlt hr=>(ho9 b hr.2).trans (by rw [← HW8.out];exact Below.heap_alloc _ _ _ hlt)))
 clear hw9 ho9
 have HX9:=hid (show Row w9 w1.heap.size 58 [.int .i64 x.state,.int .i64 x.client,.int .i64 x.oclient,.int .i64 x.oconn] by rw [← HSWt.out];exact (setRow_other _ _ _ _ (by have:=HX7.out.lt;omega)).trans (HX7.out.below (show Below w7.heap.size w7 w8 by rw [← HW8.out];exact (Below.refl _ _).alloc (Nat.le_refl _) _) HX7.out.lt))
 go_upto_region 47 with (first | rw [HW8.out] | skip;refine Qf rfl (.tmp 24) (.tmp 184) rfl rfl rfl HHZt.out HIZ.out rfl HONt.out HSWt.out ?_)
 obtain ⟨g,rfl,hgb,hgl,hcc,hfz⟩:=Qw.at HO9.out.conns (r:=Qu x) (i:=k) (by rw [List.getElem?_map,hx];rfl)
 have hg7:g≠w7.heap.size:=by have:=(Qw.own HO7.out.conns g rfl).2;omega
 have f0:=hcc 0 _ rfl
 have z0:=hfz (k*4)
 have f1:=hcc 1 _ rfl
 have z1:=hfz (k*4+1)
 have f2:=hcc 2 _ rfl
 have z2:=hfz (k*4+2)
 have f3:=hcc 3 _ rfl
 have z3:=hfz (k*4+3)
 simp only [Nat.add_zero] at f0
 have c4x:w9.cell? ⟨w7.heap.size,4,none⟩=some (.slice (some ⟨g,0,none⟩) s.conns.length d2):=HRSt.out.cell 4
 have x2:w9.cell? ⟨w1.heap.size,2,none⟩=some (.int .i64 x.oclient):=HX9.out.cell 2
 obtain ⟨w10,hw10⟩:∃ w10,w9.setCells g (k*4) [.int .i64 3,.int .i64 x.client,.int .i64 x.oclient,.int .i64 q]=w10:=⟨_,rfl⟩
 have hrow:Q3 58 Qu 4 w10 w6.heap.size (.slice (some ⟨g,0,none⟩) s.conns.length d2) (s.conns.set k (⟨3,x.client,x.oclient,q⟩:Cn)):=by
  rw [← hw10]
  have:=Qw.put HO9.out.conns (i:=k) (r:=Qu (⟨3,x.client,x.oclient,q⟩:Cn)) (by rw [List.length_map];omega) (Yx (l:=[(⟨3,x.client,x.oclient,q⟩:Cn)]) _ (by simp))
  rw [← List.map_set] at this
  exact this
 have hgr:w9.grownBy w10 (some g):=by rw [← hw10];exact J8 w9 g (k*4) _
 have ho10:∀ b,b≠g→w10.heap[b]?=w9.heap[b]?:=fun b hb=>by rw [← hw10];exact Yl g _ _ _ _ hb
 have HD10:=hid (show Below w0.heap.size w0 w10 by rw [← hw10];exact JH (by omega) _ _ _ HD9.out)
 have HOG:=hid ((HO9.out.putConns (w':=w10) hgr hrow (fun b e=>.inl e) (fun b e=>⟨.inr (Qw.own hrow b e).1,by obtain rfl:g=b:=(by simpa [Value.ownBlock] using e);exact hg7⟩)).holds (N:=N) (fun b hr=>hr.1))
 have HTD:=hid (show Row w10 w7.heap.size 28 [.string s.name,.int .i64 s.height,.int .i64 s.time,.slice p1 s.clients.length d1,.slice (some ⟨g,0,none⟩) s.conns.length d2,.slice p3 s.chans.length d3,.slice p4 s.sent.length d4,.slice p5 s.got.length d5,.slice p6 s.acks.length d6,.slice p7 s.purses.length d7] from (ho10 _ (fun e=>hg7 e.symm)).trans HRSt.out)
 have HW10:=hid hw10
 obtain ⟨t,ht⟩:∃ t:St,{ s with conns:=s.conns.set k (⟨3,x.client,x.oclient,q⟩:Cn) }=t:=⟨_,rfl⟩
 have HTE:=hid ht
 have HLN:=hid (show (s.conns.set k (⟨3,x.client,x.oclient,q⟩:Cn)).length=s.conns.length by simp)
 clear hw10 hrow hgr ho10 hcc hfz ht
 go_upto_region 48 with fail
 have hst6:((((w9.setCell ⟨g,k*4,none⟩ (.int .i64 3)).setCell ⟨g,k*4+1,none⟩ (.int .i64 x.client)).setCell ⟨g,k*4+2,none⟩ (.int .i64 x.oclient)).setCell ⟨g,k*4+3,none⟩ (.int .i64 q))=w10:=HW10.out
 rw [hst6]
 clear f0 f1 f2 f3 z0 z1 z2 z3 c4x x2 hst6
 have HTT:{ s with conns:=s.conns.set k (⟨3,x.client,x.oclient,q⟩:Cn) }=t:=HTE.out
 have hname:s.name=t.name:=by rw [← HTT]
 have hheight:s.height=t.height:=by rw [← HTT]
 have htime:s.time=t.time:=by rw [← HTT]
 have hlens:s.clients.length=t.clients.length∧s.conns.length=t.conns.length∧s.chans.length=t.chans.length∧s.sent.length=t.sent.length∧s.got.length=t.got.length∧s.acks.length=t.acks.length∧s.purses.length=t.purses.length:=by rw [← HTT];exact ⟨rfl,HLN.out.symm,rfl,rfl,rfl,rfl,rfl⟩
 have HTF:=hid (show Row w10 w7.heap.size 28 [.string t.name,.int .i64 t.height,.int .i64 t.time,.slice p1 t.clients.length d1,.slice (some ⟨g,0,none⟩) t.conns.length d2,.slice p3 t.chans.length d3,.slice p4 t.sent.length d4,.slice p5 t.got.length d5,.slice p6 t.acks.length d6,.slice p7 t.purses.length d7] by rw [← hname,← hheight,← htime,← hlens.1,← hlens.2.1,← hlens.2.2.1,← hlens.2.2.2.1,← hlens.2.2.2.2.1,← hlens.2.2.2.2.2.1,← hlens.2.2.2.2.2.2];exact HTD.out)
 have HOF:=hid (show Qn N w6.heap.size w10 (.agg #[.string t.name,.int .i64 t.height,.int .i64 t.time,.slice p1 t.clients.length d1,.slice (some ⟨g,0,none⟩) t.conns.length d2,.slice p3 t.chans.length d3,.slice p4 t.sent.length d4,.slice p5 t.got.length d5,.slice p6 t.acks.length d6,.slice p7 t.purses.length d7]) t by rw [← hname,← hheight,← htime,← hlens.1,← hlens.2.1,← hlens.2.2.1,← hlens.2.2.2.1,← hlens.2.2.2.2.1,← hlens.2.2.2.2.2.1,← hlens.2.2.2.2.2.2,← HTT];exact HOG.out)
 clear hname hheight htime hlens HTT
 obtain ⟨w11,hw11,HRSr,HHZr,HONr,HSWr⟩:=QJ (RZ.out _ HD10.out) [.string t.name,.int .i64 t.height,.int .i64 t.time,.slice p1 t.clients.length d1,.slice (some ⟨g,0,none⟩) t.conns.length d2,.slice p3 t.chans.length d3,.slice p4 t.sent.length d4,.slice p5 t.got.length d5,.slice p6 t.acks.length d6,.slice p7 t.purses.length d7] (by simp [Value.oneCell'])
 have HB11:=hid (show Below w.heap.size w w11 by rw [← hw11];exact Qd (RB.out _ HD10.out) (by omega) _)
 have HO11:=hid (show Qn N w.heap.size w11 (.agg #[.string t.name,.int .i64 t.height,.int .i64 t.time,.slice p1 t.clients.length d1,.slice (some ⟨g,0,none⟩) t.conns.length d2,.slice p3 t.chans.length d3,.slice p4 t.sent.length d4,.slice p5 t.got.length d5,.slice p6 t.acks.length d6,.slice p7 t.purses.length d7]) t by rw [← hw11];exact (HOF.out.row (by omega) (by omega) _).lower (by omega))
 clear hw11
 obtain ⟨k0,k1,k2,k3,k4,k5,k6,k7,k8,k9⟩:=HTF.out.c10
 go_wp2_with (refine Qf rfl (.tmp 14) (.tmp 232) rfl rfl rfl HHZr.out HIZ.out rfl HONr.out HSWr.out ?_)
 obtain ⟨y0,y1,y2,y3,y4,y5,y6,y7,y8,y9⟩:=Row.c10 (g:=w.heap.size+2) HRSr.out
 refine bodyPost_ret (v:=.tuple #[.agg #[.string t.name,.int .i64 t.height,.int .i64 t.time,.slice p1 t.clients.length d1,.slice (some ⟨g,0,none⟩) t.conns.length d2,.slice p3 t.chans.length d3,.slice p4 t.sent.length d4,.slice p5 t.got.length d5,.slice p6 t.acks.length d6,.slice p7 t.purses.length d7],.int .i64 0,.int .i64 0]) (by simp [results,Tryz.results16,go_sem,y0,y1,y2,y3,y4,y5,y6,y7,y8,y9]) rfl ⟨HB11.out,_,rfl,?_⟩
 rw [HTE.out]
 exact HO11.out
end Go.Proofs.YtooemgkjkngpcaaGreatDoor
