/-
  The document's Connect: St9RT3.
-/
import Derived.Test.YtooemgkjkngpcaaGreatDoorteSt9RNo
import Derived.Test.YtooemgkjkngpcaaGreatDoorteSt9RT2
import Derived.Test.YtooemgkjkngpcaaGreatDoorteSt8RWrong
import Derived.Test.YtooemgkjkngpcaaGreatDoorteCoOpened
namespace Go.Proofs.YtooemgkjkngpcaaGreatDoor
set_option maxRecDepth 1000000
set_option maxHeartbeats 8000000
open Go.RowKit
theorem QfA (s:St) (v hv2:Value) (N:Nat) (w:World) (i c o q:Int) (h:Sh) (hv:StV w N v s) (hh:ShV w N hv2 h) (hN:N≤w.heap.size) (hfit:s.fits) (hw:Qm s=0) (hl:QA s c=0) (hfo:Qg 0 o=false) :
  Calls Tryz.prog 16 #[.int .u8 105,v,.int .i64 i,.int .i64 c,.int .i64 o,.int .i64 q,hv2] w fun e w'=>Below w.heap.size w w'∧∃ v',e=.returned (.tuple #[v',.int .i64 (0),.int .i64 (3)])∧Qn N w.heap.size w' v' (St.none):=by
 have HWR:=hid (fun wx (hx:Below w.heap.size w wx)=>Qv s v N wx (hv.below (hx.mono hN)) (Nat.le_trans hN hx.size) hfit)
 have HLV:=hid (fun wx (hx:Below w.heap.size w wx)=>Q4 s v N wx c (hv.below (hx.mono hN)) (Nat.le_trans hN hx.size) hw)
 obtain ⟨o1,c1,o2,c2,o3,c3,o4,c4,o5,c5,o6,c6,o7,c7,rfl,hm⟩:=hv.open
 obtain ⟨q1,e1,q2,e2,q3,e3,r1,s1,r2,s2,r3,s3,r4,s4,r5,s5,r6,s6,rfl,-⟩:=hh.open
 obtain ⟨w0,hw0,hb0,HA0,HH0,HZ0,hsz0,RA,RH,RZ,RB,HD0,HIZ⟩:=QK w s h o1 o2 o3 o4 o5 o6 o7 c1 c2 c3 c4 c5 c6 c7 q1 e1 q2 e2 q3 e3 r1 s1 r2 s2 r3 s3 r4 s4 r5 s5 r6 s6
 have HB0:=hid hb0
 obtain ⟨k0,k1,k2,k3,k4,k5,k6,k7,k8,k9⟩:=HA0.out.c10
 have HW0:=hid hw0
 clear hv hm hh hfit hb0 hw0
 go_enter Tryz.func16,Tryz.ntmps16
 go_upto_region 2 with fail
 rw [HW0.out]
 go_wp2_with fail
 refine (HWR.out _ HB0.out).mono ?_
 rintro e w1 ⟨rfl,hb1⟩
 have HD1:=hgo HD0 hb1
 have hsz1:=hb1.size
 clear hb1
 clear k0 k1 k2 k3 k4 k5 k6 k7 k8 k9
 rw [hw]
 obtain ⟨w2,hw2⟩:∃ w2,w1.alloc (.cells #[.int .i64 0,.int .i64 0,.int .i64 0,.int .i64 0] 58)=w2:=⟨_,rfl⟩
 have hbw2:=bof hw2
 have HD2:=hgo HD1 hbw2
 have HX2:=hid (Q7 hw2)
 have hsz2:=hbw2.size
 have HW2:=hid hw2
 clear hbw2 hw2
 have hltX:w1.heap.size<w2.heap.size:=HX2.out.lt
 go_upto_region 13 with fail
 rw [HW2.out]
 obtain ⟨k0,k1,k2,k3,k4,k5,k6,k7,k8,k9⟩:=(RA.out _ HD2.out).c10
 go_wp2_with fail
 refine (HLV.out _ (RB.out _ HD2.out)).mono ?_
 rintro e w3 ⟨rfl,hbw3⟩
 have HD3:=hgo HD2 hbw3
 have HX3:=rgo HX2 hbw3
 have hsz3:=hbw3.size
 clear hbw3
 clear k0 k1 k2 k3 k4 k5 k6 k7 k8 k9
 rw [hl]
 obtain ⟨w4,hw4⟩:∃ w4,w3.alloc (.cells #[.int .i64 o] 3)=w4:=⟨_,rfl⟩
 have hbw4:=bof hw4
 have HD4:=hgo HD3 hbw4
 have HX4:=rgo HX3 hbw4
 have HFR4:=hid (Qy 0 [o] w3.heap.size 1 w4 (by rw [← hw4];exact Row.new _ _ _) rfl (by decide))
 have HAL4:=hid (show [o].all (Qg 0)=false by simp [hfo])
 have hsz4:=hbw4.size
 have HW4:=hid hw4
 clear hbw4 hw4
 go_upto_region 17 with (go_at_call 44;first | (rw [HW4.out];refine HFR4.out.mono ?_;rintro e w' ⟨rfl,hww⟩;obtain rfl:=hww.symm;rw [HAL4.out]))
 go_wp2_with fail
 refine (Jz _ _).mono ?_
 rintro x wn ⟨rfl,hbn⟩
 obtain ⟨wz,HHZz,HSWz,HBz,y0,y1,y2,y3,y4,y5,y6,y7,y8,y9⟩:=Q8 HB0.out (HD4.out.trans (hbn.mono HD4.out.size)) HZ0.out
 clear hbn
 go_wp2_with (refine Qf rfl (.tmp 14) (.tmp 123) rfl rfl rfl HHZz.out HIZ.out rfl ZT HSWz.out ?_)
 refine bodyPost_ret (v:=.tuple #[.agg zA,.int .i64 0,.int .i64 3]) (by simp [zA,results,Tryz.results16,go_sem,y0,y1,y2,y3,y4,y5,y6,y7,y8,y9]) rfl ⟨HBz.out,_,rfl,?_⟩
 exact Qp _ _ _
theorem QhQ (s:St) (v hv2:Value) (N:Nat) (w:World) (i c o q:Int) (h:Sh) (hv:StV w N v s) (hh:ShV w N hv2 h) (hN:N≤w.heap.size) (hfit:s.fits) (hw:Qm s=0) (hl:QA s c=0) (hfo:Qg 0 o=true) (h8:8≤s.conns.length) :
  Calls Tryz.prog 16 #[.int .u8 105,v,.int .i64 i,.int .i64 c,.int .i64 o,.int .i64 q,hv2] w fun e w'=>Below w.heap.size w w'∧∃ v',e=.returned (.tuple #[v',.int .i64 (0),.int .i64 (5)])∧Qn N w.heap.size w' v' (St.none):=by
 have HWR:=hid (fun wx (hx:Below w.heap.size w wx)=>Qv s v N wx (hv.below (hx.mono hN)) (Nat.le_trans hN hx.size) hfit)
 have HLV:=hid (fun wx (hx:Below w.heap.size w wx)=>Q4 s v N wx c (hv.below (hx.mono hN)) (Nat.le_trans hN hx.size) hw)
 have HCP:=hid (fun wx (hx:Below w.heap.size w wx)=>YK s v N wx (hv.below (hx.mono hN)) (Nat.le_trans hN hx.size) hfit (Qr hw))
 have e8:decide ((8:Int)≤(s.conns.length:Int))=true:=by simp;omega
 obtain ⟨o1,c1,o2,c2,o3,c3,o4,c4,o5,c5,o6,c6,o7,c7,rfl,hm⟩:=hv.open
 obtain ⟨q1,e1,q2,e2,q3,e3,r1,s1,r2,s2,r3,s3,r4,s4,r5,s5,r6,s6,rfl,-⟩:=hh.open
 obtain ⟨w0,hw0,hb0,HA0,HH0,HZ0,hsz0,RA,RH,RZ,RB,HD0,HIZ⟩:=QK w s h o1 o2 o3 o4 o5 o6 o7 c1 c2 c3 c4 c5 c6 c7 q1 e1 q2 e2 q3 e3 r1 s1 r2 s2 r3 s3 r4 s4 r5 s5 r6 s6
 have HB0:=hid hb0
 obtain ⟨k0,k1,k2,k3,k4,k5,k6,k7,k8,k9⟩:=HA0.out.c10
 have HW0:=hid hw0
 clear hv hm hh hfit hb0 hw0
 go_enter Tryz.func16,Tryz.ntmps16
 go_upto_region 2 with fail
 rw [HW0.out]
 go_wp2_with fail
 refine (HWR.out _ HB0.out).mono ?_
 rintro e w1 ⟨rfl,hb1⟩
 have HD1:=hgo HD0 hb1
 have hsz1:=hb1.size
 clear hb1
 clear k0 k1 k2 k3 k4 k5 k6 k7 k8 k9
 rw [hw]
 obtain ⟨w2,hw2⟩:∃ w2,w1.alloc (.cells #[.int .i64 0,.int .i64 0,.int .i64 0,.int .i64 0] 58)=w2:=⟨_,rfl⟩
 have hbw2:=bof hw2
 have HD2:=hgo HD1 hbw2
 have HX2:=hid (Q7 hw2)
 have hsz2:=hbw2.size
 have HW2:=hid hw2
 clear hbw2 hw2
 have hltX:w1.heap.size<w2.heap.size:=HX2.out.lt
 go_upto_region 13 with fail
 rw [HW2.out]
 obtain ⟨k0,k1,k2,k3,k4,k5,k6,k7,k8,k9⟩:=(RA.out _ HD2.out).c10
 go_wp2_with fail
 refine (HLV.out _ (RB.out _ HD2.out)).mono ?_
 rintro e w3 ⟨rfl,hbw3⟩
 have HD3:=hgo HD2 hbw3
 have HX3:=rgo HX2 hbw3
 have hsz3:=hbw3.size
 clear hbw3
 clear k0 k1 k2 k3 k4 k5 k6 k7 k8 k9
 rw [hl]
 obtain ⟨w4,hw4⟩:∃ w4,w3.alloc (.cells #[.int .i64 o] 3)=w4:=⟨_,rfl⟩
 have hbw4:=bof hw4
 have HD4:=hgo HD3 hbw4
 have HX4:=rgo HX3 hbw4
 have HFR4:=hid (Qy 0 [o] w3.heap.size 1 w4 (by rw [← hw4];exact Row.new _ _ _) rfl (by decide))
 have HAL4:=hid (show [o].all (Qg 0)=true by simp [hfo])
 have hsz4:=hbw4.size
 have HW4:=hid hw4
 clear hbw4 hw4
 obtain ⟨w5,hw5⟩:∃ w5,(w4.alloc (.cells #[.int .i64 0,.int .i64 0,.int .i64 0,.int .i64 0] 58)).alloc (.cells #[.int .i64 0] 3)=w5:=⟨_,rfl⟩
 have hbw5:Below w4.heap.size w4 w5:=by rw [← hw5];exact ((Below.refl _ _).alloc (Nat.le_refl _) _).alloc (by simp) _
 have HD5:=hgo HD4 hbw5
 have HX5:=rgo HX4 hbw5
 have HKY:=hid (QM ⟨#[99,111,110,110]⟩ [0] (w4.heap.size+1) 1 w5 (by decide) (by rw [← hw5];exact Row.newAt _ _ _ _ (by simp)) rfl (by decide) (fun n hn=>by simp at hn;omega))
 have HM5:=hid (show Row w5 (w4.heap.size) 58 [.int .i64 0,.int .i64 0,.int .i64 0,.int .i64 0] by rw [← hw5];exact (Row.new _ _ _).alloc _)
 have hsz5:=hbw5.size
 have HW5:=hid hw5
 clear hbw5 hw5
 have hltM:=HM5.out.lt
 go_upto_region 18 with (go_at_call 44;first | (rw [HW4.out];refine HFR4.out.mono ?_;rintro e w' ⟨rfl,hww⟩;obtain rfl:=hww.symm;rw [HAL4.out]))
 go_wp2_with fail
 rw [HW5.out]
 refine HKY.out.mono ?_
 rintro e w6 ⟨kv0,rfl,-,hbw6⟩
 have HD6:=hgo HD5 hbw6
 have HX6:=rgo HX5 hbw6
 have HM6:=rgo HM5 hbw6
 have hsz6:=hbw6.size
 clear hbw6
 obtain ⟨k0,k1,k2,k3,k4,k5,k6,k7,k8,k9⟩:=(RA.out _ HD6.out).c10
 go_wp2_with fail
 refine (HCP.out _ (RB.out _ HD6.out)).mono ?_
 rintro e w7 ⟨hbw7,p1,d1,p2,d2,p3,d3,p4,d4,p5,d5,p6,d6,p7,d7,rfl,hown⟩
 have HD7:=hgo HD6 hbw7
 have HX7:=rgo HX6 hbw7
 have HM7:=rgo HM6 hbw7
 have hsz7:=hbw7.size
 clear hbw7
 clear k0 k1 k2 k3 k4 k5 k6 k7 k8 k9
 have HO7:=hid hown
 clear hown
 obtain ⟨w8,hw8⟩:∃ w8,w7.alloc (.cells #[.string ⟨#[]⟩,.int .i64 0,.int .i64 0,.slice none 0 0,.slice none 0 0,.slice none 0 0,.slice none 0 0,.slice none 0 0,.slice none 0 0,.slice none 0 0] 28)=w8:=⟨_,rfl⟩
 have hbw8:=bof hw8
 have HD8:=hgo HD7 hbw8
 have HT8:=hid (Q7 hw8)
 have hsz8:=hbw8.size
 have HW8:=hid hw8
 clear hbw8 hw8
 obtain ⟨w9,hw9,HRSt,HHZt,HONt,HSWt⟩:=QJ HT8.out [.string s.name,.int .i64 s.height,.int .i64 s.time,.slice p1 s.clients.length d1,.slice p2 s.conns.length d2,.slice p3 s.chans.length d3,.slice p4 s.sent.length d4,.slice p5 s.got.length d5,.slice p6 s.acks.length d6,.slice p7 s.purses.length d7] (by simp [Value.oneCell'])
 have HD9:=hid (show Below w0.heap.size w0 w9 by rw [← hw9];exact Qd HD8.out (by omega) _)
 have ho9:∀ b,b≠w7.heap.size→w9.heap[b]?=w8.heap[b]?:=fun b hb=>by rw [← hw9];exact setRow_other _ _ _ _ hb
 have hsz9:w8.heap.size≤w9.heap.size:=by rw [← hw9];simp
 have hlt9:w7.heap.size<w9.heap.size:=by rw [← hw9];simp;exact HT8.out.lt
 have HO9:=hid (HO7.out.toZ.on (w':=w9) (by rw [← hw9];exact Qd ((Below.refl 0 w7).trans (by rw [← HW8.out];exact (Below.refl _ _).alloc (Nat.zero_le _) _)) (Nat.zero_le _) _) (fun b hlt hr=>(ho9 b hr.2).trans (by rw [← HW8.out];exact Below.heap_alloc _ _ _ hlt)))
 clear hw9 ho9
 have k4:w9.cell? ⟨w.heap.size,4,none⟩=some (.slice o2 s.conns.length c2):=(RA.out _ HD9.out).cell 4
 go_upto_region 40 with (first | rw [HW8.out] | skip;refine Qf rfl (.tmp 24) (.tmp 184) rfl rfl rfl HHZt.out HIZ.out rfl HONt.out HSWt.out ?_)
 clear k4
 go_wp2_with fail
 refine (Jz _ _).mono ?_
 rintro x wn ⟨rfl,hbn⟩
 obtain ⟨wz,HHZz,HSWz,HBz,y0,y1,y2,y3,y4,y5,y6,y7,y8,y9⟩:=Q8 HB0.out (HD9.out.trans (hbn.mono HD9.out.size)) HZ0.out
 clear hbn
 go_wp2_with (refine Qf rfl (.tmp 14) (.tmp 200) rfl rfl rfl HHZz.out HIZ.out rfl ZT HSWz.out ?_)
 refine bodyPost_ret (v:=.tuple #[.agg zA,.int .i64 0,.int .i64 5]) (by simp [zA,results,Tryz.results16,go_sem,y0,y1,y2,y3,y4,y5,y6,y7,y8,y9]) rfl ⟨HBz.out,_,rfl,?_⟩
 exact Qp _ _ _
theorem QjL (s:St) (v hv2:Value) (N:Nat) (w:World) (i c o q:Int) (h:Sh) (hv:StV w N v s) (hh:ShV w N hv2 h) (hN:N≤w.heap.size) (hfit:s.fits) (hw:Qm s=0) (hl:QA s c=0) (hfo:Qg 0 o=true) (h8:¬ 8≤s.conns.length) :
  Calls Tryz.prog 16 #[.int .u8 105,v,.int .i64 i,.int .i64 c,.int .i64 o,.int .i64 q,hv2] w fun e w'=>Below w.heap.size w w'∧∃ v',e=.returned (.tuple #[v',.int .i64 ((s.conns.length:Int)),.int .i64 (0)])∧Qn N w.heap.size w' v' ({ s with conns:=s.conns ++ [⟨1,c,o,-1⟩] }):=by
 have HWR:=hid (fun wx (hx:Below w.heap.size w wx)=>Qv s v N wx (hv.below (hx.mono hN)) (Nat.le_trans hN hx.size) hfit)
 have HLV:=hid (fun wx (hx:Below w.heap.size w wx)=>Q4 s v N wx c (hv.below (hx.mono hN)) (Nat.le_trans hN hx.size) hw)
 have HCP:=hid (fun wx (hx:Below w.heap.size w wx)=>YK s v N wx (hv.below (hx.mono hN)) (Nat.le_trans hN hx.size) hfit (Qr hw))
 have hlc:s.conns.length≤100:=(Qr hw).2.1
 have e8:decide ((8:Int)≤(s.conns.length:Int))=false:=by simp;omega
 obtain ⟨o1,c1,o2,c2,o3,c3,o4,c4,o5,c5,o6,c6,o7,c7,rfl,hm⟩:=hv.open
 obtain ⟨q1,e1,q2,e2,q3,e3,r1,s1,r2,s2,r3,s3,r4,s4,r5,s5,r6,s6,rfl,-⟩:=hh.open
 obtain ⟨w0,hw0,hb0,HA0,HH0,HZ0,hsz0,RA,RH,RZ,RB,HD0,HIZ⟩:=QK w s h o1 o2 o3 o4 o5 o6 o7 c1 c2 c3 c4 c5 c6 c7 q1 e1 q2 e2 q3 e3 r1 s1 r2 s2 r3 s3 r4 s4 r5 s5 r6 s6
 have HB0:=hid hb0
 obtain ⟨k0,k1,k2,k3,k4,k5,k6,k7,k8,k9⟩:=HA0.out.c10
 have HW0:=hid hw0
 clear hv hm hh hfit hb0 hw0
 go_enter Tryz.func16,Tryz.ntmps16
 go_upto_region 2 with fail
 rw [HW0.out]
 go_wp2_with fail
 refine (HWR.out _ HB0.out).mono ?_
 rintro e w1 ⟨rfl,hb1⟩
 have HD1:=hgo HD0 hb1
 have hsz1:=hb1.size
 clear hb1
 clear k0 k1 k2 k3 k4 k5 k6 k7 k8 k9
 rw [hw]
 obtain ⟨w2,hw2⟩:∃ w2,w1.alloc (.cells #[.int .i64 0,.int .i64 0,.int .i64 0,.int .i64 0] 58)=w2:=⟨_,rfl⟩
 have hbw2:=bof hw2
 have HD2:=hgo HD1 hbw2
 have HX2:=hid (Q7 hw2)
 have hsz2:=hbw2.size
 have HW2:=hid hw2
 clear hbw2 hw2
 have hltX:w1.heap.size<w2.heap.size:=HX2.out.lt
 go_upto_region 13 with fail
 rw [HW2.out]
 obtain ⟨k0,k1,k2,k3,k4,k5,k6,k7,k8,k9⟩:=(RA.out _ HD2.out).c10
 go_wp2_with fail
 refine (HLV.out _ (RB.out _ HD2.out)).mono ?_
 rintro e w3 ⟨rfl,hbw3⟩
 have HD3:=hgo HD2 hbw3
 have HX3:=rgo HX2 hbw3
 have hsz3:=hbw3.size
 clear hbw3
 clear k0 k1 k2 k3 k4 k5 k6 k7 k8 k9
 rw [hl]
 obtain ⟨w4,hw4⟩:∃ w4,w3.alloc (.cells #[.int .i64 o] 3)=w4:=⟨_,rfl⟩
 have hbw4:=bof hw4
 have HD4:=hgo HD3 hbw4
 have HX4:=rgo HX3 hbw4
 have HFR4:=hid (Qy 0 [o] w3.heap.size 1 w4 (by rw [← hw4];exact Row.new _ _ _) rfl (by decide))
 have HAL4:=hid (show [o].all (Qg 0)=true by simp [hfo])
 have hsz4:=hbw4.size
 have HW4:=hid hw4
 clear hbw4 hw4
 obtain ⟨w5,hw5⟩:∃ w5,(w4.alloc (.cells #[.int .i64 0,.int .i64 0,.int .i64 0,.int .i64 0] 58)).alloc (.cells #[.int .i64 0] 3)=w5:=⟨_,rfl⟩
 have hbw5:Below w4.heap.size w4 w5:=by rw [← hw5];exact ((Below.refl _ _).alloc (Nat.le_refl _) _).alloc (by simp) _
 have HD5:=hgo HD4 hbw5
 have HX5:=rgo HX4 hbw5
 have HKY:=hid (QM ⟨#[99,111,110,110]⟩ [0] (w4.heap.size+1) 1 w5 (by decide) (by rw [← hw5];exact Row.newAt _ _ _ _ (by simp)) rfl (by decide) (fun n hn=>by simp at hn;omega))
 have HM5:=hid (show Row w5 (w4.heap.size) 58 [.int .i64 0,.int .i64 0,.int .i64 0,.int .i64 0] by rw [← hw5];exact (Row.new _ _ _).alloc _)
 have hsz5:=hbw5.size
 have HW5:=hid hw5
 clear hbw5 hw5
 have hltM:=HM5.out.lt
 go_upto_region 18 with (go_at_call 44;first | (rw [HW4.out];refine HFR4.out.mono ?_;rintro e w' ⟨rfl,hww⟩;obtain rfl:=hww.symm;rw [HAL4.out]))
 go_wp2_with fail
 rw [HW5.out]
 refine HKY.out.mono ?_
 rintro e w6 ⟨kv0,rfl,-,hbw6⟩
 have HD6:=hgo HD5 hbw6
 have HX6:=rgo HX5 hbw6
 have HM6:=rgo HM5 hbw6
 have hsz6:=hbw6.size
 clear hbw6
 obtain ⟨k0,k1,k2,k3,k4,k5,k6,k7,k8,k9⟩:=(RA.out _ HD6.out).c10
 go_wp2_with fail
 refine (HCP.out _ (RB.out _ HD6.out)).mono ?_
 rintro e w7 ⟨hbw7,p1,d1,p2,d2,p3,d3,p4,d4,p5,d5,p6,d6,p7,d7,rfl,hown⟩
 have HD7:=hgo HD6 hbw7
 have HX7:=rgo HX6 hbw7
 have HM7:=rgo HM6 hbw7
 have hsz7:=hbw7.size
 clear hbw7
 clear k0 k1 k2 k3 k4 k5 k6 k7 k8 k9
 have HO7:=hid hown
 clear hown
 obtain ⟨w8,hw8⟩:∃ w8,w7.alloc (.cells #[.string ⟨#[]⟩,.int .i64 0,.int .i64 0,.slice none 0 0,.slice none 0 0,.slice none 0 0,.slice none 0 0,.slice none 0 0,.slice none 0 0,.slice none 0 0] 28)=w8:=⟨_,rfl⟩
 have hbw8:=bof hw8
 have HD8:=hgo HD7 hbw8
 have HT8:=hid (Q7 hw8)
 have hsz8:=hbw8.size
 have HW8:=hid hw8
 clear hbw8 hw8
 obtain ⟨w9,hw9,HRSt,HHZt,HONt,HSWt⟩:=QJ HT8.out [.string s.name,.int .i64 s.height,.int .i64 s.time,.slice p1 s.clients.length d1,.slice p2 s.conns.length d2,.slice p3 s.chans.length d3,.slice p4 s.sent.length d4,.slice p5 s.got.length d5,.slice p6 s.acks.length d6,.slice p7 s.purses.length d7] (by simp [Value.oneCell'])
 have HD9:=hid (show Below w0.heap.size w0 w9 by rw [← hw9];exact Qd HD8.out (by omega) _)
 have ho9:∀ b,b≠w7.heap.size→w9.heap[b]?=w8.heap[b]?:=fun b hb=>by rw [← hw9];exact setRow_other _ _ _ _ hb
 have hsz9:w8.heap.size≤w9.heap.size:=by rw [← hw9];simp
 have hlt9:w7.heap.size<w9.heap.size:=by rw [← hw9];simp;exact HT8.out.lt
 have HO9:=hid (HO7.out.toZ.on (w':=w9) (by rw [← hw9];exact Qd ((Below.refl 0 w7).trans (by rw [← HW8.out];exact (Below.refl _ _).alloc (Nat.zero_le _) _)) (Nat.zero_le _) _) (fun b hlt hr=>(ho9 b hr.2).trans (by rw [← HW8.out];exact Below.heap_alloc _ _ _ hlt)))
 clear hw9 ho9
 have k4:w9.cell? ⟨w.heap.size,4,none⟩=some (.slice o2 s.conns.length c2):=(RA.out _ HD9.out).cell 4
 go_upto_region 39 with (first | rw [HW8.out] | skip;refine Qf rfl (.tmp 24) (.tmp 184) rfl rfl rfl HHZt.out HIZ.out rfl HONt.out HSWt.out ?_)
 obtain ⟨w10,hw10⟩:∃ w10,w9.alloc (.cells #[.int .i64 1,.int .i64 c,.int .i64 o,.int .i64 (-1)] 58)=w10:=⟨_,rfl⟩
 have hb10:=bof hw10
 have HDA:=hgo HD9 hb10
 have HTA:=rgo HRSt hb10
 have HXA:=hid (Q7 hw10)
 have HOA:=hid (HO9.out.below hb10)
 have hszA:w9.heap.size<w10.heap.size:=HXA.out.lt
 have HWA:=hid hw10
 clear hb10 hw10
 go_upto_region 44 with fail
 rw [HWA.out]
 clear k4
 obtain ⟨w11,hw11⟩:∃ w11,w10.alloc (.cells #[.int .i64 1,.int .i64 c,.int .i64 o,.int .i64 (-1)] 58)=w11:=⟨_,rfl⟩
 have hb11:=bof hw11
 have HSRC:=hid (show JI w11 (w10.heap.size+1) (.slice (some ⟨w10.heap.size,0,none⟩) 1 1) 4 [Qu (⟨1,c,o,-1⟩:Cn)] from Qeg (by rw [← hw11];exact Row.new _ _ _))
 have HOB:=hid (HOA.out.below hb11)
 have HOC:=hid HOB.out.conns
 have HDB:=hgo HDA hb11
 have HTB:=rgo HTA hb11
 have hszB:=hb11.size
 have t4:w10.cell? ⟨w7.heap.size,4,none⟩=some (.slice p2 s.conns.length d2):=HTA.out.cell 4
 obtain ⟨m0,m1,m2,m3⟩:=HXA.out.c4
 have HWB:=hid hw11
 clear hb11 hw11
 go_wp2_with (at_builtin;refine Hid.out ?_)
 rw [HWB.out]
 refine hid ?_
 refine ZA QcT rfl _ _ rfl w6.heap.size _ (s.conns.map Qu) rfl HOC.out _ _ (Qu (⟨1,c,o,-1⟩:Cn)) rfl HSRC.out (Yx (l:=[(⟨1,c,o,-1⟩:Cn)])) (by simp;omega) (by omega) ?_
 intro g da w12 hrow hb12 hg12 hlie
 have hle:(s.conns.map Qu).length+1=(s.conns ++ [(⟨1,c,o,-1⟩:Cn)]).length:=by simp
 rw [hle] at hrow ⊢
 obtain ⟨pa,hpa⟩:∃ pa:Option Addr,some ⟨g,0,none⟩=pa:=⟨_,rfl⟩
 have hrow':Q3 58 Qu 4 w12 w6.heap.size (.slice (some ⟨g,0,none⟩) (s.conns ++ [(⟨1,c,o,-1⟩:Cn)]).length da) (s.conns ++ [(⟨1,c,o,-1⟩:Cn)]):=by unfold Q3;rw [List.map_append];exact hrow
 have hown1:=Qw.own hrow
 have hz7:∀ b,(Value.slice p2 s.conns.length d2).ownBlock=some b→b≠w7.heap.size:=fun b e=>by have:=(Qw.own HO7.out.conns b e).2;omega
 have ho12:=HOB.out.putConns hg12 hrow' (fun b e=>by obtain rfl:g=b:=(by simpa [Value.ownBlock] using e);exact hlie.imp id (fun h=>by omega)) (fun b e=>⟨.inr (hown1 b e).1,by
  obtain rfl:g=b:=(by simpa [Value.ownBlock] using e)
  rcases hlie with h | h
  ·exact hz7 g h
  ·omega⟩)
 rw [hpa] at ho12 ⊢
 have hne:∀ b,b<w11.heap.size→some b≠(Value.slice p2 s.conns.length d2).ownBlock→w12.heap[b]?=w11.heap[b]?:=fun b hb hne=>hg12.block b hb hne
 have HTC:=hid (show Row w12 w7.heap.size 28 [.string s.name,.int .i64 s.height,.int .i64 s.time,.slice p1 s.clients.length d1,.slice p2 s.conns.length d2,.slice p3 s.chans.length d3,.slice p4 s.sent.length d4,.slice p5 s.got.length d5,.slice p6 s.acks.length d6,.slice p7 s.purses.length d7] from (hne _ (by omega) (fun e=>hz7 _ e.symm rfl)).trans HTB.out)
 have HDC:=hid (show Below w0.heap.size w0 w12 from HDB.out.trans (hb12.mono (by omega)))
 have hszC:=hb12.size
 have g4:w12.cell? ⟨w7.heap.size,4,none⟩=some (.slice p2 s.conns.length d2):=HTC.out.cell 4
 have z4:w12.frozen? ⟨w7.heap.size,4,none⟩=false:=HTC.out.frozen 4
 obtain ⟨t,ht⟩:∃ t:St,{ s with conns:=s.conns ++ [(⟨1,c,o,-1⟩:Cn)] }=t:=⟨_,rfl⟩
 have HTE:=hid ht
 have HOG:=hid ho12
 clear ht ho12
 generalize hln:(s.conns ++ [(⟨1,c,o,-1⟩:Cn)]).length=ln at *
 obtain ⟨w13,hw13⟩:∃ w13,w12.setCell ⟨w7.heap.size,4,none⟩ (.slice pa ln da)=w13:=⟨_,rfl⟩
 have ho13:∀ b,b≠w7.heap.size→w13.heap[b]?=w12.heap[b]?:=fun b hb=>by rw [← hw13];exact Below.heap_setCell _ _ _ _ hb
 have HTD:=hid (show Row w13 w7.heap.size 28 [.string s.name,.int .i64 s.height,.int .i64 s.time,.slice p1 s.clients.length d1,.slice pa ln da,.slice p3 s.chans.length d3,.slice p4 s.sent.length d4,.slice p5 s.got.length d5,.slice p6 s.acks.length d6,.slice p7 s.purses.length d7] by rw [← hw13];exact HTC.out.set 4 _)
 have HDD:=hid (show Below w0.heap.size w0 w13 by rw [← hw13];exact HDC.out.setCell (show w0.heap.size≤w7.heap.size by omega) _)
 have HOD:=hid ((HOG.out.on (w':=w13) (by rw [← hw13];exact (Below.refl 0 w12).setCell (Nat.zero_le _) _) (fun b _ hr=>ho13 b hr.2)).holds (N:=N) (fun b hr=>hr.1))
 have hszD:w12.heap.size≤w13.heap.size:=by rw [← hw13];simp [World.setCell]
 have HLN:=hid hln
 have HWD:=hid hw13
 have a4:=hid (show w13.cell? ⟨w.heap.size,4,none⟩=some (.slice o2 s.conns.length c2) from (RA.out _ HDD.out).cell 4)
 clear hrow hrow' hb12 hg12 hne hlie hle hpa hown1 hz7 ho13 hw13 hln t4 m0 m1 m2 m3
 go_upto_region 45 with fail
 rw [HWD.out]
 clear g4 z4
 have HTT:{ s with conns:=s.conns ++ [(⟨1,c,o,-1⟩:Cn)] }=t:=HTE.out
 have hname:s.name=t.name:=by rw [← HTT]
 have hheight:s.height=t.height:=by rw [← HTT]
 have htime:s.time=t.time:=by rw [← HTT]
 have hlens:s.clients.length=t.clients.length∧ln=t.conns.length∧s.chans.length=t.chans.length∧s.sent.length=t.sent.length∧s.got.length=t.got.length∧s.acks.length=t.acks.length∧s.purses.length=t.purses.length:=by rw [← HTT,← HLN.out];exact ⟨rfl,rfl,rfl,rfl,rfl,rfl,rfl⟩
 have HTF:=hid (show Row w13 w7.heap.size 28 [.string t.name,.int .i64 t.height,.int .i64 t.time,.slice p1 t.clients.length d1,.slice pa t.conns.length da,.slice p3 t.chans.length d3,.slice p4 t.sent.length d4,.slice p5 t.got.length d5,.slice p6 t.acks.length d6,.slice p7 t.purses.length d7] by rw [← hname,← hheight,← htime,← hlens.1,← hlens.2.1,← hlens.2.2.1,← hlens.2.2.2.1,← hlens.2.2.2.2.1,← hlens.2.2.2.2.2.1,← hlens.2.2.2.2.2.2];exact HTD.out)
 have HOF:=hid (show Qn N w6.heap.size w13 (.agg #[.string t.name,.int .i64 t.height,.int .i64 t.time,.slice p1 t.clients.length d1,.slice pa t.conns.length da,.slice p3 t.chans.length d3,.slice p4 t.sent.length d4,.slice p5 t.got.length d5,.slice p6 t.acks.length d6,.slice p7 t.purses.length d7]) t by rw [← hname,← hheight,← htime,← hlens.1,← hlens.2.1,← hlens.2.2.1,← hlens.2.2.2.1,← hlens.2.2.2.2.1,← hlens.2.2.2.2.2.1,← hlens.2.2.2.2.2.2,← HTT];exact HOD.out)
 clear hname hheight htime hlens HTT
 refine QkC t s.conns.length c2 o2 p1 pa p3 p4 p5 p6 p7 d1 da d3 d4 d5 d6 d7 (by omega) (by omega) HTF a4 (hid (RZ.out _ HDD.out)) _ (hid ?_)
 intro σ w14 hb14 hs14 ho14 hr14 e5 e6
 have HB14:=hid (show Below w.heap.size w w14 from ⟨hb14.os.trans (RB.out _ HDD.out).os,hb14.tape.trans (RB.out _ HDD.out).tape,hb14.output.trans (RB.out _ HDD.out).output,Nat.le_trans (RB.out _ HDD.out).size hb14.size,fun b hb=>(ho14 b (by omega)).trans ((RB.out _ HDD.out).block b hb)⟩)
 have HO14:=hid ((HOF.out.on hb14 (fun b _ hr=>ho14 b (by omega))).lower (show w.heap.size≤w6.heap.size by omega))
 have HR14:=hid hr14
 rw [e5,e6]
 clear hb14 hs14 ho14 hr14 e5 e6
 go_wp2
 obtain ⟨y0,y1,y2,y3,y4,y5,y6,y7,y8,y9⟩:=Row.c10 (g:=w.heap.size+2) HR14.out
 refine bodyPost_ret (v:=.tuple #[.agg #[.string t.name,.int .i64 t.height,.int .i64 t.time,.slice p1 t.clients.length d1,.slice pa t.conns.length da,.slice p3 t.chans.length d3,.slice p4 t.sent.length d4,.slice p5 t.got.length d5,.slice p6 t.acks.length d6,.slice p7 t.purses.length d7],.int .i64 (s.conns.length:Int),.int .i64 0]) (by simp [results,Tryz.results16,go_sem,y0,y1,y2,y3,y4,y5,y6,y7,y8,y9]) rfl ⟨HB14.out,_,rfl,?_⟩
 rw [HTE.out]
 exact HO14.out
theorem Qez (s:St) (v hv2:Value) (N:Nat) (w:World) (i c o q:Int) (h:Sh) (hv:StV w N v s) (hh:ShV w N hv2 h) (hN:N≤w.heap.size) (hfit:s.fits) (hw:Qm s=0) (hl:QA s c=0) (hfo:Qg 0 o=false) :
  Calls Tryz.prog 16 #[.int .u8 116,v,.int .i64 i,.int .i64 c,.int .i64 o,.int .i64 q,hv2] w fun e w'=>Below w.heap.size w w'∧∃ v',e=.returned (.tuple #[v',.int .i64 (0),.int .i64 (3)])∧Qn N w.heap.size w' v' (St.none):=by
 have HWR:=hid (fun wx (hx:Below w.heap.size w wx)=>Qv s v N wx (hv.below (hx.mono hN)) (Nat.le_trans hN hx.size) hfit)
 have HLV:=hid (fun wx (hx:Below w.heap.size w wx)=>Q4 s v N wx c (hv.below (hx.mono hN)) (Nat.le_trans hN hx.size) hw)
 obtain ⟨o1,c1,o2,c2,o3,c3,o4,c4,o5,c5,o6,c6,o7,c7,rfl,hm⟩:=hv.open
 obtain ⟨q1,e1,q2,e2,q3,e3,r1,s1,r2,s2,r3,s3,r4,s4,r5,s5,r6,s6,rfl,-⟩:=hh.open
 obtain ⟨w0,hw0,hb0,HA0,HH0,HZ0,hsz0,RA,RH,RZ,RB,HD0,HIZ⟩:=QK w s h o1 o2 o3 o4 o5 o6 o7 c1 c2 c3 c4 c5 c6 c7 q1 e1 q2 e2 q3 e3 r1 s1 r2 s2 r3 s3 r4 s4 r5 s5 r6 s6
 have HB0:=hid hb0
 obtain ⟨k0,k1,k2,k3,k4,k5,k6,k7,k8,k9⟩:=HA0.out.c10
 have HW0:=hid hw0
 clear hv hm hh hfit hb0 hw0
 go_enter Tryz.func16,Tryz.ntmps16
 go_upto_region 2 with fail
 rw [HW0.out]
 go_wp2_with fail
 refine (HWR.out _ HB0.out).mono ?_
 rintro e w1 ⟨rfl,hb1⟩
 have HD1:=hgo HD0 hb1
 have hsz1:=hb1.size
 clear hb1
 clear k0 k1 k2 k3 k4 k5 k6 k7 k8 k9
 rw [hw]
 obtain ⟨w2,hw2⟩:∃ w2,w1.alloc (.cells #[.int .i64 0,.int .i64 0,.int .i64 0,.int .i64 0] 58)=w2:=⟨_,rfl⟩
 have hbw2:=bof hw2
 have HD2:=hgo HD1 hbw2
 have HX2:=hid (Q7 hw2)
 have hsz2:=hbw2.size
 have HW2:=hid hw2
 clear hbw2 hw2
 have hltX:w1.heap.size<w2.heap.size:=HX2.out.lt
 go_upto_region 13 with fail
 rw [HW2.out]
 obtain ⟨k0,k1,k2,k3,k4,k5,k6,k7,k8,k9⟩:=(RA.out _ HD2.out).c10
 go_wp2_with fail
 refine (HLV.out _ (RB.out _ HD2.out)).mono ?_
 rintro e w3 ⟨rfl,hbw3⟩
 have HD3:=hgo HD2 hbw3
 have HX3:=rgo HX2 hbw3
 have hsz3:=hbw3.size
 clear hbw3
 clear k0 k1 k2 k3 k4 k5 k6 k7 k8 k9
 rw [hl]
 obtain ⟨wp,hwp⟩:∃ wp,w3.alloc (.cells #[.int .i64 o] 3)=wp:=⟨_,rfl⟩
 have hbwp:=bof hwp
 have HDp:=hgo HD3 hbwp
 have HXp:=rgo HX3 hbwp
 have HFRp:=hid (Qy 0 [o] w3.heap.size 1 wp (by rw [← hwp];exact Row.new _ _ _) rfl (by decide))
 have HALp:=hid (show [o].all (Qg 0)=false by simp [hfo])
 have hszp:=hbwp.size
 have HWp:=hid hwp
 clear hbwp hwp
 go_upto_region 17 with (go_at_call 44;first | (rw [HWp.out];refine HFRp.out.mono ?_;rintro e w' ⟨rfl,hww⟩;obtain rfl:=hww.symm;rw [HALp.out]))
 go_wp2_with fail
 refine (Jz _ _).mono ?_
 rintro x wn ⟨rfl,hbn⟩
 obtain ⟨wz,HHZz,HSWz,HBz,y0,y1,y2,y3,y4,y5,y6,y7,y8,y9⟩:=Q8 HB0.out (HDp.out.trans (hbn.mono HDp.out.size)) HZ0.out
 clear hbn
 go_wp2_with (refine Qf rfl (.tmp 14) (.tmp 123) rfl rfl rfl HHZz.out HIZ.out rfl ZT HSWz.out ?_)
 refine bodyPost_ret (v:=.tuple #[.agg zA,.int .i64 0,.int .i64 3]) (by simp [zA,results,Tryz.results16,go_sem,y0,y1,y2,y3,y4,y5,y6,y7,y8,y9]) rfl ⟨HBz.out,_,rfl,?_⟩
 exact Qp _ _ _
theorem Qfi (s:St) (v hv2:Value) (N:Nat) (w:World) (i c o q:Int) (h:Sh) (hv:StV w N v s) (hh:ShV w N hv2 h) (hN:N≤w.heap.size) (hfit:s.fits) (hw:Qm s=0) (hl:QA s c=0) (hfo:Qg 0 o=true) (hfq:Qg 0 q=false) :
  Calls Tryz.prog 16 #[.int .u8 116,v,.int .i64 i,.int .i64 c,.int .i64 o,.int .i64 q,hv2] w fun e w'=>Below w.heap.size w w'∧∃ v',e=.returned (.tuple #[v',.int .i64 (0),.int .i64 (3)])∧Qn N w.heap.size w' v' (St.none):=by
 have HWR:=hid (fun wx (hx:Below w.heap.size w wx)=>Qv s v N wx (hv.below (hx.mono hN)) (Nat.le_trans hN hx.size) hfit)
 have HLV:=hid (fun wx (hx:Below w.heap.size w wx)=>Q4 s v N wx c (hv.below (hx.mono hN)) (Nat.le_trans hN hx.size) hw)
 obtain ⟨o1,c1,o2,c2,o3,c3,o4,c4,o5,c5,o6,c6,o7,c7,rfl,hm⟩:=hv.open
 obtain ⟨q1,e1,q2,e2,q3,e3,r1,s1,r2,s2,r3,s3,r4,s4,r5,s5,r6,s6,rfl,-⟩:=hh.open
 obtain ⟨w0,hw0,hb0,HA0,HH0,HZ0,hsz0,RA,RH,RZ,RB,HD0,HIZ⟩:=QK w s h o1 o2 o3 o4 o5 o6 o7 c1 c2 c3 c4 c5 c6 c7 q1 e1 q2 e2 q3 e3 r1 s1 r2 s2 r3 s3 r4 s4 r5 s5 r6 s6
 have HB0:=hid hb0
 obtain ⟨k0,k1,k2,k3,k4,k5,k6,k7,k8,k9⟩:=HA0.out.c10
 have HW0:=hid hw0
 clear hv hm hh hfit hb0 hw0
 go_enter Tryz.func16,Tryz.ntmps16
 go_upto_region 2 with fail
 rw [HW0.out]
 go_wp2_with fail
 refine (HWR.out _ HB0.out).mono ?_
 rintro e w1 ⟨rfl,hb1⟩
 have HD1:=hgo HD0 hb1
 have hsz1:=hb1.size
 clear hb1
 clear k0 k1 k2 k3 k4 k5 k6 k7 k8 k9
 rw [hw]
 obtain ⟨w2,hw2⟩:∃ w2,w1.alloc (.cells #[.int .i64 0,.int .i64 0,.int .i64 0,.int .i64 0] 58)=w2:=⟨_,rfl⟩
 have hbw2:=bof hw2
 have HD2:=hgo HD1 hbw2
 have HX2:=hid (Q7 hw2)
 have hsz2:=hbw2.size
 have HW2:=hid hw2
 clear hbw2 hw2
 have hltX:w1.heap.size<w2.heap.size:=HX2.out.lt
 go_upto_region 13 with fail
 rw [HW2.out]
 obtain ⟨k0,k1,k2,k3,k4,k5,k6,k7,k8,k9⟩:=(RA.out _ HD2.out).c10
 go_wp2_with fail
 refine (HLV.out _ (RB.out _ HD2.out)).mono ?_
 rintro e w3 ⟨rfl,hbw3⟩
 have HD3:=hgo HD2 hbw3
 have HX3:=rgo HX2 hbw3
 have hsz3:=hbw3.size
 clear hbw3
 clear k0 k1 k2 k3 k4 k5 k6 k7 k8 k9
 rw [hl]
 obtain ⟨wp,hwp⟩:∃ wp,w3.alloc (.cells #[.int .i64 o] 3)=wp:=⟨_,rfl⟩
 have hbwp:=bof hwp
 have HDp:=hgo HD3 hbwp
 have HXp:=rgo HX3 hbwp
 have HFRp:=hid (Qy 0 [o] w3.heap.size 1 wp (by rw [← hwp];exact Row.new _ _ _) rfl (by decide))
 have HALp:=hid (show [o].all (Qg 0)=true by simp [hfo])
 have hszp:=hbwp.size
 have HWp:=hid hwp
 clear hbwp hwp
 obtain ⟨wq,hwq⟩:∃ wq,wp.alloc (.cells #[.int .i64 q] 3)=wq:=⟨_,rfl⟩
 have hbwq:=bof hwq
 have HDq:=hgo HDp hbwq
 have HXq:=rgo HXp hbwq
 have HFRq:=hid (Qy 0 [q] wp.heap.size 1 wq (by rw [← hwq];exact Row.new _ _ _) rfl (by decide))
 have HALq:=hid (show [q].all (Qg 0)=false by simp [hfq])
 have hszq:=hbwq.size
 have HWq:=hid hwq
 clear hbwq hwq
 go_upto_region 17 with (go_at_call 44;first | (rw [HWp.out];refine HFRp.out.mono ?_;rintro e w' ⟨rfl,hww⟩;obtain rfl:=hww.symm;rw [HALp.out]) | (rw [HWq.out];refine HFRq.out.mono ?_;rintro e w' ⟨rfl,hww⟩;obtain rfl:=hww.symm;rw [HALq.out]))
 go_wp2_with fail
 refine (Jz _ _).mono ?_
 rintro x wn ⟨rfl,hbn⟩
 obtain ⟨wz,HHZz,HSWz,HBz,y0,y1,y2,y3,y4,y5,y6,y7,y8,y9⟩:=Q8 HB0.out (HDq.out.trans (hbn.mono HDq.out.size)) HZ0.out
 clear hbn
 go_wp2_with (refine Qf rfl (.tmp 14) (.tmp 123) rfl rfl rfl HHZz.out HIZ.out rfl ZT HSWz.out ?_)
 refine bodyPost_ret (v:=.tuple #[.agg zA,.int .i64 0,.int .i64 3]) (by simp [zA,results,Tryz.results16,go_sem,y0,y1,y2,y3,y4,y5,y6,y7,y8,y9]) rfl ⟨HBz.out,_,rfl,?_⟩
 exact Qp _ _ _
theorem QjP (s:St) (v hv2:Value) (N:Nat) (w:World) (i c o q:Int) (h:Sh) (hv:StV w N v s) (hh:ShV w N hv2 h) (hN:N≤w.heap.size) (hfit:s.fits) (z:Int) (hhf:h.fits) (htab:Qt w) (hz:QaF s c o q h z) (hw:Qm s=0) (hl:QA s c=0) (hfo:Qg 0 o=true) (hfq:Qg 0 q=true) (hz0:z=0) (h8:¬ 8≤s.conns.length) :
  Calls Tryz.prog 16 #[.int .u8 116,v,.int .i64 i,.int .i64 c,.int .i64 o,.int .i64 q,hv2] w fun e w'=>Below w.heap.size w w'∧∃ v',e=.returned (.tuple #[v',.int .i64 ((s.conns.length:Int)),.int .i64 (0)])∧Qn N w.heap.size w' v' ({ s with conns:=s.conns ++ [⟨2,c,o,q⟩] }):=by
 have HWR:=hid (fun wx (hx:Below w.heap.size w wx)=>Qv s v N wx (hv.below (hx.mono hN)) (Nat.le_trans hN hx.size) hfit)
 have HLV:=hid (fun wx (hx:Below w.heap.size w wx)=>Q4 s v N wx c (hv.below (hx.mono hN)) (Nat.le_trans hN hx.size) hw)
 have HCP:=hid (fun wx (hx:Below w.heap.size w wx)=>YK s v N wx (hv.below (hx.mono hN)) (Nat.le_trans hN hx.size) hfit (Qr hw))
 have HSV:=hid (show ∀ wx,Below w.heap.size w wx→StV wx N v s from fun wx hx=>hv.below (hx.mono hN))
 have HHV:=hid (show ∀ wx,Below w.heap.size w wx→ShV wx N hv2 h from fun wx hx=>hh.below (hx.mono hN))
 have HTAB:=hid (show ∀ wx,Below w.heap.size w wx→Qt wx from fun wx hx=>htab.past hx)
 have HSF:=hid hfit
 have HHF:=hid hhf
 have hcl:=J5 hl
 have HMW:=hid (show Qk ⟨1,o,c,-1⟩=0 from JJ (by omega) ((QW _ _).1 hfo) (by have:=(Qr hw).1;omega) (by omega))
 have HZ:=hid (show QZ s c h (Jo QN [q.toNat]) (JA ⟨1,o,c,-1⟩) z from hz)
 have hkl:=Jt q ((QW _ _).1 hfq)
 have hvl:=Jp ⟨1,o,c,-1⟩ HMW.out
 have hlc:s.conns.length≤100:=(Qr hw).2.1
 obtain ⟨o1,c1,o2,c2,o3,c3,o4,c4,o5,c5,o6,c6,o7,c7,rfl,hm⟩:=hv.open
 obtain ⟨q1,e1,q2,e2,q3,e3,r1,s1,r2,s2,r3,s3,r4,s4,r5,s5,r6,s6,rfl,-⟩:=hh.open
 obtain ⟨w0,hw0,hb0,HA0,HH0,HZ0,hsz0,RA,RH,RZ,RB,HD0,HIZ⟩:=QK w s h o1 o2 o3 o4 o5 o6 o7 c1 c2 c3 c4 c5 c6 c7 q1 e1 q2 e2 q3 e3 r1 s1 r2 s2 r3 s3 r4 s4 r5 s5 r6 s6
 have HB0:=hid hb0
 obtain ⟨k0,k1,k2,k3,k4,k5,k6,k7,k8,k9⟩:=HA0.out.c10
 have HW0:=hid hw0
 clear hv hm hh hfit hb0 hw0 hhf htab hz
 go_enter Tryz.func16,Tryz.ntmps16
 go_upto_region 2 with fail
 rw [HW0.out]
 go_wp2_with fail
 refine (HWR.out _ HB0.out).mono ?_
 rintro e w1 ⟨rfl,hb1⟩
 have HD1:=hgo HD0 hb1
 have hsz1:=hb1.size
 clear hb1
 clear k0 k1 k2 k3 k4 k5 k6 k7 k8 k9
 rw [hw]
 obtain ⟨w2,hw2⟩:∃ w2,w1.alloc (.cells #[.int .i64 0,.int .i64 0,.int .i64 0,.int .i64 0] 58)=w2:=⟨_,rfl⟩
 have hbw2:=bof hw2
 have HD2:=hgo HD1 hbw2
 have HX2:=hid (Q7 hw2)
 have hsz2:=hbw2.size
 have HW2:=hid hw2
 clear hbw2 hw2
 have hltX:w1.heap.size<w2.heap.size:=HX2.out.lt
 go_upto_region 13 with fail
 rw [HW2.out]
 obtain ⟨k0,k1,k2,k3,k4,k5,k6,k7,k8,k9⟩:=(RA.out _ HD2.out).c10
 go_wp2_with fail
 refine (HLV.out _ (RB.out _ HD2.out)).mono ?_
 rintro e w3 ⟨rfl,hbw3⟩
 have HD3:=hgo HD2 hbw3
 have HX3:=rgo HX2 hbw3
 have hsz3:=hbw3.size
 clear hbw3
 clear k0 k1 k2 k3 k4 k5 k6 k7 k8 k9
 rw [hl]
 obtain ⟨wp,hwp⟩:∃ wp,w3.alloc (.cells #[.int .i64 o] 3)=wp:=⟨_,rfl⟩
 have hbwp:=bof hwp
 have HDp:=hgo HD3 hbwp
 have HXp:=rgo HX3 hbwp
 have HFRp:=hid (Qy 0 [o] w3.heap.size 1 wp (by rw [← hwp];exact Row.new _ _ _) rfl (by decide))
 have HALp:=hid (show [o].all (Qg 0)=true by simp [hfo])
 have hszp:=hbwp.size
 have HWp:=hid hwp
 clear hbwp hwp
 obtain ⟨wq,hwq⟩:∃ wq,wp.alloc (.cells #[.int .i64 q] 3)=wq:=⟨_,rfl⟩
 have hbwq:=bof hwq
 have HDq:=hgo HDp hbwq
 have HXq:=rgo HXp hbwq
 have HFRq:=hid (Qy 0 [q] wp.heap.size 1 wq (by rw [← hwq];exact Row.new _ _ _) rfl (by decide))
 have HALq:=hid (show [q].all (Qg 0)=true by simp [hfq])
 have hszq:=hbwq.size
 have HWq:=hid hwq
 clear hbwq hwq
 obtain ⟨w5,hw5⟩:∃ w5,(wq.alloc (.cells #[.int .i64 0,.int .i64 0,.int .i64 0,.int .i64 0] 58)).alloc (.cells #[.int .i64 0] 3)=w5:=⟨_,rfl⟩
 have hbw5:Below wq.heap.size wq w5:=by rw [← hw5];exact ((Below.refl _ _).alloc (Nat.le_refl _) _).alloc (by simp) _
 have HD5:=hgo HDq hbw5
 have HX5:=rgo HXq hbw5
 have HKY:=hid (QM ⟨#[99,111,110,110]⟩ [0] (wq.heap.size+1) 1 w5 (by decide) (by rw [← hw5];exact Row.newAt _ _ _ _ (by simp)) rfl (by decide) (fun n hn=>by simp at hn;omega))
 have HM5:=hid (show Row w5 (wq.heap.size) 58 [.int .i64 0,.int .i64 0,.int .i64 0,.int .i64 0] by rw [← hw5];exact (Row.new _ _ _).alloc _)
 have hsz5:=hbw5.size
 have HW5:=hid hw5
 clear hbw5 hw5
 have hltM:=HM5.out.lt
 go_upto_region 18 with (go_at_call 44;first | (rw [HWp.out];refine HFRp.out.mono ?_;rintro e w' ⟨rfl,hww⟩;obtain rfl:=hww.symm;rw [HALp.out]) | (rw [HWq.out];refine HFRq.out.mono ?_;rintro e w' ⟨rfl,hww⟩;obtain rfl:=hww.symm;rw [HALq.out]))
 go_wp2_with fail
 rw [HW5.out]
 refine HKY.out.mono ?_
 rintro e wb ⟨kv0,rfl,-,hbwb⟩
 have HDb:=hgo HD5 hbwb
 have HXb:=rgo HX5 hbwb
 have HMb:=rgo HM5 hbwb
 have hszb:=hbwb.size
 clear hbwb
 obtain ⟨wr,hwr⟩:∃ wr,wb.alloc (.cells #[.int .i64 q] 3)=wr:=⟨_,rfl⟩
 have hbwr:=bof hwr
 have HDr:=hgo HDb hbwr
 have HXr:=rgo HXb hbwr
 have HMr:=rgo HMb hbwr
 have HKQ:=hid (QM ⟨#[99,111,110,110]⟩ [q] wb.heap.size 1 wr (by decide) (by rw [← hwr];exact Row.new _ _ _) rfl (by decide) (fun n hn=>by have:=(QW _ _).1 hfq;simp at hn;omega))
 have hszr:=hbwr.size
 have HWr:=hid hwr
 clear hbwr hwr
 go_upto_region 22 with fail
 go_wp2_with fail
 rw [HWr.out]
 refine HKQ.out.mono ?_
 rintro e ws ⟨kv,rfl,hkv,hbws⟩
 have HDs:=hgo HDr hbws
 have HXs:=rgo HXr hbws
 have HMs:=rgo HMr hbws
 have HKVs:=hid hkv
 clear hkv
 have hszs:=hbws.size
 clear hbws
 obtain ⟨m0,m1,m2,m3⟩:=HMs.out.c4
 obtain ⟨zm0,zm1,zm2,zm3⟩:=HMs.out.z4
 obtain ⟨wt,hwt,howt,HMt,hszt,hbb⟩:=YT HMs.out (.int .i64 1) (.int .i64 o) (.int .i64 c) (.int .i64 (-1))
 have HDt:=hid (hbb _ _ HDs.out (by omega))
 clear hbb
 have HXt:=hid (show Row wt (w1.heap.size) 58 [.int .i64 0,.int .i64 0,.int .i64 0,.int .i64 0] from (howt _ (by omega)).trans HXs.out)
 have HWt:=hid hwt
 clear hwt howt
 have HKT:=hid (show Bytes wt ws.heap.size kv (Jo QN [q.toNat]) from HKVs.out.only HMs.out rfl (fun b hb=>by rw [← HWt.out];exact (Below.heap_setCell _ _ _ _ hb).trans ((Below.heap_setCell _ _ _ _ hb).trans ((Below.heap_setCell _ _ _ _ hb).trans (Below.heap_setCell _ _ _ _ hb)))))
 go_upto_region 31 with fail
 rw [HWt.out]
 clear m0 m1 m2 m3 zm0 zm1 zm2 zm3
 refine QfR s h c z ⟨1,o,c,-1⟩ (Jo QN [q.toNat]) kv o1 o2 o3 o4 o5 o6 o7 c1 c2 c3 c4 c5 c6 c7 q1 q2 q3 r1 r2 r3 r4 r5 r6 e1 e2 e3 s1 s2 s3 s4 s5 s6 (N:=ws.heap.size) (by omega) (hid (RA.out _ HDt.out)) (hid (RH.out _ HDt.out)) HMt (hid ((HSV.out _ (RB.out _ HDt.out)).mono (by omega))) (hid ((HHV.out _ (RB.out _ HDt.out)).mono (by omega))) HKT HMW HSF HHF (hid (HTAB.out _ (RB.out _ HDt.out))) hcl hkl hvl HZ _ (hid ?_)
 intro σ w6 hbw6 ez
 have HD6:=hgo HDt hbw6
 have HX6:=rgo HXt hbw6
 have HM6:=rgo HMt hbw6
 have hsz6:=hbw6.size
 clear hbw6
 rw [ez]
 clear ez
 subst hz0
 have e8:decide ((8:Int)≤(s.conns.length:Int))=false:=by simp;omega
 obtain ⟨k0,k1,k2,k3,k4,k5,k6,k7,k8,k9⟩:=(RA.out _ HD6.out).c10
 go_wp2_with fail
 refine (HCP.out _ (RB.out _ HD6.out)).mono ?_
 rintro e w7 ⟨hbw7,p1,d1,p2,d2,p3,d3,p4,d4,p5,d5,p6,d6,p7,d7,rfl,hown⟩
 have HD7:=hgo HD6 hbw7
 have HX7:=rgo HX6 hbw7
 have HM7:=rgo HM6 hbw7
 have hsz7:=hbw7.size
 clear hbw7
 clear k0 k1 k2 k3 k4 k5 k6 k7 k8 k9
 have HO7:=hid hown
 clear hown
 obtain ⟨w8,hw8⟩:∃ w8,w7.alloc (.cells #[.string ⟨#[]⟩,.int .i64 0,.int .i64 0,.slice none 0 0,.slice none 0 0,.slice none 0 0,.slice none 0 0,.slice none 0 0,.slice none 0 0,.slice none 0 0] 28)=w8:=⟨_,rfl⟩
 have hbw8:=bof hw8
 have HD8:=hgo HD7 hbw8
 have HT8:=hid (Q7 hw8)
 have hsz8:=hbw8.size
 have HW8:=hid hw8
 clear hbw8 hw8
 obtain ⟨w9,hw9,HRSt,HHZt,HONt,HSWt⟩:=QJ HT8.out [.string s.name,.int .i64 s.height,.int .i64 s.time,.slice p1 s.clients.length d1,.slice p2 s.conns.length d2,.slice p3 s.chans.length d3,.slice p4 s.sent.length d4,.slice p5 s.got.length d5,.slice p6 s.acks.length d6,.slice p7 s.purses.length d7] (by simp [Value.oneCell'])
 have HD9:=hid (show Below w0.heap.size w0 w9 by rw [← hw9];exact Qd HD8.out (by omega) _)
 have ho9:∀ b,b≠w7.heap.size→w9.heap[b]?=w8.heap[b]?:=fun b hb=>by rw [← hw9];exact setRow_other _ _ _ _ hb
 have hsz9:w8.heap.size≤w9.heap.size:=by rw [← hw9];simp
 have hlt9:w7.heap.size<w9.heap.size:=by rw [← hw9];simp;exact HT8.out.lt
 have HO9:=hid (HO7.out.toZ.on (w':=w9) (by rw [← hw9];exact Qd ((Below.refl 0 w7).trans (by rw [← HW8.out];exact (Below.refl _ _).alloc (Nat.zero_le _) _)) (Nat.zero_le _) _) (fun b hlt hr=>(ho9 b hr.2).trans (by rw [← HW8.out];exact Below.heap_alloc _ _ _ hlt)))
 clear hw9 ho9
 have k4:w9.cell? ⟨w.heap.size,4,none⟩=some (.slice o2 s.conns.length c2):=(RA.out _ HD9.out).cell 4
 go_upto_region 39 with (first | rw [HW8.out] | skip;refine Qf rfl (.tmp 24) (.tmp 184) rfl rfl rfl HHZt.out HIZ.out rfl HONt.out HSWt.out ?_)
 obtain ⟨w10,hw10⟩:∃ w10,w9.alloc (.cells #[.int .i64 1,.int .i64 c,.int .i64 o,.int .i64 (-1)] 58)=w10:=⟨_,rfl⟩
 have hb10:=bof hw10
 have HDA:=hgo HD9 hb10
 have HTA:=rgo HRSt hb10
 have HXA:=hid (Q7 hw10)
 have HOA:=hid (HO9.out.below hb10)
 have hszA:w9.heap.size<w10.heap.size:=HXA.out.lt
 have HWA:=hid hw10
 clear hb10 hw10
 go_upto_region 43 with fail
 rw [HWA.out]
 clear k4
 have x0:w10.cell? ⟨w9.heap.size,0,none⟩=some (.int .i64 1):=HXA.out.cell 0
 have x3:w10.cell? ⟨w9.heap.size,3,none⟩=some (.int .i64 (-1)):=HXA.out.cell 3
 have zx0:w10.frozen? ⟨w9.heap.size,0,none⟩=false:=HXA.out.frozen 0
 have zx3:w10.frozen? ⟨w9.heap.size,3,none⟩=false:=HXA.out.frozen 3
 obtain ⟨wx,hwx⟩:∃ wx,(w10.setCell ⟨w9.heap.size,0,none⟩ (.int .i64 2)).setCell ⟨w9.heap.size,3,none⟩ (.int .i64 q)=wx:=⟨_,rfl⟩
 have hox:∀ b,b≠w9.heap.size→wx.heap[b]?=w10.heap[b]?:=fun b hb=>by rw [← hwx];exact (Below.heap_setCell _ _ _ _ hb).trans (Below.heap_setCell _ _ _ _ hb)
 have hszX:w10.heap.size≤wx.heap.size:=by rw [← hwx];simp [World.setCell]
 have HTX:=hid (show Row wx w7.heap.size 28 [.string s.name,.int .i64 s.height,.int .i64 s.time,.slice p1 s.clients.length d1,.slice p2 s.conns.length d2,.slice p3 s.chans.length d3,.slice p4 s.sent.length d4,.slice p5 s.got.length d5,.slice p6 s.acks.length d6,.slice p7 s.purses.length d7] from (hox _ (by omega)).trans HTA.out)
 have HXX:=hid (show Row wx w9.heap.size 58 [.int .i64 2,.int .i64 c,.int .i64 o,.int .i64 q] by rw [← hwx];exact (HXA.out.set 0 _).set 3 _)
 have HDX:=hid (show Below w0.heap.size w0 wx by rw [← hwx];exact (HDA.out.setCell (show w0.heap.size≤w9.heap.size by omega) _).setCell (show w0.heap.size≤w9.heap.size by omega) _)
 have HOX:=hid (HO9.out.on (w':=wx) (by rw [← hwx,← HWA.out];exact (((Below.refl 0 w9).alloc (Nat.zero_le _) _).setCell (Nat.zero_le _) _).setCell (Nat.zero_le _) _) (fun b hlt _=>(hox b (by omega)).trans (by rw [← HWA.out];exact Below.heap_alloc _ _ _ hlt)))
 have HWX:=hid hwx
 clear hox hwx
 go_upto_region 44 with fail
 rw [HWX.out]
 clear x0 x3 zx0 zx3
 obtain ⟨w11,hw11⟩:∃ w11,wx.alloc (.cells #[.int .i64 2,.int .i64 c,.int .i64 o,.int .i64 q] 58)=w11:=⟨_,rfl⟩
 have hb11:=bof hw11
 have HSRC:=hid (show JI w11 (wx.heap.size+1) (.slice (some ⟨wx.heap.size,0,none⟩) 1 1) 4 [Qu (⟨2,c,o,q⟩:Cn)] from Qeg (by rw [← hw11];exact Row.new _ _ _))
 have HOB:=hid (HOX.out.below hb11)
 have HOC:=hid HOB.out.conns
 have HDB:=hgo HDX hb11
 have HTB:=rgo HTX hb11
 have hszB:=hb11.size
 have t4:wx.cell? ⟨w7.heap.size,4,none⟩=some (.slice p2 s.conns.length d2):=HTX.out.cell 4
 obtain ⟨m0,m1,m2,m3⟩:=HXX.out.c4
 have HWB:=hid hw11
 clear hb11 hw11
 go_wp2_with (at_builtin;refine Hid.out ?_)
 rw [HWB.out]
 refine hid ?_
 refine ZA QcT rfl _ _ rfl w6.heap.size _ (s.conns.map Qu) rfl HOC.out _ _ (Qu (⟨2,c,o,q⟩:Cn)) rfl HSRC.out (Yx (l:=[(⟨2,c,o,q⟩:Cn)])) (by simp;omega) (by omega) ?_
 intro g da w12 hrow hb12 hg12 hlie
 have hle:(s.conns.map Qu).length+1=(s.conns ++ [(⟨2,c,o,q⟩:Cn)]).length:=by simp
 rw [hle] at hrow ⊢
 obtain ⟨pa,hpa⟩:∃ pa:Option Addr,some ⟨g,0,none⟩=pa:=⟨_,rfl⟩
 have hrow':Q3 58 Qu 4 w12 w6.heap.size (.slice (some ⟨g,0,none⟩) (s.conns ++ [(⟨2,c,o,q⟩:Cn)]).length da) (s.conns ++ [(⟨2,c,o,q⟩:Cn)]):=by unfold Q3;rw [List.map_append];exact hrow
 have hown1:=Qw.own hrow
 have hz7:∀ b,(Value.slice p2 s.conns.length d2).ownBlock=some b→b≠w7.heap.size:=fun b e=>by have:=(Qw.own HO7.out.conns b e).2;omega
 have ho12:=HOB.out.putConns hg12 hrow' (fun b e=>by obtain rfl:g=b:=(by simpa [Value.ownBlock] using e);exact hlie.imp id (fun h=>by omega)) (fun b e=>⟨.inr (hown1 b e).1,by
  obtain rfl:g=b:=(by simpa [Value.ownBlock] using e)
  rcases hlie with h | h
  ·exact hz7 g h
  ·omega⟩)
 rw [hpa] at ho12 ⊢
 have hne:∀ b,b<w11.heap.size→some b≠(Value.slice p2 s.conns.length d2).ownBlock→w12.heap[b]?=w11.heap[b]?:=fun b hb hne=>hg12.block b hb hne
 have HTC:=hid (show Row w12 w7.heap.size 28 [.string s.name,.int .i64 s.height,.int .i64 s.time,.slice p1 s.clients.length d1,.slice p2 s.conns.length d2,.slice p3 s.chans.length d3,.slice p4 s.sent.length d4,.slice p5 s.got.length d5,.slice p6 s.acks.length d6,.slice p7 s.purses.length d7] from (hne _ (by omega) (fun e=>hz7 _ e.symm rfl)).trans HTB.out)
 have HDC:=hid (show Below w0.heap.size w0 w12 from HDB.out.trans (hb12.mono (by omega)))
 have hszC:=hb12.size
 have g4:w12.cell? ⟨w7.heap.size,4,none⟩=some (.slice p2 s.conns.length d2):=HTC.out.cell 4
 have z4:w12.frozen? ⟨w7.heap.size,4,none⟩=false:=HTC.out.frozen 4
 obtain ⟨t,ht⟩:∃ t:St,{ s with conns:=s.conns ++ [(⟨2,c,o,q⟩:Cn)] }=t:=⟨_,rfl⟩
 have HTE:=hid ht
 have HOG:=hid ho12
 clear ht ho12
 generalize hln:(s.conns ++ [(⟨2,c,o,q⟩:Cn)]).length=ln at *
 obtain ⟨w13,hw13⟩:∃ w13,w12.setCell ⟨w7.heap.size,4,none⟩ (.slice pa ln da)=w13:=⟨_,rfl⟩
 have ho13:∀ b,b≠w7.heap.size→w13.heap[b]?=w12.heap[b]?:=fun b hb=>by rw [← hw13];exact Below.heap_setCell _ _ _ _ hb
 have HTD:=hid (show Row w13 w7.heap.size 28 [.string s.name,.int .i64 s.height,.int .i64 s.time,.slice p1 s.clients.length d1,.slice pa ln da,.slice p3 s.chans.length d3,.slice p4 s.sent.length d4,.slice p5 s.got.length d5,.slice p6 s.acks.length d6,.slice p7 s.purses.length d7] by rw [← hw13];exact HTC.out.set 4 _)
 have HDD:=hid (show Below w0.heap.size w0 w13 by rw [← hw13];exact HDC.out.setCell (show w0.heap.size≤w7.heap.size by omega) _)
 have HOD:=hid ((HOG.out.on (w':=w13) (by rw [← hw13];exact (Below.refl 0 w12).setCell (Nat.zero_le _) _) (fun b _ hr=>ho13 b hr.2)).holds (N:=N) (fun b hr=>hr.1))
 have hszD:w12.heap.size≤w13.heap.size:=by rw [← hw13];simp [World.setCell]
 have HLN:=hid hln
 have HWD:=hid hw13
 have a4:=hid (show w13.cell? ⟨w.heap.size,4,none⟩=some (.slice o2 s.conns.length c2) from (RA.out _ HDD.out).cell 4)
 clear hrow hrow' hb12 hg12 hne hlie hle hpa hown1 hz7 ho13 hw13 hln t4 m0 m1 m2 m3
 go_upto_region 45 with fail
 rw [HWD.out]
 clear g4 z4
 have HTT:{ s with conns:=s.conns ++ [(⟨2,c,o,q⟩:Cn)] }=t:=HTE.out
 have hname:s.name=t.name:=by rw [← HTT]
 have hheight:s.height=t.height:=by rw [← HTT]
 have htime:s.time=t.time:=by rw [← HTT]
 have hlens:s.clients.length=t.clients.length∧ln=t.conns.length∧s.chans.length=t.chans.length∧s.sent.length=t.sent.length∧s.got.length=t.got.length∧s.acks.length=t.acks.length∧s.purses.length=t.purses.length:=by rw [← HTT,← HLN.out];exact ⟨rfl,rfl,rfl,rfl,rfl,rfl,rfl⟩
 have HTF:=hid (show Row w13 w7.heap.size 28 [.string t.name,.int .i64 t.height,.int .i64 t.time,.slice p1 t.clients.length d1,.slice pa t.conns.length da,.slice p3 t.chans.length d3,.slice p4 t.sent.length d4,.slice p5 t.got.length d5,.slice p6 t.acks.length d6,.slice p7 t.purses.length d7] by rw [← hname,← hheight,← htime,← hlens.1,← hlens.2.1,← hlens.2.2.1,← hlens.2.2.2.1,← hlens.2.2.2.2.1,← hlens.2.2.2.2.2.1,← hlens.2.2.2.2.2.2];exact HTD.out)
 have HOF:=hid (show Qn N w6.heap.size w13 (.agg #[.string t.name,.int .i64 t.height,.int .i64 t.time,.slice p1 t.clients.length d1,.slice pa t.conns.length da,.slice p3 t.chans.length d3,.slice p4 t.sent.length d4,.slice p5 t.got.length d5,.slice p6 t.acks.length d6,.slice p7 t.purses.length d7]) t by rw [← hname,← hheight,← htime,← hlens.1,← hlens.2.1,← hlens.2.2.1,← hlens.2.2.2.1,← hlens.2.2.2.2.1,← hlens.2.2.2.2.2.1,← hlens.2.2.2.2.2.2,← HTT];exact HOD.out)
 clear hname hheight htime hlens HTT
 refine QkC t s.conns.length c2 o2 p1 pa p3 p4 p5 p6 p7 d1 da d3 d4 d5 d6 d7 (by omega) (by omega) HTF a4 (hid (RZ.out _ HDD.out)) _ (hid ?_)
 intro σ w14 hb14 hs14 ho14 hr14 e5 e6
 have HB14:=hid (show Below w.heap.size w w14 from ⟨hb14.os.trans (RB.out _ HDD.out).os,hb14.tape.trans (RB.out _ HDD.out).tape,hb14.output.trans (RB.out _ HDD.out).output,Nat.le_trans (RB.out _ HDD.out).size hb14.size,fun b hb=>(ho14 b (by omega)).trans ((RB.out _ HDD.out).block b hb)⟩)
 have HO14:=hid ((HOF.out.on hb14 (fun b _ hr=>ho14 b (by omega))).lower (show w.heap.size≤w6.heap.size by omega))
 have HR14:=hid hr14
 rw [e5,e6]
 clear hb14 hs14 ho14 hr14 e5 e6
 go_wp2
 obtain ⟨y0,y1,y2,y3,y4,y5,y6,y7,y8,y9⟩:=Row.c10 (g:=w.heap.size+2) HR14.out
 refine bodyPost_ret (v:=.tuple #[.agg #[.string t.name,.int .i64 t.height,.int .i64 t.time,.slice p1 t.clients.length d1,.slice pa t.conns.length da,.slice p3 t.chans.length d3,.slice p4 t.sent.length d4,.slice p5 t.got.length d5,.slice p6 t.acks.length d6,.slice p7 t.purses.length d7],.int .i64 (s.conns.length:Int),.int .i64 0]) (by simp [results,Tryz.results16,go_sem,y0,y1,y2,y3,y4,y5,y6,y7,y8,y9]) rfl ⟨HB14.out,_,rfl,?_⟩
 rw [HTE.out]
 exact HO14.out
end Go.Proofs.YtooemgkjkngpcaaGreatDoor
