/-
  What the document's Connect answers, step by step.
-/
import Derived.Test.YtooemgkjkngpcaaGreatDoorteSt9RNo
import Derived.Test.YtooemgkjkngpcaaGreatDoorteSt9RT2
import Derived.Test.YtooemgkjkngpcaaGreatDoorteSt8RWrong
import Derived.Test.YtooemgkjkngpcaaGreatDoorteCoOpened
import Derived.Test.YtooemgkjkngpcaaGreatDoorteSt9RT3
import Derived.Test.YtooemgkjkngpcaaGreatDoorteSt9RA4
import Derived.Test.YtooemgkjkngpcaaGreatDoorteSt9RC4
namespace Go.Proofs.YtooemgkjkngpcaaGreatDoor
set_option maxRecDepth 1000000
set_option maxHeartbeats 8000000
open Go.RowKit
theorem QaM (s:St) (v hv2:Value) (N:Nat) (w:World) (i c o q:Int) (h:Sh) (hv:StV w N v s) (hh:ShV w N hv2 h) (hN:N≤w.heap.size) (hfit:s.fits) (st:Int) (hw:Qm s≠0) :
  Calls Tryz.prog 16 #[.int .u8 st,v,.int .i64 i,.int .i64 c,.int .i64 o,.int .i64 q,hv2] w fun e w'=>Below w.heap.size w w'∧∃ v',e=.returned (.tuple #[v',.int .i64 (0),.int .i64 (Qm s)])∧Qn N w.heap.size w' v' (St.none):=by
 have HWR:=hid (fun wx (hx:Below w.heap.size w wx)=>Qv s v N wx (hv.below (hx.mono hN)) (Nat.le_trans hN hx.size) hfit)
 obtain ⟨o1,c1,o2,c2,o3,c3,o4,c4,o5,c5,o6,c6,o7,c7,rfl,hm⟩:=hv.open
 obtain ⟨q1,e1,q2,e2,q3,e3,r1,s1,r2,s2,r3,s3,r4,s4,r5,s5,r6,s6,rfl,-⟩:=hh.open
 obtain ⟨w0,hw0,hb0,HA0,HH0,HZ0,hsz0,RA,RH,RZ,RB,HD0,HIZ⟩:=QK w s h o1 o2 o3 o4 o5 o6 o7 c1 c2 c3 c4 c5 c6 c7 q1 e1 q2 e2 q3 e3 r1 s1 r2 s2 r3 s3 r4 s4 r5 s5 r6 s6
 have HB0:=hid hb0
 obtain ⟨k0,k1,k2,k3,k4,k5,k6,k7,k8,k9⟩:=HA0.out.c10
 have HW0:=hid hw0
 clear hv hm hh hfit hb0 hw0
 go_enter Tryz.func16,Tryz.ntmps16
 go_upto_region 2 with fail
 rw [HW0.out]
 go_wp2_with fail
 refine (HWR.out _ HB0.out).mono ?_
 rintro e w1 ⟨rfl,hb1⟩
 have HD1:=hgo HD0 hb1
 have hsz1:=hb1.size
 clear hb1
 clear k0 k1 k2 k3 k4 k5 k6 k7 k8 k9
 have e0:(Qm s != 0)=true:=by simpa using hw
 clear hw
 generalize hzz:Qm s=zz at *
 have HZZ:=hid hzz
 clear hzz
 go_wp2_with fail
 refine (Jz _ _).mono ?_
 rintro x wn ⟨rfl,hbn⟩
 obtain ⟨wz,HHZz,HSWz,HBz,y0,y1,y2,y3,y4,y5,y6,y7,y8,y9⟩:=Q8 HB0.out (HD1.out.trans (hbn.mono HD1.out.size)) HZ0.out
 clear hbn
 go_wp2_with (refine Qf rfl (.tmp 14) (.tmp 33) rfl rfl rfl HHZz.out HIZ.out rfl ZT HSWz.out ?_)
 refine bodyPost_ret (v:=.tuple #[.agg zA,.int .i64 0,.int .i64 zz]) (by simp [zA,results,Tryz.results16,go_sem,y0,y1,y2,y3,y4,y5,y6,y7,y8,y9]) rfl ⟨HBz.out,_,by rw [HZZ.out];first | done | rfl,?_⟩
 exact Qp _ _ _
theorem Qg5 (s:St) (v hv2:Value) (N:Nat) (w:World) (i c o q:Int) (h:Sh) (hv:StV w N v s) (hh:ShV w N hv2 h) (hN:N≤w.heap.size) (hfit:s.fits) (hw:Qm s=0) (hl:QA s c≠0) :
  Calls Tryz.prog 16 #[.int .u8 105,v,.int .i64 i,.int .i64 c,.int .i64 o,.int .i64 q,hv2] w fun e w'=>Below w.heap.size w w'∧∃ v',e=.returned (.tuple #[v',.int .i64 (0),.int .i64 (QA s c)])∧Qn N w.heap.size w' v' (St.none):=by
 have HWR:=hid (fun wx (hx:Below w.heap.size w wx)=>Qv s v N wx (hv.below (hx.mono hN)) (Nat.le_trans hN hx.size) hfit)
 have HLV:=hid (fun wx (hx:Below w.heap.size w wx)=>Q4 s v N wx c (hv.below (hx.mono hN)) (Nat.le_trans hN hx.size) hw)
 obtain ⟨o1,c1,o2,c2,o3,c3,o4,c4,o5,c5,o6,c6,o7,c7,rfl,hm⟩:=hv.open
 obtain ⟨q1,e1,q2,e2,q3,e3,r1,s1,r2,s2,r3,s3,r4,s4,r5,s5,r6,s6,rfl,-⟩:=hh.open
 obtain ⟨w0,hw0,hb0,HA0,HH0,HZ0,hsz0,RA,RH,RZ,RB,HD0,HIZ⟩:=QK w s h o1 o2 o3 o4 o5 o6 o7 c1 c2 c3 c4 c5 c6 c7 q1 e1 q2 e2 q3 e3 r1 s1 r2 s2 r3 s3 r4 s4 r5 s5 r6 s6
 have HB0:=hid hb0
 obtain ⟨k0,k1,k2,k3,k4,k5,k6,k7,k8,k9⟩:=HA0.out.c10
 have HW0:=hid hw0
 clear hv hm hh hfit hb0 hw0
 go_enter Tryz.func16,Tryz.ntmps16
 go_upto_region 2 with fail
 rw [HW0.out]
 go_wp2_with fail
 refine (HWR.out _ HB0.out).mono ?_
 rintro e w1 ⟨rfl,hb1⟩
 have HD1:=hgo HD0 hb1
 have hsz1:=hb1.size
 clear hb1
 clear k0 k1 k2 k3 k4 k5 k6 k7 k8 k9
 rw [hw]
 obtain ⟨w2,hw2⟩:∃ w2,w1.alloc (.cells #[.int .i64 0,.int .i64 0,.int .i64 0,.int .i64 0] 58)=w2:=⟨_,rfl⟩
 have hbw2:=bof hw2
 have HD2:=hgo HD1 hbw2
 have HX2:=hid (Q7 hw2)
 have hsz2:=hbw2.size
 have HW2:=hid hw2
 clear hbw2 hw2
 have hltX:w1.heap.size<w2.heap.size:=HX2.out.lt
 go_upto_region 13 with fail
 rw [HW2.out]
 obtain ⟨k0,k1,k2,k3,k4,k5,k6,k7,k8,k9⟩:=(RA.out _ HD2.out).c10
 go_wp2_with fail
 refine (HLV.out _ (RB.out _ HD2.out)).mono ?_
 rintro e w3 ⟨rfl,hbw3⟩
 have HD3:=hgo HD2 hbw3
 have HX3:=rgo HX2 hbw3
 have hsz3:=hbw3.size
 clear hbw3
 clear k0 k1 k2 k3 k4 k5 k6 k7 k8 k9
 have e0:(QA s c != 0)=true:=by simpa using hl
 clear hl
 generalize hzz:QA s c=zz at *
 have HZZ:=hid hzz
 clear hzz
 go_wp2_with fail
 refine (Jz _ _).mono ?_
 rintro x wn ⟨rfl,hbn⟩
 obtain ⟨wz,HHZz,HSWz,HBz,y0,y1,y2,y3,y4,y5,y6,y7,y8,y9⟩:=Q8 HB0.out (HD3.out.trans (hbn.mono HD3.out.size)) HZ0.out
 clear hbn
 go_wp2_with (refine Qf rfl (.tmp 14) (.tmp 92) rfl rfl rfl HHZz.out HIZ.out rfl ZT HSWz.out ?_)
 refine bodyPost_ret (v:=.tuple #[.agg zA,.int .i64 0,.int .i64 zz]) (by simp [zA,results,Tryz.results16,go_sem,y0,y1,y2,y3,y4,y5,y6,y7,y8,y9]) rfl ⟨HBz.out,_,by rw [HZZ.out];first | done | rfl,?_⟩
 exact Qp _ _ _
theorem Qhl (s:St) (v hv2:Value) (N:Nat) (w:World) (i c o q:Int) (h:Sh) (hv:StV w N v s) (hh:ShV w N hv2 h) (hN:N≤w.heap.size) (hfit:s.fits) (hw:Qm s=0) (hl:QA s c≠0) :
  Calls Tryz.prog 16 #[.int .u8 116,v,.int .i64 i,.int .i64 c,.int .i64 o,.int .i64 q,hv2] w fun e w'=>Below w.heap.size w w'∧∃ v',e=.returned (.tuple #[v',.int .i64 (0),.int .i64 (QA s c)])∧Qn N w.heap.size w' v' (St.none):=by
 have HWR:=hid (fun wx (hx:Below w.heap.size w wx)=>Qv s v N wx (hv.below (hx.mono hN)) (Nat.le_trans hN hx.size) hfit)
 have HLV:=hid (fun wx (hx:Below w.heap.size w wx)=>Q4 s v N wx c (hv.below (hx.mono hN)) (Nat.le_trans hN hx.size) hw)
 obtain ⟨o1,c1,o2,c2,o3,c3,o4,c4,o5,c5,o6,c6,o7,c7,rfl,hm⟩:=hv.open
 obtain ⟨q1,e1,q2,e2,q3,e3,r1,s1,r2,s2,r3,s3,r4,s4,r5,s5,r6,s6,rfl,-⟩:=hh.open
 obtain ⟨w0,hw0,hb0,HA0,HH0,HZ0,hsz0,RA,RH,RZ,RB,HD0,HIZ⟩:=QK w s h o1 o2 o3 o4 o5 o6 o7 c1 c2 c3 c4 c5 c6 c7 q1 e1 q2 e2 q3 e3 r1 s1 r2 s2 r3 s3 r4 s4 r5 s5 r6 s6
 have HB0:=hid hb0
 obtain ⟨k0,k1,k2,k3,k4,k5,k6,k7,k8,k9⟩:=HA0.out.c10
 have HW0:=hid hw0
 clear hv hm hh hfit hb0 hw0
 go_enter Tryz.func16,Tryz.ntmps16
 go_upto_region 2 with fail
 rw [HW0.out]
 go_wp2_with fail
 refine (HWR.out _ HB0.out).mono ?_
 rintro e w1 ⟨rfl,hb1⟩
 have HD1:=hgo HD0 hb1
 have hsz1:=hb1.size
 clear hb1
 clear k0 k1 k2 k3 k4 k5 k6 k7 k8 k9
 rw [hw]
 obtain ⟨w2,hw2⟩:∃ w2,w1.alloc (.cells #[.int .i64 0,.int .i64 0,.int .i64 0,.int .i64 0] 58)=w2:=⟨_,rfl⟩
 have hbw2:=bof hw2
 have HD2:=hgo HD1 hbw2
 have HX2:=hid (Q7 hw2)
 have hsz2:=hbw2.size
 have HW2:=hid hw2
 clear hbw2 hw2
 have hltX:w1.heap.size<w2.heap.size:=HX2.out.lt
 go_upto_region 13 with fail
 rw [HW2.out]
 obtain ⟨k0,k1,k2,k3,k4,k5,k6,k7,k8,k9⟩:=(RA.out _ HD2.out).c10
 go_wp2_with fail
 refine (HLV.out _ (RB.out _ HD2.out)).mono ?_
 rintro e w3 ⟨rfl,hbw3⟩
 have HD3:=hgo HD2 hbw3
 have HX3:=rgo HX2 hbw3
 have hsz3:=hbw3.size
 clear hbw3
 clear k0 k1 k2 k3 k4 k5 k6 k7 k8 k9
 have e0:(QA s c != 0)=true:=by simpa using hl
 clear hl
 generalize hzz:QA s c=zz at *
 have HZZ:=hid hzz
 clear hzz
 go_wp2_with fail
 refine (Jz _ _).mono ?_
 rintro x wn ⟨rfl,hbn⟩
 obtain ⟨wz,HHZz,HSWz,HBz,y0,y1,y2,y3,y4,y5,y6,y7,y8,y9⟩:=Q8 HB0.out (HD3.out.trans (hbn.mono HD3.out.size)) HZ0.out
 clear hbn
 go_wp2_with (refine Qf rfl (.tmp 14) (.tmp 92) rfl rfl rfl HHZz.out HIZ.out rfl ZT HSWz.out ?_)
 refine bodyPost_ret (v:=.tuple #[.agg zA,.int .i64 0,.int .i64 zz]) (by simp [zA,results,Tryz.results16,go_sem,y0,y1,y2,y3,y4,y5,y6,y7,y8,y9]) rfl ⟨HBz.out,_,by rw [HZZ.out];first | done | rfl,?_⟩
 exact Qp _ _ _
theorem QeY (s:St) (v hv2:Value) (N:Nat) (w:World) (i c o q:Int) (h:Sh) (hv:StV w N v s) (hh:ShV w N hv2 h) (hN:N≤w.heap.size) (hfit:s.fits)  :
  Calls Tryz.prog 16 #[.int .u8 105,v,.int .i64 i,.int .i64 c,.int .i64 o,.int .i64 q,hv2] w fun e w'=>Below w.heap.size w w'∧∃ v',e=.returned (.tuple #[v',.int .i64 (JD s (Ju s c o)),.int .i64 (Ju s c o)])∧Qn N w.heap.size w' v' (Ym s c o):=by
 by_cases hw:Qm s=0
 ·have hS:QQ s c=QA s c:=if_neg (by simp [hw])
  by_cases hl:QA s c=0
  ·cases hfo:Qg 0 o with
   | false =>
    have hN0:Ju s c o=3:=by unfold Ju;rw [hS,if_neg (by simp [hl]),if_pos hfo]
    rw [show Ym s c o=St.none by unfold Ym;unfold Zb;rw [hN0,if_neg (by first | decide | exact hne)],show JD s (Ju s c o)=0 by unfold JD;rw [hN0,if_neg (by first | decide | exact hne)],hN0]
    exact QfA s v hv2 N w i c o q h hv hh hN hfit hw hl hfo
   | true =>
    by_cases h8:8≤s.conns.length
    ·have hN0:Ju s c o=5:=by unfold Ju Yc;rw [hS,if_neg (by simp [hl]),if_neg (by simp [hfo]),if_pos h8]
     rw [show Ym s c o=St.none by unfold Ym;unfold Zb;rw [hN0,if_neg (by first | decide | exact hne)],show JD s (Ju s c o)=0 by unfold JD;rw [hN0,if_neg (by first | decide | exact hne)],hN0]
     exact QhQ s v hv2 N w i c o q h hv hh hN hfit hw hl hfo h8
    ·have hN0:Ju s c o=0:=by unfold Ju Yc;rw [hS,if_neg (by simp [hl]),if_neg (by simp [hfo]),if_neg h8]
     rw [show Ym s c o={ s with conns:=s.conns ++ [⟨1,c,o,-1⟩] } by unfold Ym;unfold Zb;rw [hN0,if_pos rfl],show JD s (Ju s c o)=(s.conns.length:Int) by unfold JD;rw [hN0,if_pos rfl],hN0]
     exact QjL s v hv2 N w i c o q h hv hh hN hfit hw hl hfo h8
  ·have hne:QA s c≠0:=hl
   have hN0:Ju s c o=QA s c:=by unfold Ju;rw [hS,if_pos hl]
   rw [show Ym s c o=St.none by unfold Ym;unfold Zb;rw [hN0,if_neg (by first | decide | exact hne)],show JD s (Ju s c o)=0 by unfold JD;rw [hN0,if_neg (by first | decide | exact hne)],hN0]
   exact Qg5 s v hv2 N w i c o q h hv hh hN hfit hw hl
 ·have hne:Qm s≠0:=hw
  have hS:QQ s c=Qm s:=if_pos hw
  have hN0:Ju s c o=Qm s:=by unfold Ju;rw [hS,if_pos hw]
  rw [show Ym s c o=St.none by unfold Ym;unfold Zb;rw [hN0,if_neg (by first | decide | exact hne)],show JD s (Ju s c o)=0 by unfold JD;rw [hN0,if_neg (by first | decide | exact hne)],hN0]
  exact QaM s v hv2 N w i c o q h hv hh hN hfit 105 hw
theorem QfT (s:St) (v hv2:Value) (N:Nat) (w:World) (i c o q:Int) (h:Sh) (hv:StV w N v s) (hh:ShV w N hv2 h) (hN:N≤w.heap.size) (hfit:s.fits) (z:Int) (hhf:h.fits) (htab:Qt w) (hz:QaF s c o q h z) :
  Calls Tryz.prog 16 #[.int .u8 116,v,.int .i64 i,.int .i64 c,.int .i64 o,.int .i64 q,hv2] w fun e w'=>Below w.heap.size w w'∧∃ v',e=.returned (.tuple #[v',.int .i64 (JD s (Jv s c o q z)),.int .i64 (Jv s c o q z)])∧Qn N w.heap.size w' v' (Yt s c o q z):=by
 by_cases hw:Qm s=0
 ·have hS:QQ s c=QA s c:=if_neg (by simp [hw])
  by_cases hl:QA s c=0
  ·cases hfo:Qg 0 o with
   | false =>
    have hN0:Jv s c o q z=3:=by unfold Jv;rw [hS,if_neg (by simp [hl]),if_pos (by simp [hfo])]
    rw [show Yt s c o q z=St.none by unfold Yt;unfold Zb;rw [hN0,if_neg (by first | decide | exact hne)],show JD s (Jv s c o q z)=0 by unfold JD;rw [hN0,if_neg (by first | decide | exact hne)],hN0]
    exact Qez s v hv2 N w i c o q h hv hh hN hfit hw hl hfo
   | true =>
    cases hfq:Qg 0 q with
    | false =>
     have hN0:Jv s c o q z=3:=by unfold Jv;rw [hS,if_neg (by simp [hl]),if_pos (by simp [hfq])]
     rw [show Yt s c o q z=St.none by unfold Yt;unfold Zb;rw [hN0,if_neg (by first | decide | exact hne)],show JD s (Jv s c o q z)=0 by unfold JD;rw [hN0,if_neg (by first | decide | exact hne)],hN0]
     exact Qfi s v hv2 N w i c o q h hv hh hN hfit hw hl hfo hfq
    | true =>
     by_cases hz0:z=0
     ·by_cases h8:8≤s.conns.length
      ·have hN0:Jv s c o q z=5:=by unfold Jv Yc;rw [hS,if_neg (by simp [hl]),if_neg (by simp [hfo,hfq]),if_neg (by simp [hz0]),if_pos h8]
       rw [show Yt s c o q z=St.none by unfold Yt;unfold Zb;rw [hN0,if_neg (by first | decide | exact hne)],show JD s (Jv s c o q z)=0 by unfold JD;rw [hN0,if_neg (by first | decide | exact hne)],hN0]
       exact Qg4 s v hv2 N w i c o q h hv hh hN hfit z hhf htab hz hw hl hfo hfq hz0 h8
      ·have hN0:Jv s c o q z=0:=by unfold Jv Yc;rw [hS,if_neg (by simp [hl]),if_neg (by simp [hfo,hfq]),if_neg (by simp [hz0]),if_neg h8]
       rw [show Yt s c o q z={ s with conns:=s.conns ++ [⟨2,c,o,q⟩] } by unfold Yt;unfold Zb;rw [hN0,if_pos rfl],show JD s (Jv s c o q z)=(s.conns.length:Int) by unfold JD;rw [hN0,if_pos rfl],hN0]
       exact QjP s v hv2 N w i c o q h hv hh hN hfit z hhf htab hz hw hl hfo hfq hz0 h8
     ·have hne:z≠0:=hz0
      have hN0:Jv s c o q z=z:=by unfold Jv;rw [hS,if_neg (by simp [hl]),if_neg (by simp [hfo,hfq]),if_pos hz0]
      rw [show Yt s c o q z=St.none by unfold Yt;unfold Zb;rw [hN0,if_neg (by first | decide | exact hne)],show JD s (Jv s c o q z)=0 by unfold JD;rw [hN0,if_neg (by first | decide | exact hne)],hN0]
      exact QfH s v hv2 N w i c o q h hv hh hN hfit z hhf htab hz hw hl hfo hfq hz0
  ·have hne:QA s c≠0:=hl
   have hN0:Jv s c o q z=QA s c:=by unfold Jv;rw [hS,if_pos hl]
   rw [show Yt s c o q z=St.none by unfold Yt;unfold Zb;rw [hN0,if_neg (by first | decide | exact hne)],show JD s (Jv s c o q z)=0 by unfold JD;rw [hN0,if_neg (by first | decide | exact hne)],hN0]
   exact Qhl s v hv2 N w i c o q h hv hh hN hfit hw hl
 ·have hne:Qm s≠0:=hw
  have hS:QQ s c=Qm s:=if_pos hw
  have hN0:Jv s c o q z=Qm s:=by unfold Jv;rw [hS,if_pos hw]
  rw [show Yt s c o q z=St.none by unfold Yt;unfold Zb;rw [hN0,if_neg (by first | decide | exact hne)],show JD s (Jv s c o q z)=0 by unfold JD;rw [hN0,if_neg (by first | decide | exact hne)],hN0]
  exact QaM s v hv2 N w i c o q h hv hh hN hfit 116 hw
theorem Qfy (s:St) (v hv2:Value) (N:Nat) (w:World) (i c o q:Int) (h:Sh) (hv:StV w N v s) (hh:ShV w N hv2 h) (hN:N≤w.heap.size) (hfit:s.fits) (z:Int) (hhf:h.fits) (htab:Qt w) (hz:Qaa s i q h z) :
  Calls Tryz.prog 16 #[.int .u8 97,v,.int .i64 i,.int .i64 c,.int .i64 o,.int .i64 q,hv2] w fun e w'=>Below w.heap.size w w'∧∃ v',e=.returned (.tuple #[v',.int .i64 (0),.int .i64 (Ze s i q z)])∧Qn N w.heap.size w' v' (Zg s i q z):=by
 by_cases hw:Qm s=0
 ·by_cases hi:i<0
  ·have hN0:Ze s i q z=6:=by unfold Ze;rw [show JB s i 1=6 by unfold JB;rw [if_neg (by simp [hw]),if_pos (.inl hi)]];rfl
   rw [show Zg s i q z=St.none by unfold Zg;unfold YZ;rw [hN0,if_neg (by first | decide | exact hne)],hN0]
   exact Qiq s v hv2 N w i c o q h hv hh hN hfit hw hi
  ·by_cases hi2:(s.conns.length:Int)≤i
   ·have hN0:Ze s i q z=6:=by unfold Ze;rw [show JB s i 1=6 by unfold JB;rw [if_neg (by simp [hw]),if_pos (.inr hi2)]];rfl
    rw [show Zg s i q z=St.none by unfold Zg;unfold YZ;rw [hN0,if_neg (by first | decide | exact hne)],hN0]
    exact QiQ s v hv2 N w i c o q h hv hh hN hfit hw (by omega)
   ·obtain ⟨k,hik⟩:∃ k:Nat,i=(k:Int):=⟨i.toNat,by omega⟩
    obtain ⟨x,hx⟩:∃ x,s.conns[k]?=some x:=⟨s.conns[k]'(by omega),List.getElem?_eq_getElem _⟩
    by_cases hst:x.state=1
    ·have hE:JB s i 1=QA s x.client:=by unfold JB;rw [if_neg (by simp [hw]),if_neg (by omega),hik,QO hx,if_neg (by simp [hst])]
     by_cases hl:QA s x.client=0
     ·
      cases hfq:Qg 0 q with
      | false =>
       have hN0:Ze s i q z=3:=by unfold Ze;rw [hE,if_neg (by simp [hl]),if_pos hfq]
       rw [show Zg s i q z=St.none by unfold Zg;unfold YZ;rw [hN0,if_neg (by first | decide | exact hne)],hN0]
       exact Qgt s v hv2 N w i c o q h hv hh hN hfit k x hik hx hw hst hl hfq
      | true =>
       by_cases hz0:z=0
       ·have hN0:Ze s i q z=0:=by unfold Ze;rw [hE,if_neg (by simp [hl]),if_neg (by simp [hfq]),hz0]
        rw [show Zg s i q z={ s with conns:=s.conns.set k ⟨3,x.client,x.oclient,q⟩ } by unfold Zg;unfold YZ;rw [hN0,if_pos rfl];try rw [hik,Int.toNat_natCast,QO hx],hN0]
        exact QjR s v hv2 N w i c o q h hv hh hN hfit k x hik hx hw z hhf htab hz hst hl hfq hz0
       ·have hne:z≠0:=hz0
        have hN0:Ze s i q z=z:=by unfold Ze;rw [hE,if_neg (by simp [hl]),if_neg (by simp [hfq])]
        rw [show Zg s i q z=St.none by unfold Zg;unfold YZ;rw [hN0,if_neg (by first | decide | exact hne)],hN0]
        exact Qgg s v hv2 N w i c o q h hv hh hN hfit k x hik hx hw z hhf htab hz hst hl hfq hz0
     ·have hne:QA s x.client≠0:=hl
      have hN0:Ze s i q z=QA s x.client:=by unfold Ze;rw [hE,if_pos hl]
      rw [show Zg s i q z=St.none by unfold Zg;unfold YZ;rw [hN0,if_neg (by first | decide | exact hne)],hN0]
      exact QhL s v hv2 N w i c o q h hv hh hN hfit k x hik hx hw hst hl
    ·have hE:JB s i 1=12:=by unfold JB;rw [if_neg (by simp [hw]),if_neg (by omega),hik,QO hx,if_pos hst]
     have hN0:Ze s i q z=12:=by unfold Ze;rw [hE];rfl
     rw [show Zg s i q z=St.none by unfold Zg;unfold YZ;rw [hN0,if_neg (by first | decide | exact hne)],hN0]
     exact QfD s v hv2 N w i c o q h hv hh hN hfit k x hik hx hw hst
 ·have hne:Qm s≠0:=hw
  have hE:JB s i 1=Qm s:=if_pos hw
  have hN0:Ze s i q z=Qm s:=by unfold Ze;rw [hE,if_pos hw]
  rw [show Zg s i q z=St.none by unfold Zg;unfold YZ;rw [hN0,if_neg (by first | decide | exact hne)],hN0]
  exact QaM s v hv2 N w i c o q h hv hh hN hfit 97 hw
theorem Qes (s:St) (v hv2:Value) (N:Nat) (w:World) (i c o q:Int) (h:Sh) (hv:StV w N v s) (hh:ShV w N hv2 h) (hN:N≤w.heap.size) (hfit:s.fits) (z:Int) (hhf:h.fits) (htab:Qt w) (hz:Zm s i h z) :
  Calls Tryz.prog 16 #[.int .u8 99,v,.int .i64 i,.int .i64 c,.int .i64 o,.int .i64 q,hv2] w fun e w'=>Below w.heap.size w w'∧∃ v',e=.returned (.tuple #[v',.int .i64 (0),.int .i64 (JR s i z)])∧Qn N w.heap.size w' v' (JP s i z):=by
 by_cases hw:Qm s=0
 ·by_cases hi:i<0
  ·have hN0:JR s i z=6:=by unfold JR;rw [show JB s i 2=6 by unfold JB;rw [if_neg (by simp [hw]),if_pos (.inl hi)]];rfl
   rw [show JP s i z=St.none by unfold JP;unfold YZ;rw [hN0,if_neg (by first | decide | exact hne)],hN0]
   exact Qii s v hv2 N w i c o q h hv hh hN hfit hw hi
  ·by_cases hi2:(s.conns.length:Int)≤i
   ·have hN0:JR s i z=6:=by unfold JR;rw [show JB s i 2=6 by unfold JB;rw [if_neg (by simp [hw]),if_pos (.inr hi2)]];rfl
    rw [show JP s i z=St.none by unfold JP;unfold YZ;rw [hN0,if_neg (by first | decide | exact hne)],hN0]
    exact QiB s v hv2 N w i c o q h hv hh hN hfit hw (by omega)
   ·obtain ⟨k,hik⟩:∃ k:Nat,i=(k:Int):=⟨i.toNat,by omega⟩
    obtain ⟨x,hx⟩:∃ x,s.conns[k]?=some x:=⟨s.conns[k]'(by omega),List.getElem?_eq_getElem _⟩
    by_cases hst:x.state=2
    ·have hE:JB s i 2=QA s x.client:=by unfold JB;rw [if_neg (by simp [hw]),if_neg (by omega),hik,QO hx,if_neg (by simp [hst])]
     by_cases hl:QA s x.client=0
     ·
      by_cases hoc:x.oconn<0
      ·have hN0:JR s i z=8:=by unfold JR;rw [hE,if_neg (by simp [hl]),hik,QO hx,if_pos hoc]
       rw [show JP s i z=St.none by unfold JP;unfold YZ;rw [hN0,if_neg (by first | decide | exact hne)],hN0]
       exact Qie s v hv2 N w i c o q h hv hh hN hfit k x hik hx hw hst hl hoc
      ·by_cases hz0:z=0
       ·have hN0:JR s i z=0:=by unfold JR;rw [hE,if_neg (by simp [hl]),hik,QO hx,if_neg hoc,hz0]
        rw [show JP s i z={ s with conns:=s.conns.set k ⟨3,x.client,x.oclient,x.oconn⟩ } by unfold JP;unfold YZ;rw [hN0,if_pos rfl];try rw [hik,Int.toNat_natCast,QO hx],hN0]
        exact Qjz s v hv2 N w i c o q h hv hh hN hfit k x hik hx hw z hhf htab hz hst hl (by omega) hz0
       ·have hne:z≠0:=hz0
        have hN0:JR s i z=z:=by unfold JR;rw [hE,if_neg (by simp [hl]),hik,QO hx,if_neg hoc]
        rw [show JP s i z=St.none by unfold JP;unfold YZ;rw [hN0,if_neg (by first | decide | exact hne)],hN0]
        exact QfP s v hv2 N w i c o q h hv hh hN hfit k x hik hx hw z hhf htab hz hst hl (by omega) hz0
     ·have hne:QA s x.client≠0:=hl
      have hN0:JR s i z=QA s x.client:=by unfold JR;rw [hE,if_pos hl]
      rw [show JP s i z=St.none by unfold JP;unfold YZ;rw [hN0,if_neg (by first | decide | exact hne)],hN0]
      exact Qg1 s v hv2 N w i c o q h hv hh hN hfit k x hik hx hw hst hl
    ·have hE:JB s i 2=12:=by unfold JB;rw [if_neg (by simp [hw]),if_neg (by omega),hik,QO hx,if_pos hst]
     have hN0:JR s i z=12:=by unfold JR;rw [hE];rfl
     rw [show JP s i z=St.none by unfold JP;unfold YZ;rw [hN0,if_neg (by first | decide | exact hne)],hN0]
     exact QfW s v hv2 N w i c o q h hv hh hN hfit k x hik hx hw hst
 ·have hne:Qm s≠0:=hw
  have hE:JB s i 2=Qm s:=if_pos hw
  have hN0:JR s i z=Qm s:=by unfold JR;rw [hE,if_pos hw]
  rw [show JP s i z=St.none by unfold JP;unfold YZ;rw [hN0,if_neg (by first | decide | exact hne)],hN0]
  exact QaM s v hv2 N w i c o q h hv hh hN hfit 99 hw
end Go.Proofs.YtooemgkjkngpcaaGreatDoor
