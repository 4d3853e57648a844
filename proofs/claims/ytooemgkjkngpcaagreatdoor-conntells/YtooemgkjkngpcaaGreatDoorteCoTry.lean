/-
  Package conn's Try.
-/
import Derived.Test.YtooemgkjkngpcaaGreatDoorteSt9RT2
namespace Go.Proofs.YtooemgkjkngpcaaGreatDoor
set_option maxRecDepth 1000000
set_option maxHeartbeats 8000000
open Go.RowKit
theorem QcI (s:St) (v hv2:Value) (N:Nat) (w:World) (c o q z:Int) (h:Sh) (hv:StV w N v s) (hh:ShV w N hv2 h) (hN:N≤w.heap.size) (hfit:s.fits) (hbad:QQ s c≠0∨(Qg 0 o && Qg 0 q)=false) :
  Calls Tryz.prog 18 #[v,.int .i64 c,.int .i64 o,.int .i64 q,hv2] w fun e w'=>Below w.heap.size w w'∧∃ v',e=.returned (.tuple #[v',.int .i64 (JD s (Jv s c o q z)),.int .i64 (Jv s c o q z)])∧Qn N w.heap.size w' v' (Yt s c o q z):=by
 have HST:=hid (fun wx (hx:Below w.heap.size w wx)=>QbP s v N wx c (hv.below (hx.mono hN)) (Nat.le_trans hN hx.size) hfit)
 have HDN:=hid (show Jv s c o q z=if QQ s c≠0 then QQ s c else if (Qg 0 o && Qg 0 q)=false then 3 else if z≠0 then z else Yc s from rfl)
 obtain ⟨o1,c1,o2,c2,o3,c3,o4,c4,o5,c5,o6,c6,o7,c7,rfl,hm⟩:=hv.open
 obtain ⟨q1,e1,q2,e2,q3,e3,r1,s1,r2,s2,r3,s3,r4,s4,r5,s5,r6,s6,rfl,-⟩:=hh.open
 obtain ⟨w0,hw0,hb0,HR0,HR1,HR2,hsz0⟩:=Qg9 w 28 [.string s.name,.int .i64 s.height,.int .i64 s.time,.slice o1 s.clients.length c1,.slice o2 s.conns.length c2,.slice o3 s.chans.length c3,.slice o4 s.sent.length c4,.slice o5 s.got.length c5,.slice o6 s.acks.length c6,.slice o7 s.purses.length c7] 46 [.int .i64 h.height,.int .i64 h.prf.index,.int .i64 h.prf.size,.slice q1 h.prf.key.length e1,.slice q2 h.prf.val.length e2,.slice q3 h.prf.path.length e3,.bool h.gap.hasL,.bool h.gap.hasR,.int .i64 h.gap.left.index,.int .i64 h.gap.left.size,.slice r1 h.gap.left.key.length s1,.slice r2 h.gap.left.val.length s2,.slice r3 h.gap.left.path.length s3,.int .i64 h.gap.right.index,.int .i64 h.gap.right.size,.slice r4 h.gap.right.key.length s4,.slice r5 h.gap.right.val.length s5,.slice r6 h.gap.right.path.length s6] 28 [.string ⟨#[]⟩,.int .i64 0,.int .i64 0,.slice none 0 0,.slice none 0 0,.slice none 0 0,.slice none 0 0,.slice none 0 0,.slice none 0 0,.slice none 0 0]
 have HB0:=hid hb0
 have HIZ:=hid (show (Tryz.prog.info? 28).map (·.size)=some 10 by kernel_rfl)
 obtain ⟨k0,k1,k2,k3,k4,k5,k6,k7,k8,k9⟩:=HR0.out.c10
 have HW0:=hid hw0
 clear hv hm hh hfit hb0 hw0
 go_enter Tryz.func18,Tryz.ntmps18
 go_upto_region 1 with fail
 rw [HW0.out]
 go_wp2_with fail
 refine (HST.out _ HB0.out).mono ?_
 rintro e w1 ⟨rfl,hb1⟩
 have HB1:=hgo HB0 hb1
 have HZ1:=rgo HR2 hb1
 have hsz1:=hb1.size
 clear hb1
 clear k0 k1 k2 k3 k4 k5 k6 k7 k8 k9
 by_cases hs:QQ s c=0
 ·have HS:=hid hs
  rw [hs]
  clear hs
  cases hfo:Qg 0 o with
  | false =>
   have HFO:=hid hfo
   have HI:=hid (show Jv s c o q z=3 by rw [HDN.out,if_neg (by simp [HS.out]),if_pos (by simp [hfo])])
   clear hfo
   obtain ⟨wz1,hwz1,HRSz1,HHZz1,HONz1,HSWz1⟩:=QJ HZ1.out [.string ⟨#[]⟩,.int .i64 0,.int .i64 0,.slice none 0 0,.slice none 0 0,.slice none 0 0,.slice none 0 0,.slice none 0 0,.slice none 0 0,.slice none 0 0] (by simp [Value.oneCell'])
   have HBz1:=hid (show Below w.heap.size w wz1 by rw [← hwz1];exact Qd HB1.out (by omega) _)
   clear hwz1
   go_wp2_with (first | (go_at_call 26;refine (QI _ _ _).mono ?_;rintro e w' ⟨rfl,hww⟩;obtain rfl:=hww.symm;rw [HFO.out]) | (refine Qf rfl (.tmp 10) (.tmp 31) rfl rfl rfl HHZz1.out HIZ.out rfl HONz1.out HSWz1.out ?_))
   obtain ⟨y0,y1,y2,y3,y4,y5,y6,y7,y8,y9⟩:=HRSz1.out.c10
   refine bodyPost_ret (v:=.tuple #[.agg #[.string ⟨#[]⟩,.int .i64 0,.int .i64 0,.slice none 0 0,.slice none 0 0,.slice none 0 0,.slice none 0 0,.slice none 0 0,.slice none 0 0,.slice none 0 0],.int .i64 0,.int .i64 3]) (by simp [results,Tryz.results18,go_sem,y0,y1,y2,y3,y4,y5,y6,y7,y8,y9]) rfl ⟨HBz1.out,_,by rw [HI.out];first | done | rfl,?_⟩
   rw [show Yt s c o q z=St.none by unfold Yt Zb;rw [HI.out];rfl]
   exact Qp _ _ _
  | true =>
   have HFO:=hid hfo
   cases hfq:Qg 0 q with
   | false =>
    have HFQ:=hid hfq
    have HI:=hid (show Jv s c o q z=3 by rw [HDN.out,if_neg (by simp [HS.out]),if_pos (by simp [hfq])])
    clear hfo hfq
    obtain ⟨wz2,hwz2,HRSz2,HHZz2,HONz2,HSWz2⟩:=QJ HZ1.out [.string ⟨#[]⟩,.int .i64 0,.int .i64 0,.slice none 0 0,.slice none 0 0,.slice none 0 0,.slice none 0 0,.slice none 0 0,.slice none 0 0,.slice none 0 0] (by simp [Value.oneCell'])
    have HBz2:=hid (show Below w.heap.size w wz2 by rw [← hwz2];exact Qd HB1.out (by omega) _)
    clear hwz2
    go_wp2_with (first | (go_at_call 26;refine (QI _ _ _).mono ?_;rintro e w' ⟨rfl,hww⟩;obtain rfl:=hww.symm;first | rw [HFO.out] | rw [HFQ.out]) | (refine Qf rfl (.tmp 10) (.tmp 31) rfl rfl rfl HHZz2.out HIZ.out rfl HONz2.out HSWz2.out ?_))
    obtain ⟨y0,y1,y2,y3,y4,y5,y6,y7,y8,y9⟩:=HRSz2.out.c10
    refine bodyPost_ret (v:=.tuple #[.agg #[.string ⟨#[]⟩,.int .i64 0,.int .i64 0,.slice none 0 0,.slice none 0 0,.slice none 0 0,.slice none 0 0,.slice none 0 0,.slice none 0 0,.slice none 0 0],.int .i64 0,.int .i64 3]) (by simp [results,Tryz.results18,go_sem,y0,y1,y2,y3,y4,y5,y6,y7,y8,y9]) rfl ⟨HBz2.out,_,by rw [HI.out];first | done | rfl,?_⟩
    rw [show Yt s c o q z=St.none by unfold Yt Zb;rw [HI.out];rfl]
    exact Qp _ _ _
   | true =>
    exact absurd hbad (by simp [HS.out,hfo,hfq])
 ·have e0:(QQ s c != 0)=true:=by simpa using hs
  have HI:=hid (show Jv s c o q z=QQ s c by rw [HDN.out,if_pos hs])
  have HNO:=hid (show Yt s c o q z=St.none by unfold Yt Zb;rw [HI.out,if_neg hs])
  have HAI:=hid (show JD s (Jv s c o q z)=0 by unfold JD;rw [HI.out,if_neg hs])
  clear hs
  generalize hzz:QQ s c=zz at *
  have HZZ:=hid hzz
  clear hzz
  obtain ⟨wz4,hwz4,HRSz4,HHZz4,HONz4,HSWz4⟩:=QJ HZ1.out [.string ⟨#[]⟩,.int .i64 0,.int .i64 0,.slice none 0 0,.slice none 0 0,.slice none 0 0,.slice none 0 0,.slice none 0 0,.slice none 0 0,.slice none 0 0] (by simp [Value.oneCell'])
  have HBz4:=hid (show Below w.heap.size w wz4 by rw [← hwz4];exact Qd HB1.out (by omega) _)
  clear hwz4
  go_wp2_with (refine Qf rfl (.tmp 10) (.tmp 21) rfl rfl rfl HHZz4.out HIZ.out rfl HONz4.out HSWz4.out ?_)
  obtain ⟨y0,y1,y2,y3,y4,y5,y6,y7,y8,y9⟩:=HRSz4.out.c10
  refine bodyPost_ret (v:=.tuple #[.agg #[.string ⟨#[]⟩,.int .i64 0,.int .i64 0,.slice none 0 0,.slice none 0 0,.slice none 0 0,.slice none 0 0,.slice none 0 0,.slice none 0 0,.slice none 0 0],.int .i64 0,.int .i64 zz]) (by simp [results,Tryz.results18,go_sem,y0,y1,y2,y3,y4,y5,y6,y7,y8,y9]) rfl ⟨HBz4.out,_,by rw [HAI.out,HI.out];first | done | rfl,?_⟩
  rw [HNO.out]
  exact Qp _ _ _
theorem Qit (s:St) (v hv2:Value) (N:Nat) (w:World) (c o q z:Int) (h:Sh) (hv:StV w N v s) (hh:ShV w N hv2 h) (hN:N≤w.heap.size) (hfit:s.fits) (hhf:h.fits) (htab:Qt w) (hpow:YG w) (hz:QaF s c o q h z) (hs:QQ s c=0) (hfo:Qg 0 o=true) (hfq:Qg 0 q=true) :
  Calls Tryz.prog 18 #[v,.int .i64 c,.int .i64 o,.int .i64 q,hv2] w fun e w'=>Below w.heap.size w w'∧∃ v',e=.returned (.tuple #[v',.int .i64 (JD s (Jv s c o q z)),.int .i64 (Jv s c o q z)])∧Qn N w.heap.size w' v' (Yt s c o q z):=by
 have HST:=hid (fun wx (hx:Below w.heap.size w wx)=>QbP s v N wx c (hv.below (hx.mono hN)) (Nat.le_trans hN hx.size) hfit)
 have HAD:=hid (show few s→∀ wx,Below w.heap.size w wx→_ from fun hfew wx hx=>QdF s v N wx ⟨2,c,o,q⟩ (hv.below (hx.mono hN)) (Nat.le_trans hN hx.size) hfit hfew)
 have HMB:=hid (show QQ s c=0→Qg 0 o=true→Qg 0 q=true→∀ wx,Below w.heap.size w wx→_ from fun hs h1 h2 wx hx=>QgF s v hv2 N wx c q z ⟨1,o,c,-1⟩ h (hv.below (hx.mono hN)) (hh.below (hx.mono hN)) (Nat.le_trans hN hx.size) hfit hhf (htab.past hx) (hpow.below hx) (J5 (QbZ hs)) ((QW _ _).1 h2) (JJ (by omega) ((QW _ _).1 h1) (by have:=J5 (QbZ hs);have:=(Qr (Z2 hs)).1;omega) (by omega)) hz)
 have HDN:=hid (show Jv s c o q z=if QQ s c≠0 then QQ s c else if (Qg 0 o && Qg 0 q)=false then 3 else if z≠0 then z else Yc s from rfl)
 obtain ⟨o1,c1,o2,c2,o3,c3,o4,c4,o5,c5,o6,c6,o7,c7,rfl,hm⟩:=hv.open
 obtain ⟨q1,e1,q2,e2,q3,e3,r1,s1,r2,s2,r3,s3,r4,s4,r5,s5,r6,s6,rfl,-⟩:=hh.open
 obtain ⟨w0,hw0,hb0,HR0,HR1,HR2,hsz0⟩:=Qg9 w 28 [.string s.name,.int .i64 s.height,.int .i64 s.time,.slice o1 s.clients.length c1,.slice o2 s.conns.length c2,.slice o3 s.chans.length c3,.slice o4 s.sent.length c4,.slice o5 s.got.length c5,.slice o6 s.acks.length c6,.slice o7 s.purses.length c7] 46 [.int .i64 h.height,.int .i64 h.prf.index,.int .i64 h.prf.size,.slice q1 h.prf.key.length e1,.slice q2 h.prf.val.length e2,.slice q3 h.prf.path.length e3,.bool h.gap.hasL,.bool h.gap.hasR,.int .i64 h.gap.left.index,.int .i64 h.gap.left.size,.slice r1 h.gap.left.key.length s1,.slice r2 h.gap.left.val.length s2,.slice r3 h.gap.left.path.length s3,.int .i64 h.gap.right.index,.int .i64 h.gap.right.size,.slice r4 h.gap.right.key.length s4,.slice r5 h.gap.right.val.length s5,.slice r6 h.gap.right.path.length s6] 28 [.string ⟨#[]⟩,.int .i64 0,.int .i64 0,.slice none 0 0,.slice none 0 0,.slice none 0 0,.slice none 0 0,.slice none 0 0,.slice none 0 0,.slice none 0 0]
 have HB0:=hid hb0
 have HIZ:=hid (show (Tryz.prog.info? 28).map (·.size)=some 10 by kernel_rfl)
 obtain ⟨k0,k1,k2,k3,k4,k5,k6,k7,k8,k9⟩:=HR0.out.c10
 have HW0:=hid hw0
 clear hv hm hh hfit hhf htab hpow hb0 hw0 hz
 go_enter Tryz.func18,Tryz.ntmps18
 go_upto_region 1 with fail
 rw [HW0.out]
 go_wp2_with fail
 refine (HST.out _ HB0.out).mono ?_
 rintro e w1 ⟨rfl,hb1⟩
 have HB1:=hgo HB0 hb1
 have HA1:=rgo HR0 hb1
 have HH1:=rgo HR1 hb1
 have HZ1:=rgo HR2 hb1
 have hsz1:=hb1.size
 clear hb1
 clear k0 k1 k2 k3 k4 k5 k6 k7 k8 k9
 have HS:=hid hs
 have HFW:=hid (Qr (Z2 hs))
 rw [hs]
 clear hs
 have HFO:=hid hfo
 have hdummy:True:=trivial
 cases hdummy with
 | intro =>
  cases (show True from trivial) with
  | intro =>
   cases (show True from trivial) with
   | intro =>
    have HFQ:=hid hfq
    have HI:=hid (show Jv s c o q z=if z≠0 then z else Yc s by rw [HDN.out,if_neg (by simp [HS.out]),if_neg (by simp [hfo,hfq])])
    have HMX:=hid (HMB.out HS.out hfo hfq)
    obtain ⟨w2,hw2⟩:∃ w2,w1.alloc (.cells #[.int .i64 1,.int .i64 o,.int .i64 c,.int .i64 (-1)] 58)=w2:=⟨_,rfl⟩
    have hb2:=bof hw2
    have HB2:=hgo HB1 hb2
    have HA2:=rgo HA1 hb2
    have HH2:=rgo HH1 hb2
    have HZ2:=rgo HZ1 hb2
    have HO2:=hid (Q7 hw2)
    have hsz2:=hb2.size
    have HW2:=hid hw2
    clear hfo hfq hb2 hw2
    go_upto_region 7 with (go_at_call 26;refine (QI _ _ _).mono ?_;rintro e w' ⟨rfl,hww⟩;obtain rfl:=hww.symm;first | rw [HFO.out] | rw [HFQ.out])
    rw [HW2.out]
    obtain ⟨k0,k1,k2,k3,k4,k5,k6,k7,k8,k9⟩:=HA2.out.c10
    obtain ⟨b0,b1,b2,b3⟩:=HO2.out.c4
    obtain ⟨h0,h1,h2,h3,h4,h5,h6,h7,h8,h9,h10,h11,h12,h13,h14,h15,h16,h17⟩:=HH2.out.c18
    go_wp2_with fail
    refine (HMX.out _ HB2.out).mono ?_
    rintro e w3 ⟨rfl,hb3⟩
    have HB3:=hgo HB2 hb3
    have HA3:=rgo HA2 hb3
    have HZ3:=rgo HZ2 hb3
    have hsz3:=hb3.size
    clear hb3 b0 b1 b2 b3 h0 h1 h2 h3 h4 h5 h6 h7 h8 h9 h10 h11 h12 h13 h14 h15 h16 h17
    clear k0 k1 k2 k3 k4 k5 k6 k7 k8 k9
    by_cases hz:z=0
    ·subst hz
     have HI2:=hid (show Jv s c o q 0=Yc s by rw [HI.out];rfl)
     go_upto_region 10 with fail
     obtain ⟨k0,k1,k2,k3,k4,k5,k6,k7,k8,k9⟩:=HA3.out.c10
     go_wp2_with fail
     refine (HAD.out HFW.out _ HB3.out).mono ?_
     rintro e w4 ⟨hb4,va,rfl,hva⟩
     have HB4:=hgo HB3 hb4
     have HZ4:=rgo HZ3 hb4
     clear k0 k1 k2 k3 k4 k5 k6 k7 k8 k9
     clear hb4
     obtain ⟨t,ht⟩:∃ t,Zb s (Yc s) ⟨2,c,o,q⟩=t:=⟨_,rfl⟩
     have HTT:=hid (show Yt s c o q 0=t by unfold Yt;rw [HI2.out,ht])
     rw [ht] at hva
     clear ht
     obtain ⟨t1,u1,t2,u2,t3,u3,t4,u4,t5,u5,t6,u6,t7,u7,rfl,-⟩:=hva.now.open
     have HVA:=hid hva
     clear hva
     obtain ⟨wf,hwf,HRSf,HHZf,HONf,HSWf⟩:=QJ HZ4.out [.string t.name,.int .i64 t.height,.int .i64 t.time,.slice t1 t.clients.length u1,.slice t2 t.conns.length u2,.slice t3 t.chans.length u3,.slice t4 t.sent.length u4,.slice t5 t.got.length u5,.slice t6 t.acks.length u6,.slice t7 t.purses.length u7] (by simp [Value.oneCell'])
     have HBf:=hid (show Below w.heap.size w wf by rw [← hwf];exact Qd HB4.out (by omega) _)
     have HTF:=hid (show Qn N w.heap.size wf (.agg #[.string t.name,.int .i64 t.height,.int .i64 t.time,.slice t1 t.clients.length u1,.slice t2 t.conns.length u2,.slice t3 t.chans.length u3,.slice t4 t.sent.length u4,.slice t5 t.got.length u5,.slice t6 t.acks.length u6,.slice t7 t.purses.length u7]) t by rw [← hwf];exact (HVA.out.row (by omega) (by omega) _).lower (by omega))
     clear hwf
     go_wp2_with (refine Qf rfl (.tmp 10) (.tmp 51) rfl rfl rfl HHZf.out HIZ.out rfl HONf.out HSWf.out ?_)
     obtain ⟨y0,y1,y2,y3,y4,y5,y6,y7,y8,y9⟩:=HRSf.out.c10
     refine bodyPost_ret (v:=.tuple #[.agg #[.string t.name,.int .i64 t.height,.int .i64 t.time,.slice t1 t.clients.length u1,.slice t2 t.conns.length u2,.slice t3 t.chans.length u3,.slice t4 t.sent.length u4,.slice t5 t.got.length u5,.slice t6 t.acks.length u6,.slice t7 t.purses.length u7],.int .i64 (JD s (Yc s)),.int .i64 (Yc s)]) (by simp [results,Tryz.results18,go_sem,y0,y1,y2,y3,y4,y5,y6,y7,y8,y9]) rfl ⟨HBf.out,_,by rw [HI2.out];first | done | rfl,?_⟩
     rw [HTT.out]
     exact HTF.out
    ·have e0:(z != 0)=true:=by simpa using hz
     have HI2:=hid (show Jv s c o q z=z by rw [HI.out,if_pos hz])
     have HNO:=hid (show Yt s c o q z=St.none by unfold Yt Zb;rw [HI2.out,if_neg hz])
     have HAI:=hid (show JD s (Jv s c o q z)=0 by unfold JD;rw [HI2.out,if_neg hz])
     clear hz
     obtain ⟨wz3,hwz3,HRSz3,HHZz3,HONz3,HSWz3⟩:=QJ HZ3.out [.string ⟨#[]⟩,.int .i64 0,.int .i64 0,.slice none 0 0,.slice none 0 0,.slice none 0 0,.slice none 0 0,.slice none 0 0,.slice none 0 0,.slice none 0 0] (by simp [Value.oneCell'])
     have HBz3:=hid (show Below w.heap.size w wz3 by rw [← hwz3];exact Qd HB3.out (by omega) _)
     clear hwz3
     go_wp2_with (refine Qf rfl (.tmp 10) (.tmp 43) rfl rfl rfl HHZz3.out HIZ.out rfl HONz3.out HSWz3.out ?_)
     obtain ⟨y0,y1,y2,y3,y4,y5,y6,y7,y8,y9⟩:=HRSz3.out.c10
     refine bodyPost_ret (v:=.tuple #[.agg #[.string ⟨#[]⟩,.int .i64 0,.int .i64 0,.slice none 0 0,.slice none 0 0,.slice none 0 0,.slice none 0 0,.slice none 0 0,.slice none 0 0,.slice none 0 0],.int .i64 0,.int .i64 z]) (by simp [results,Tryz.results18,go_sem,y0,y1,y2,y3,y4,y5,y6,y7,y8,y9]) rfl ⟨HBz3.out,_,by rw [HAI.out,HI2.out];first | done | rfl,?_⟩
     rw [HNO.out]
     exact Qp _ _ _
theorem Qjo (s:St) (v hv2:Value) (N:Nat) (w:World) (c o q z:Int) (h:Sh) (hv:StV w N v s) (hh:ShV w N hv2 h) (hN:N≤w.heap.size) (hfit:s.fits) (hhf:h.fits) (htab:Qt w) (hpow:YG w) (hz:QaF s c o q h z) :
  Calls Tryz.prog 18 #[v,.int .i64 c,.int .i64 o,.int .i64 q,hv2] w fun e w'=>Below w.heap.size w w'∧∃ v',e=.returned (.tuple #[v',.int .i64 (JD s (Jv s c o q z)),.int .i64 (Jv s c o q z)])∧Qn N w.heap.size w' v' (Yt s c o q z):=by
 by_cases hs:QQ s c=0
 ·cases hfo:Qg 0 o with
  | false=>exact QcI s v hv2 N w c o q z h hv hh hN hfit (.inr (by simp [hfo]))
  | true =>
   cases hfq:Qg 0 q with
   | false=>exact QcI s v hv2 N w c o q z h hv hh hN hfit (.inr (by simp [hfq]))
   | true=>exact Qit s v hv2 N w c o q z h hv hh hN hfit hhf htab hpow hz hs hfo hfq
 ·exact QcI s v hv2 N w c o q z h hv hh hN hfit (.inl hs)
end Go.Proofs.YtooemgkjkngpcaaGreatDoor
