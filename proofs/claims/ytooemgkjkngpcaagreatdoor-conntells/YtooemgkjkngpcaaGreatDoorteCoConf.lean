/-
  Package conn's Confirm.
-/
import Derived.Test.YtooemgkjkngpcaaGreatDoorteCoDoubts
import Derived.Test.YtooemgkjkngpcaaGreatDoorteCoOpened
namespace Go.Proofs.YtooemgkjkngpcaaGreatDoor
set_option maxRecDepth 1000000
set_option maxHeartbeats 8000000
open Go.RowKit
theorem QiF (s:St) (v hv2:Value) (N:Nat) (w:World) (i z:Int) (h:Sh) (hv:StV w N v s) (hh:ShV w N hv2 h) (hN:N≤w.heap.size) (hfit:s.fits) (hhf:h.fits) (htab:Qt w) (hpow:YG w) (hz:Zm s i h z) :
  Calls Tryz.prog 20 #[v,.int .i64 i,hv2] w fun e w'=>Below w.heap.size w w'∧∃ v',e=.returned (.tuple #[v',.int .i64 (JR s i z)])∧Qn N w.heap.size w' v' (JP s i z):=by
 have HEN:=hid (fun wx (hx:Below w.heap.size w wx)=>QgR s v N wx i 2 (hv.below (hx.mono hN)) (Nat.le_trans hN hx.size) hfit)
 have HOP:=hid (show ∀ (k:Nat) (x:Cn),i=(k:Int)→s.conns[k]?=some x→JB s i 2=0→¬ x.oconn<0→∀ wx,Below w.heap.size w wx→_ from fun k x hik hx hs h2 wx hx2 =>
  Qcq s v hv2 N wx i 3 z x h (hv.below (hx2.mono hN)) (hh.below (hx2.mono hN)) (Nat.le_trans hN hx2.size) hfit hhf (htab.past hx2) (hpow.below hx2) (YJ hs).1 (YJ hs).2.1 (by have:=J5 (YJ hs).2.2.2;rw [hik,QO hx] at this;exact this) (by have:=Jx ((JN (YJ hs).1).conns x (List.mem_of_getElem? hx));first | omega | (simp only;omega)) (by have:=Jx ((JN (YJ hs).1).conns x (List.mem_of_getElem? hx));first | omega | (simp only;omega)) (by omega) (by have:=hz;unfold Zm at this;rw [hik,QO hx] at this;rw [hik];exact this))
 have HDN:=hid (show JR s i z=if JB s i 2≠0 then JB s i 2 else if (YU s i).oconn<0 then 8 else z from rfl)
 have HSN:=hid (show JP s i z=YZ s (JR s i z) i ⟨3,(YU s i).client,(YU s i).oclient,(YU s i).oconn⟩ from rfl)
 obtain ⟨o1,c1,o2,c2,o3,c3,o4,c4,o5,c5,o6,c6,o7,c7,rfl,hm⟩:=hv.open
 obtain ⟨q1,e1,q2,e2,q3,e3,r1,s1,r2,s2,r3,s3,r4,s4,r5,s5,r6,s6,rfl,-⟩:=hh.open
 have HM:=hid hm
 obtain ⟨w0,hw0,hb0,HR0,HR1,HR2,hsz0⟩:=Qg9 w 28 [.string s.name,.int .i64 s.height,.int .i64 s.time,.slice o1 s.clients.length c1,.slice o2 s.conns.length c2,.slice o3 s.chans.length c3,.slice o4 s.sent.length c4,.slice o5 s.got.length c5,.slice o6 s.acks.length c6,.slice o7 s.purses.length c7] 46 [.int .i64 h.height,.int .i64 h.prf.index,.int .i64 h.prf.size,.slice q1 h.prf.key.length e1,.slice q2 h.prf.val.length e2,.slice q3 h.prf.path.length e3,.bool h.gap.hasL,.bool h.gap.hasR,.int .i64 h.gap.left.index,.int .i64 h.gap.left.size,.slice r1 h.gap.left.key.length s1,.slice r2 h.gap.left.val.length s2,.slice r3 h.gap.left.path.length s3,.int .i64 h.gap.right.index,.int .i64 h.gap.right.size,.slice r4 h.gap.right.key.length s4,.slice r5 h.gap.right.val.length s5,.slice r6 h.gap.right.path.length s6] 28 [.string ⟨#[]⟩,.int .i64 0,.int .i64 0,.slice none 0 0,.slice none 0 0,.slice none 0 0,.slice none 0 0,.slice none 0 0,.slice none 0 0,.slice none 0 0]
 have HB0:=hid hb0
 have HIZ:=hid (show (Tryz.prog.info? 28).map (·.size)=some 10 by kernel_rfl)
 obtain ⟨k0,k1,k2,k3,k4,k5,k6,k7,k8,k9⟩:=HR0.out.c10
 have HW0:=hid hw0
 clear hv hm hh hfit hhf htab hpow hb0 hw0 hz
 go_enter Tryz.func20,Tryz.ntmps20
 go_upto_region 1 with fail
 rw [HW0.out]
 go_wp2_with fail
 refine (HEN.out _ HB0.out).mono ?_
 rintro e w1 ⟨rfl,hb1⟩
 have HB1:=hgo HB0 hb1
 have HA1:=rgo HR0 hb1
 have HH1:=rgo HR1 hb1
 have HZ1:=rgo HR2 hb1
 have hsz1:=hb1.size
 clear hb1
 clear k0 k1 k2 k3 k4 k5 k6 k7 k8 k9
 by_cases hs:JB s i 2=0
 ·have HS:=hid hs
  have hin:=(YJ hs).2.1
  rw [hs]
  obtain ⟨k,hik⟩:∃ k:Nat,i=(k:Int):=⟨i.toNat,by omega⟩
  obtain ⟨x,hx⟩:∃ x,s.conns[k]?=some x:=⟨s.conns[k]'(by omega),List.getElem?_eq_getElem _⟩
  have HOX:=hid (HOP.out k x hik hx hs)
  have HX:=hid (QO hx)
  subst hik
  have hlt':(k:Int)<(s.conns.length:Int):=by omega
  obtain ⟨b,f,rfl,gx⟩:=(HM.out.below (HB1.out.mono hN)).conns.spot (by omega)
  obtain ⟨hbN,r,hr,cx⟩:=gx k x hx
  subst hr
  have x0:=cx 0 _ rfl
  have x1:=cx 1 _ rfl
  have x2:=cx 2 _ rfl
  have x3:=cx 3 _ rfl
  simp only [Nat.add_zero] at x0
  have c4:w1.cell? ⟨w.heap.size,4,none⟩=some (.slice (some ⟨b,f,none⟩) s.conns.length c2):=HA1.out.cell 4
  obtain ⟨w2,hw2⟩:∃ w2,w1.alloc (.cells #[.int .i64 x.state,.int .i64 x.client,.int .i64 x.oclient,.int .i64 x.oconn] 58)=w2:=⟨_,rfl⟩
  have hb2:=bof hw2
  have HB2:=hgo HB1 hb2
  have HA2:=rgo HA1 hb2
  have HH2:=rgo HH1 hb2
  have HZ2:=rgo HZ1 hb2
  have HC2:=hid (Q7 hw2)
  have hsz2:=hb2.size
  have HW2:=hid hw2
  clear hb2 hw2 gx cx hx hs
  go_upto_region 5 with fail
  rw [HW2.out]
  clear x0 x1 x2 x3 c4
  have a3:w2.cell? ⟨w1.heap.size,3,none⟩=some (.int .i64 x.oconn):=HC2.out.cell 3
  by_cases hq:x.oconn<0
  ·have eq0:decide (x.oconn<0)=true:=by simpa using hq
   have HI:=hid (show JR s (k:Int) z=8 by rw [HDN.out,if_neg (by simp [HS.out]),HX.out,if_pos hq])
   clear hq
   obtain ⟨wz1,hwz1,HRSz1,HHZz1,HONz1,HSWz1⟩:=QJ HZ2.out [.string ⟨#[]⟩,.int .i64 0,.int .i64 0,.slice none 0 0,.slice none 0 0,.slice none 0 0,.slice none 0 0,.slice none 0 0,.slice none 0 0,.slice none 0 0] (by simp [Value.oneCell'])
   have HBz1:=hid (show Below w.heap.size w wz1 by rw [← hwz1];exact Qd HB2.out (by omega) _)
   clear hwz1
   go_wp2_with (refine Qf rfl (.tmp 6) (.tmp 25) rfl rfl rfl HHZz1.out HIZ.out rfl HONz1.out HSWz1.out ?_)
   obtain ⟨y0,y1,y2,y3,y4,y5,y6,y7,y8,y9⟩:=HRSz1.out.c10
   refine bodyPost_ret (v:=.tuple #[.agg #[.string ⟨#[]⟩,.int .i64 0,.int .i64 0,.slice none 0 0,.slice none 0 0,.slice none 0 0,.slice none 0 0,.slice none 0 0,.slice none 0 0,.slice none 0 0],.int .i64 8]) (by simp [results,Tryz.results20,go_sem,y0,y1,y2,y3,y4,y5,y6,y7,y8,y9]) rfl ⟨HBz1.out,_,by rw [HI.out];first | done | rfl,?_⟩
   rw [show JP s (k:Int) z=St.none by rw [HSN.out,HI.out];rfl]
   exact Qp _ _ _
  ·have eq0:decide (x.oconn<0)=false:=by simpa using hq
   have HI:=hid (show JR s (k:Int) z=z by rw [HDN.out,if_neg (by simp [HS.out]),HX.out,if_neg hq])
   have HOY:=hid (HOX.out (by omega))
   clear hq
   go_upto_region 7 with fail
   clear a3
   obtain ⟨k0,k1,k2,k3,k4,k5,k6,k7,k8,k9⟩:=HA2.out.c10
   obtain ⟨b0,b1,b2,b3⟩:=HC2.out.c4
   obtain ⟨h0,h1,h2,h3,h4,h5,h6,h7,h8,h9,h10,h11,h12,h13,h14,h15,h16,h17⟩:=HH2.out.c18
   go_wp2_with fail
   refine (HOY.out _ HB2.out).mono ?_
   rintro e w5 ⟨hb5,va,rfl,hva⟩
   have HB5:=hgo HB2 hb5
   have HZ5:=rgo HZ2 hb5
   clear hb5 b0 b1 b2 b3 h0 h1 h2 h3 h4 h5 h6 h7 h8 h9 h10 h11 h12 h13 h14 h15 h16 h17
   clear k0 k1 k2 k3 k4 k5 k6 k7 k8 k9
   obtain ⟨t,ht⟩:∃ t,YZ s z (k:Int) ⟨3,x.client,x.oclient,x.oconn⟩=t:=⟨_,rfl⟩
   have HTT:=hid (show JP s (k:Int) z=t by rw [HSN.out,HI.out,HX.out,ht])
   rw [ht] at hva
   clear ht
   obtain ⟨t1,u1,t2,u2,t3,u3,t4,u4,t5,u5,t6,u6,t7,u7,rfl,-⟩:=hva.now.open
   have HVA:=hid hva
   clear hva
   obtain ⟨wf,hwf,HRSf,HHZf,HONf,HSWf⟩:=QJ HZ5.out [.string t.name,.int .i64 t.height,.int .i64 t.time,.slice t1 t.clients.length u1,.slice t2 t.conns.length u2,.slice t3 t.chans.length u3,.slice t4 t.sent.length u4,.slice t5 t.got.length u5,.slice t6 t.acks.length u6,.slice t7 t.purses.length u7] (by simp [Value.oneCell'])
   have HBf:=hid (show Below w.heap.size w wf by rw [← hwf];exact Qd HB5.out (by omega) _)
   have HTF:=hid (show Qn N w.heap.size wf (.agg #[.string t.name,.int .i64 t.height,.int .i64 t.time,.slice t1 t.clients.length u1,.slice t2 t.conns.length u2,.slice t3 t.chans.length u3,.slice t4 t.sent.length u4,.slice t5 t.got.length u5,.slice t6 t.acks.length u6,.slice t7 t.purses.length u7]) t by rw [← hwf];exact (HVA.out.row (by omega) (by omega) _).lower (by omega))
   clear hwf
   go_wp2_with (refine Qf rfl (.tmp 6) (.tmp 31) rfl rfl rfl HHZf.out HIZ.out rfl HONf.out HSWf.out ?_)
   obtain ⟨y0,y1,y2,y3,y4,y5,y6,y7,y8,y9⟩:=HRSf.out.c10
   refine bodyPost_ret (v:=.tuple #[.agg #[.string t.name,.int .i64 t.height,.int .i64 t.time,.slice t1 t.clients.length u1,.slice t2 t.conns.length u2,.slice t3 t.chans.length u3,.slice t4 t.sent.length u4,.slice t5 t.got.length u5,.slice t6 t.acks.length u6,.slice t7 t.purses.length u7],.int .i64 z]) (by simp [results,Tryz.results20,go_sem,y0,y1,y2,y3,y4,y5,y6,y7,y8,y9]) rfl ⟨HBf.out,_,by rw [HI.out];first | done | rfl,?_⟩
   rw [HTT.out]
   exact HTF.out
 ·have e0:(JB s i 2 != 0)=true:=by simpa using hs
  have HI:=hid (show JR s i z=JB s i 2 by rw [HDN.out,if_pos hs])
  have HNO:=hid (show JP s i z=St.none by rw [HSN.out,HI.out];exact if_neg hs)
  clear hs
  generalize hzz:JB s i 2=zz at *
  have HZZ:=hid hzz
  clear hzz
  obtain ⟨wz4,hwz4,HRSz4,HHZz4,HONz4,HSWz4⟩:=QJ HZ1.out [.string ⟨#[]⟩,.int .i64 0,.int .i64 0,.slice none 0 0,.slice none 0 0,.slice none 0 0,.slice none 0 0,.slice none 0 0,.slice none 0 0,.slice none 0 0] (by simp [Value.oneCell'])
  have HBz4:=hid (show Below w.heap.size w wz4 by rw [← hwz4];exact Qd HB1.out (by omega) _)
  clear hwz4
  go_wp2_with (refine Qf rfl (.tmp 6) (.tmp 15) rfl rfl rfl HHZz4.out HIZ.out rfl HONz4.out HSWz4.out ?_)
  obtain ⟨y0,y1,y2,y3,y4,y5,y6,y7,y8,y9⟩:=HRSz4.out.c10
  refine bodyPost_ret (v:=.tuple #[.agg #[.string ⟨#[]⟩,.int .i64 0,.int .i64 0,.slice none 0 0,.slice none 0 0,.slice none 0 0,.slice none 0 0,.slice none 0 0,.slice none 0 0,.slice none 0 0],.int .i64 zz]) (by simp [results,Tryz.results20,go_sem,y0,y1,y2,y3,y4,y5,y6,y7,y8,y9]) rfl ⟨HBz4.out,_,by rw [HI.out];first | done | rfl,?_⟩
  rw [HNO.out]
  exact Qp _ _ _
end Go.Proofs.YtooemgkjkngpcaaGreatDoor
