/-
  Package conn's Confirm.
-/
import Derived.Test.YtooemgkjkngpcaaGreatDoorshCoDoubts
import Derived.Test.YtooemgkjkngpcaaGreatDoorshCoOpened
namespace Go.Proofs.YtooemgkjkngpcaaGreatDoor
open Go.RowKit

set_option maxRecDepth 100000 in
set_option maxHeartbeats 8000000 in
theorem conf_any (s:St) (v hv2:Value) (N:Nat) (w:World) (i z:Int) (h:Sh) (hv:StV w N v s) (hh:ShV w N hv2 h) (hN:N≤w.heap.size) (hfit:s.fits) (hhf:h.fits) (htab:tableAt w) (hpow:powAt w) (hz:askConf s i h z) :
    Calls Tryz.prog 20 #[v,.int .i64 i,hv2] w fun e w'=>Below w.heap.size w w'∧∃ v',e=.returned (.tuple #[v',.int .i64 (confN s i z)])∧HoldsS N w.heap.size w' v' (confS s i z):=by
  have HEN:=hid (show ∀ wx,Below w.heap.size w wx→_ from fun wx hx=>end_any s v N wx i 2 (hv.below (hx.mono hN)) (Nat.le_trans hN hx.size) hfit)
  have HOP:=hid (show ∀ (k:Nat) (x:Cn),i=(k:Int)→s.conns[k]?=some x→endN s i 2=0→¬ x.oconn<0→∀ wx,Below w.heap.size w wx→_ from fun k x hik hx hs h2 wx hx2 =>
    opened_any s v hv2 N wx i 3 z x h (hv.below (hx2.mono hN)) (hh.below (hx2.mono hN)) (Nat.le_trans hN hx2.size) hfit hhf (htab.past hx2) (hpow.below hx2) (endN_ok hs).1 (endN_ok hs).2.1 (by have:=liveN_ok (endN_ok hs).2.2.2;rw [hik,cnAt_some hx] at this;exact this) (by have:=wrongCn_ok ((wrongS_right (endN_ok hs).1).conns x (List.mem_of_getElem? hx));first | omega | (simp only;omega)) (by have:=wrongCn_ok ((wrongS_right (endN_ok hs).1).conns x (List.mem_of_getElem? hx));first | omega | (simp only;omega)) (by omega) (by have:=hz;unfold askConf at this;rw [hik,cnAt_some hx] at this;rw [hik];exact this))
  have HDN:=hid (show confN s i z=if endN s i 2≠0 then endN s i 2 else if (cnAt s i).oconn<0 then 8 else z from rfl)
  have HSN:=hid (show confS s i z=putS s (confN s i z) i ⟨3,(cnAt s i).client,(cnAt s i).oclient,(cnAt s i).oconn⟩ from rfl)
  obtain ⟨o1,c1,o2,c2,o3,c3,o4,c4,o5,c5,o6,c6,o7,c7,rfl,hm⟩:=hv.open
  obtain ⟨q1,e1,q2,e2,q3,e3,r1,s1,r2,s2,r3,s3,r4,s4,r5,s5,r6,s6,rfl,-⟩:=hh.open
  have HM:=hid hm
  obtain ⟨w0,hw0⟩:∃ w0,((w.alloc (.cells #[.string s.name,.int .i64 s.height,.int .i64 s.time,.slice o1 s.clients.length c1,.slice o2 s.conns.length c2,.slice o3 s.chans.length c3,.slice o4 s.sent.length c4,.slice o5 s.got.length c5,.slice o6 s.acks.length c6,.slice o7 s.purses.length c7] 28)).alloc (.cells #[.int .i64 h.height,.int .i64 h.prf.index,.int .i64 h.prf.size,.slice q1 h.prf.key.length e1,.slice q2 h.prf.val.length e2,.slice q3 h.prf.path.length e3,.bool h.gap.hasL,.bool h.gap.hasR,.int .i64 h.gap.left.index,.int .i64 h.gap.left.size,.slice r1 h.gap.left.key.length s1,.slice r2 h.gap.left.val.length s2,.slice r3 h.gap.left.path.length s3,.int .i64 h.gap.right.index,.int .i64 h.gap.right.size,.slice r4 h.gap.right.key.length s4,.slice r5 h.gap.right.val.length s5,.slice r6 h.gap.right.path.length s6] 46)).alloc (.cells #[.string ⟨#[]⟩,.int .i64 0,.int .i64 0,.slice none 0 0,.slice none 0 0,.slice none 0 0,.slice none 0 0,.slice none 0 0,.slice none 0 0,.slice none 0 0] 28)=w0:=⟨_,rfl⟩
  have hb0:Below w.heap.size w w0:=by rw [← hw0];exact (((Below.refl _ _).alloc (Nat.le_refl _) _).alloc (by simp) _).alloc (by simp;omega) _
  have HB0:=hid hb0
  have HR0:=hid (show Row w0 (w.heap.size) 28 [.string s.name,.int .i64 s.height,.int .i64 s.time,.slice o1 s.clients.length c1,.slice o2 s.conns.length c2,.slice o3 s.chans.length c3,.slice o4 s.sent.length c4,.slice o5 s.got.length c5,.slice o6 s.acks.length c6,.slice o7 s.purses.length c7] by rw [← hw0];exact (((Row.new _ _ _).alloc _).alloc _))
  have HR1:=hid (show Row w0 (w.heap.size+1) 46 [.int .i64 h.height,.int .i64 h.prf.index,.int .i64 h.prf.size,.slice q1 h.prf.key.length e1,.slice q2 h.prf.val.length e2,.slice q3 h.prf.path.length e3,.bool h.gap.hasL,.bool h.gap.hasR,.int .i64 h.gap.left.index,.int .i64 h.gap.left.size,.slice r1 h.gap.left.key.length s1,.slice r2 h.gap.left.val.length s2,.slice r3 h.gap.left.path.length s3,.int .i64 h.gap.right.index,.int .i64 h.gap.right.size,.slice r4 h.gap.right.key.length s4,.slice r5 h.gap.right.val.length s5,.slice r6 h.gap.right.path.length s6] by rw [← hw0];exact ((Row.newAt _ _ _ _ (by simp)).alloc _))
  have HR2:=hid (show Row w0 (w.heap.size+2) 28 [.string ⟨#[]⟩,.int .i64 0,.int .i64 0,.slice none 0 0,.slice none 0 0,.slice none 0 0,.slice none 0 0,.slice none 0 0,.slice none 0 0,.slice none 0 0] by rw [← hw0];exact (Row.newAt _ _ _ _ (by simp)))
  have hsz0:w0.heap.size=w.heap.size+3:=by rw [← hw0];simp
  have HIZ:=hid (show (Tryz.prog.info? 28).map (·.size)=some 10 by kernel_rfl)
  have k0:w0.cell? ⟨w.heap.size,0,none⟩=some (.string s.name):=HR0.out.cell 0
  have k1:w0.cell? ⟨w.heap.size,1,none⟩=some (.int .i64 s.height):=HR0.out.cell 1
  have k2:w0.cell? ⟨w.heap.size,2,none⟩=some (.int .i64 s.time):=HR0.out.cell 2
  have k3:w0.cell? ⟨w.heap.size,3,none⟩=some (.slice o1 s.clients.length c1):=HR0.out.cell 3
  have k4:w0.cell? ⟨w.heap.size,4,none⟩=some (.slice o2 s.conns.length c2):=HR0.out.cell 4
  have k5:w0.cell? ⟨w.heap.size,5,none⟩=some (.slice o3 s.chans.length c3):=HR0.out.cell 5
  have k6:w0.cell? ⟨w.heap.size,6,none⟩=some (.slice o4 s.sent.length c4):=HR0.out.cell 6
  have k7:w0.cell? ⟨w.heap.size,7,none⟩=some (.slice o5 s.got.length c5):=HR0.out.cell 7
  have k8:w0.cell? ⟨w.heap.size,8,none⟩=some (.slice o6 s.acks.length c6):=HR0.out.cell 8
  have k9:w0.cell? ⟨w.heap.size,9,none⟩=some (.slice o7 s.purses.length c7):=HR0.out.cell 9
  have HW0:=hid hw0
  clear hv hm hh hfit hhf htab hpow hb0 hw0 hz
  go_enter Tryz.func20,Tryz.ntmps20
  go_upto_region 1 with fail
  rw [HW0.out]
  go_wp2_with fail
  refine (HEN.out _ HB0.out).mono ?_
  rintro e w1 ⟨rfl,hb1⟩
  have HB1:=hid (HB0.out.trans (hb1.mono HB0.out.size))
  have HA1:=hid (HR0.out.below hb1 HR0.out.lt)
  have HH1:=hid (HR1.out.below hb1 HR1.out.lt)
  have HZ1:=hid (HR2.out.below hb1 HR2.out.lt)
  have hsz1:w0.heap.size≤w1.heap.size:=hb1.size
  clear hb1
  clear k0 k1 k2 k3 k4 k5 k6 k7 k8 k9
  by_cases hs:endN s i 2=0
  · have HS:=hid hs
    have hin:=(endN_ok hs).2.1
    rw [hs]
    obtain ⟨k,hik⟩:∃ k:Nat,i=(k:Int):=⟨i.toNat,by omega⟩
    obtain ⟨x,hx⟩:∃ x,s.conns[k]?=some x:=⟨s.conns[k]'(by omega),List.getElem?_eq_getElem _⟩
    have HOX:=hid (HOP.out k x hik hx hs)
    have HX:=hid (cnAt_some hx)
    subst hik
    have hlt':(k:Int)<(s.conns.length:Int):=by omega
    obtain ⟨b,f,rfl,gx⟩:=(HM.out.below (HB1.out.mono hN)).conns.spot (by omega)
    obtain ⟨hbN,r,hr,cx⟩:=gx k x hx
    subst hr
    have x0:=cx 0 _ rfl
    have x1:=cx 1 _ rfl
    have x2:=cx 2 _ rfl
    have x3:=cx 3 _ rfl
    simp only [Nat.add_zero] at x0
    have c4:w1.cell? ⟨w.heap.size,4,none⟩=some (.slice (some ⟨b,f,none⟩) s.conns.length c2):=HA1.out.cell 4
    obtain ⟨w2,hw2⟩:∃ w2,w1.alloc (.cells #[.int .i64 x.state,.int .i64 x.client,.int .i64 x.oclient,.int .i64 x.oconn] 58)=w2:=⟨_,rfl⟩
    have hb2:Below w1.heap.size w1 w2:=by rw [← hw2];exact (Below.refl _ _).alloc (Nat.le_refl _) _
    have HB2:=hid (HB1.out.trans (hb2.mono HB1.out.size))
    have HA2:=hid (HA1.out.below hb2 HA1.out.lt)
    have HH2:=hid (HH1.out.below hb2 HH1.out.lt)
    have HZ2:=hid (HZ1.out.below hb2 HZ1.out.lt)
    have HC2:=hid (show Row w2 w1.heap.size 58 [.int .i64 x.state,.int .i64 x.client,.int .i64 x.oclient,.int .i64 x.oconn] by rw [← hw2];exact Row.new _ _ _)
    have hsz2:w1.heap.size≤w2.heap.size:=hb2.size
    have HW2:=hid hw2
    clear hb2 hw2 gx cx hx hs
    go_upto_region 5 with fail
    rw [HW2.out]
    clear x0 x1 x2 x3 c4
    have a3:w2.cell? ⟨w1.heap.size,3,none⟩=some (.int .i64 x.oconn):=HC2.out.cell 3
    by_cases hq:x.oconn<0
    · have eq0:decide (x.oconn<0)=true:=by simpa using hq
      have HI:=hid (show confN s (k:Int) z=8 by rw [HDN.out,if_neg (by simp [HS.out]),HX.out,if_pos hq])
      clear hq
      obtain ⟨wz1,hwz1⟩:∃ wz1,w2.setRow (w.heap.size+1+1) #[.string ⟨#[]⟩,.int .i64 0,.int .i64 0,.slice none 0 0,.slice none 0 0,.slice none 0 0,.slice none 0 0,.slice none 0 0,.slice none 0 0,.slice none 0 0]=wz1:=⟨_,rfl⟩
      have HRSz1:=hid (show Row wz1 (w.heap.size+1+1) 28 [.string ⟨#[]⟩,.int .i64 0,.int .i64 0,.slice none 0 0,.slice none 0 0,.slice none 0 0,.slice none 0 0,.slice none 0 0,.slice none 0 0,.slice none 0 0] by rw [← hwz1];exact Row.setRow HZ2.out _)
      have HHZz1:=hid (show w2.heap[w.heap.size+1+1]?=some (.cells #[.string ⟨#[]⟩,.int .i64 0,.int .i64 0,.slice none 0 0,.slice none 0 0,.slice none 0 0,.slice none 0 0,.slice none 0 0,.slice none 0 0,.slice none 0 0] 28 (0,0)) from HZ2.out)
      have HONz1:=hid (show (#[.string ⟨#[]⟩,.int .i64 0,.int .i64 0,.slice none 0 0,.slice none 0 0,.slice none 0 0,.slice none 0 0,.slice none 0 0,.slice none 0 0,.slice none 0 0]:Array Value).all (·.oneCell')=true by simp [Value.oneCell'])
      have HSWz1:=hid hwz1
      have HBz1:=hid (show Below w.heap.size w wz1 by rw [← hwz1];exact setRow_below HB2.out (by omega) _)
      clear hwz1
      go_wp2_with (refine wpList_store_row rfl 28 (.tmp 6) (.tmp 25) rfl (w.heap.size+1+1) #[.string ⟨#[]⟩,.int .i64 0,.int .i64 0,.slice none 0 0,.slice none 0 0,.slice none 0 0,.slice none 0 0,.slice none 0 0,.slice none 0 0,.slice none 0 0] rfl rfl 28 #[.string ⟨#[]⟩,.int .i64 0,.int .i64 0,.slice none 0 0,.slice none 0 0,.slice none 0 0,.slice none 0 0,.slice none 0 0,.slice none 0 0,.slice none 0 0] HHZz1.out HIZ.out rfl HONz1.out ?_;rw [HSWz1.out])
      have y0:=HRSz1.out.cell 0
      simp at y0
      have y1:=HRSz1.out.cell 1
      simp at y1
      have y2:=HRSz1.out.cell 2
      simp at y2
      have y3:=HRSz1.out.cell 3
      simp at y3
      have y4:=HRSz1.out.cell 4
      simp at y4
      have y5:=HRSz1.out.cell 5
      simp at y5
      have y6:=HRSz1.out.cell 6
      simp at y6
      have y7:=HRSz1.out.cell 7
      simp at y7
      have y8:=HRSz1.out.cell 8
      simp at y8
      have y9:=HRSz1.out.cell 9
      simp at y9
      refine bodyPost_ret (v:=.tuple #[.agg #[.string ⟨#[]⟩,.int .i64 0,.int .i64 0,.slice none 0 0,.slice none 0 0,.slice none 0 0,.slice none 0 0,.slice none 0 0,.slice none 0 0,.slice none 0 0],.int .i64 8]) (by simp [results,Tryz.results20,go_sem,y0,y1,y2,y3,y4,y5,y6,y7,y8,y9]) rfl ⟨HBz1.out,_,by rw [HI.out];first | done | rfl,?_⟩
      rw [show confS s (k:Int) z=St.none by rw [HSN.out,HI.out];rfl]
      exact holdsS_none _ _ _
    · have eq0:decide (x.oconn<0)=false:=by simpa using hq
      have HI:=hid (show confN s (k:Int) z=z by rw [HDN.out,if_neg (by simp [HS.out]),HX.out,if_neg hq])
      have HOY:=hid (HOX.out (by omega))
      clear hq
      go_upto_region 7 with fail
      clear a3
      have k0:w2.cell? ⟨w.heap.size,0,none⟩=some (.string s.name):=HA2.out.cell 0
      have k1:w2.cell? ⟨w.heap.size,1,none⟩=some (.int .i64 s.height):=HA2.out.cell 1
      have k2:w2.cell? ⟨w.heap.size,2,none⟩=some (.int .i64 s.time):=HA2.out.cell 2
      have k3:w2.cell? ⟨w.heap.size,3,none⟩=some (.slice o1 s.clients.length c1):=HA2.out.cell 3
      have k4:w2.cell? ⟨w.heap.size,4,none⟩=some (.slice (some ⟨b,f,none⟩) s.conns.length c2):=HA2.out.cell 4
      have k5:w2.cell? ⟨w.heap.size,5,none⟩=some (.slice o3 s.chans.length c3):=HA2.out.cell 5
      have k6:w2.cell? ⟨w.heap.size,6,none⟩=some (.slice o4 s.sent.length c4):=HA2.out.cell 6
      have k7:w2.cell? ⟨w.heap.size,7,none⟩=some (.slice o5 s.got.length c5):=HA2.out.cell 7
      have k8:w2.cell? ⟨w.heap.size,8,none⟩=some (.slice o6 s.acks.length c6):=HA2.out.cell 8
      have k9:w2.cell? ⟨w.heap.size,9,none⟩=some (.slice o7 s.purses.length c7):=HA2.out.cell 9
      have b0:w2.cell? ⟨w1.heap.size,0,none⟩=some (.int .i64 x.state):=HC2.out.cell 0
      have b1:w2.cell? ⟨w1.heap.size,1,none⟩=some (.int .i64 x.client):=HC2.out.cell 1
      have b2:w2.cell? ⟨w1.heap.size,2,none⟩=some (.int .i64 x.oclient):=HC2.out.cell 2
      have b3:w2.cell? ⟨w1.heap.size,3,none⟩=some (.int .i64 x.oconn):=HC2.out.cell 3
      have h0:w2.cell? ⟨w.heap.size+1,0,none⟩=some (.int .i64 h.height):=HH2.out.cell 0
      have h1:w2.cell? ⟨w.heap.size+1,1,none⟩=some (.int .i64 h.prf.index):=HH2.out.cell 1
      have h2:w2.cell? ⟨w.heap.size+1,2,none⟩=some (.int .i64 h.prf.size):=HH2.out.cell 2
      have h3:w2.cell? ⟨w.heap.size+1,3,none⟩=some (.slice q1 h.prf.key.length e1):=HH2.out.cell 3
      have h4:w2.cell? ⟨w.heap.size+1,4,none⟩=some (.slice q2 h.prf.val.length e2):=HH2.out.cell 4
      have h5:w2.cell? ⟨w.heap.size+1,5,none⟩=some (.slice q3 h.prf.path.length e3):=HH2.out.cell 5
      have h6:w2.cell? ⟨w.heap.size+1,6,none⟩=some (.bool h.gap.hasL):=HH2.out.cell 6
      have h7:w2.cell? ⟨w.heap.size+1,7,none⟩=some (.bool h.gap.hasR):=HH2.out.cell 7
      have h8:w2.cell? ⟨w.heap.size+1,8,none⟩=some (.int .i64 h.gap.left.index):=HH2.out.cell 8
      have h9:w2.cell? ⟨w.heap.size+1,9,none⟩=some (.int .i64 h.gap.left.size):=HH2.out.cell 9
      have h10:w2.cell? ⟨w.heap.size+1,10,none⟩=some (.slice r1 h.gap.left.key.length s1):=HH2.out.cell 10
      have h11:w2.cell? ⟨w.heap.size+1,11,none⟩=some (.slice r2 h.gap.left.val.length s2):=HH2.out.cell 11
      have h12:w2.cell? ⟨w.heap.size+1,12,none⟩=some (.slice r3 h.gap.left.path.length s3):=HH2.out.cell 12
      have h13:w2.cell? ⟨w.heap.size+1,13,none⟩=some (.int .i64 h.gap.right.index):=HH2.out.cell 13
      have h14:w2.cell? ⟨w.heap.size+1,14,none⟩=some (.int .i64 h.gap.right.size):=HH2.out.cell 14
      have h15:w2.cell? ⟨w.heap.size+1,15,none⟩=some (.slice r4 h.gap.right.key.length s4):=HH2.out.cell 15
      have h16:w2.cell? ⟨w.heap.size+1,16,none⟩=some (.slice r5 h.gap.right.val.length s5):=HH2.out.cell 16
      have h17:w2.cell? ⟨w.heap.size+1,17,none⟩=some (.slice r6 h.gap.right.path.length s6):=HH2.out.cell 17
      go_wp2_with fail
      refine (HOY.out _ HB2.out).mono ?_
      rintro e w5 ⟨hb5,va,rfl,hva⟩
      have HB5:=hid (HB2.out.trans (hb5.mono HB2.out.size))
      have HZ5:=hid (HZ2.out.below hb5 HZ2.out.lt)
      clear hb5 b0 b1 b2 b3 h0 h1 h2 h3 h4 h5 h6 h7 h8 h9 h10 h11 h12 h13 h14 h15 h16 h17
      clear k0 k1 k2 k3 k4 k5 k6 k7 k8 k9
      obtain ⟨t,ht⟩:∃ t,putS s z (k:Int) ⟨3,x.client,x.oclient,x.oconn⟩=t:=⟨_,rfl⟩
      have HTT:=hid (show confS s (k:Int) z=t by rw [HSN.out,HI.out,HX.out,ht])
      rw [ht] at hva
      clear ht
      obtain ⟨t1,u1,t2,u2,t3,u3,t4,u4,t5,u5,t6,u6,t7,u7,rfl,-⟩:=hva.now.open
      have HVA:=hid hva
      clear hva
      obtain ⟨wf,hwf⟩:∃ wf,w5.setRow (w.heap.size+1+1) #[.string t.name,.int .i64 t.height,.int .i64 t.time,.slice t1 t.clients.length u1,.slice t2 t.conns.length u2,.slice t3 t.chans.length u3,.slice t4 t.sent.length u4,.slice t5 t.got.length u5,.slice t6 t.acks.length u6,.slice t7 t.purses.length u7]=wf:=⟨_,rfl⟩
      have HRSf:=hid (show Row wf (w.heap.size+1+1) 28 [.string t.name,.int .i64 t.height,.int .i64 t.time,.slice t1 t.clients.length u1,.slice t2 t.conns.length u2,.slice t3 t.chans.length u3,.slice t4 t.sent.length u4,.slice t5 t.got.length u5,.slice t6 t.acks.length u6,.slice t7 t.purses.length u7] by rw [← hwf];exact Row.setRow HZ5.out _)
      have HHZf:=hid (show w5.heap[w.heap.size+1+1]?=some (.cells #[.string ⟨#[]⟩,.int .i64 0,.int .i64 0,.slice none 0 0,.slice none 0 0,.slice none 0 0,.slice none 0 0,.slice none 0 0,.slice none 0 0,.slice none 0 0] 28 (0,0)) from HZ5.out)
      have HONf:=hid (show (#[.string t.name,.int .i64 t.height,.int .i64 t.time,.slice t1 t.clients.length u1,.slice t2 t.conns.length u2,.slice t3 t.chans.length u3,.slice t4 t.sent.length u4,.slice t5 t.got.length u5,.slice t6 t.acks.length u6,.slice t7 t.purses.length u7]:Array Value).all (·.oneCell')=true by simp [Value.oneCell'])
      have HSWf:=hid hwf
      have HBf:=hid (show Below w.heap.size w wf by rw [← hwf];exact setRow_below HB5.out (by omega) _)
      have HTF:=hid (show HoldsS N w.heap.size wf (.agg #[.string t.name,.int .i64 t.height,.int .i64 t.time,.slice t1 t.clients.length u1,.slice t2 t.conns.length u2,.slice t3 t.chans.length u3,.slice t4 t.sent.length u4,.slice t5 t.got.length u5,.slice t6 t.acks.length u6,.slice t7 t.purses.length u7]) t by rw [← hwf];exact (HVA.out.row (by omega) (by omega) _).lower (by omega))
      clear hwf
      go_wp2_with (refine wpList_store_row rfl 28 (.tmp 6) (.tmp 31) rfl (w.heap.size+1+1) #[.string t.name,.int .i64 t.height,.int .i64 t.time,.slice t1 t.clients.length u1,.slice t2 t.conns.length u2,.slice t3 t.chans.length u3,.slice t4 t.sent.length u4,.slice t5 t.got.length u5,.slice t6 t.acks.length u6,.slice t7 t.purses.length u7] rfl rfl 28 #[.string ⟨#[]⟩,.int .i64 0,.int .i64 0,.slice none 0 0,.slice none 0 0,.slice none 0 0,.slice none 0 0,.slice none 0 0,.slice none 0 0,.slice none 0 0] HHZf.out HIZ.out rfl HONf.out ?_;rw [HSWf.out])
      have y0:=HRSf.out.cell 0
      simp at y0
      have y1:=HRSf.out.cell 1
      simp at y1
      have y2:=HRSf.out.cell 2
      simp at y2
      have y3:=HRSf.out.cell 3
      simp at y3
      have y4:=HRSf.out.cell 4
      simp at y4
      have y5:=HRSf.out.cell 5
      simp at y5
      have y6:=HRSf.out.cell 6
      simp at y6
      have y7:=HRSf.out.cell 7
      simp at y7
      have y8:=HRSf.out.cell 8
      simp at y8
      have y9:=HRSf.out.cell 9
      simp at y9
      refine bodyPost_ret (v:=.tuple #[.agg #[.string t.name,.int .i64 t.height,.int .i64 t.time,.slice t1 t.clients.length u1,.slice t2 t.conns.length u2,.slice t3 t.chans.length u3,.slice t4 t.sent.length u4,.slice t5 t.got.length u5,.slice t6 t.acks.length u6,.slice t7 t.purses.length u7],.int .i64 z]) (by simp [results,Tryz.results20,go_sem,y0,y1,y2,y3,y4,y5,y6,y7,y8,y9]) rfl ⟨HBf.out,_,by rw [HI.out];first | done | rfl,?_⟩
      rw [HTT.out]
      exact HTF.out
  · have e0:(endN s i 2 != 0)=true:=by simpa using hs
    have HI:=hid (show confN s i z=endN s i 2 by rw [HDN.out,if_pos hs])
    have HNO:=hid (show confS s i z=St.none by rw [HSN.out,HI.out];exact if_neg hs)
    clear hs
    generalize hzz:endN s i 2=zz at *
    have HZZ:=hid hzz
    clear hzz
    obtain ⟨wz4,hwz4⟩:∃ wz4,w1.setRow (w.heap.size+1+1) #[.string ⟨#[]⟩,.int .i64 0,.int .i64 0,.slice none 0 0,.slice none 0 0,.slice none 0 0,.slice none 0 0,.slice none 0 0,.slice none 0 0,.slice none 0 0]=wz4:=⟨_,rfl⟩
    have HRSz4:=hid (show Row wz4 (w.heap.size+1+1) 28 [.string ⟨#[]⟩,.int .i64 0,.int .i64 0,.slice none 0 0,.slice none 0 0,.slice none 0 0,.slice none 0 0,.slice none 0 0,.slice none 0 0,.slice none 0 0] by rw [← hwz4];exact Row.setRow HZ1.out _)
    have HHZz4:=hid (show w1.heap[w.heap.size+1+1]?=some (.cells #[.string ⟨#[]⟩,.int .i64 0,.int .i64 0,.slice none 0 0,.slice none 0 0,.slice none 0 0,.slice none 0 0,.slice none 0 0,.slice none 0 0,.slice none 0 0] 28 (0,0)) from HZ1.out)
    have HONz4:=hid (show (#[.string ⟨#[]⟩,.int .i64 0,.int .i64 0,.slice none 0 0,.slice none 0 0,.slice none 0 0,.slice none 0 0,.slice none 0 0,.slice none 0 0,.slice none 0 0]:Array Value).all (·.oneCell')=true by simp [Value.oneCell'])
    have HSWz4:=hid hwz4
    have HBz4:=hid (show Below w.heap.size w wz4 by rw [← hwz4];exact setRow_below HB1.out (by omega) _)
    clear hwz4
    go_wp2_with (refine wpList_store_row rfl 28 (.tmp 6) (.tmp 15) rfl (w.heap.size+1+1) #[.string ⟨#[]⟩,.int .i64 0,.int .i64 0,.slice none 0 0,.slice none 0 0,.slice none 0 0,.slice none 0 0,.slice none 0 0,.slice none 0 0,.slice none 0 0] rfl rfl 28 #[.string ⟨#[]⟩,.int .i64 0,.int .i64 0,.slice none 0 0,.slice none 0 0,.slice none 0 0,.slice none 0 0,.slice none 0 0,.slice none 0 0,.slice none 0 0] HHZz4.out HIZ.out rfl HONz4.out ?_;rw [HSWz4.out])
    have y0:=HRSz4.out.cell 0
    simp at y0
    have y1:=HRSz4.out.cell 1
    simp at y1
    have y2:=HRSz4.out.cell 2
    simp at y2
    have y3:=HRSz4.out.cell 3
    simp at y3
    have y4:=HRSz4.out.cell 4
    simp at y4
    have y5:=HRSz4.out.cell 5
    simp at y5
    have y6:=HRSz4.out.cell 6
    simp at y6
    have y7:=HRSz4.out.cell 7
    simp at y7
    have y8:=HRSz4.out.cell 8
    simp at y8
    have y9:=HRSz4.out.cell 9
    simp at y9
    refine bodyPost_ret (v:=.tuple #[.agg #[.string ⟨#[]⟩,.int .i64 0,.int .i64 0,.slice none 0 0,.slice none 0 0,.slice none 0 0,.slice none 0 0,.slice none 0 0,.slice none 0 0,.slice none 0 0],.int .i64 zz]) (by simp [results,Tryz.results20,go_sem,y0,y1,y2,y3,y4,y5,y6,y7,y8,y9]) rfl ⟨HBz4.out,_,by rw [HI.out];first | done | rfl,?_⟩
    rw [HNO.out]
    exact holdsS_none _ _ _
end Go.Proofs.YtooemgkjkngpcaaGreatDoor
