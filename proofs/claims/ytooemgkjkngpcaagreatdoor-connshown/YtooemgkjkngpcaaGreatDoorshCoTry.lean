/-
  Package conn's Try.
-/
import Derived.Test.YtooemgkjkngpcaaGreatDoorshCoInit
namespace Go.Proofs.YtooemgkjkngpcaaGreatDoor
open Go.RowKit

set_option maxRecDepth 100000 in
set_option maxHeartbeats 8000000 in
theorem tryA_any (s:St) (v hv2:Value) (N:Nat) (w:World) (c o q z:Int) (h:Sh) (hv:StV w N v s) (hh:ShV w N hv2 h) (hN:N≤w.heap.size) (hfit:s.fits) (hbad:startN s c≠0∨(fromB 0 o && fromB 0 q)=false) :
    Calls Tryz.prog 18 #[v,.int .i64 c,.int .i64 o,.int .i64 q,hv2] w fun e w'=>Below w.heap.size w w'∧∃ v',e=.returned (.tuple #[v',.int .i64 (addI s (tryN s c o q z)),.int .i64 (tryN s c o q z)])∧HoldsS N w.heap.size w' v' (tryS s c o q z):=by
  have HST:=hid (show ∀ wx,Below w.heap.size w wx→_ from fun wx hx=>start_any s v N wx c (hv.below (hx.mono hN)) (Nat.le_trans hN hx.size) hfit)
  have HDN:=hid (show tryN s c o q z=if startN s c≠0 then startN s c else if (fromB 0 o && fromB 0 q)=false then 3 else if z≠0 then z else manyN s from rfl)
  obtain ⟨o1,c1,o2,c2,o3,c3,o4,c4,o5,c5,o6,c6,o7,c7,rfl,hm⟩:=hv.open
  obtain ⟨q1,e1,q2,e2,q3,e3,r1,s1,r2,s2,r3,s3,r4,s4,r5,s5,r6,s6,rfl,-⟩:=hh.open
  obtain ⟨w0,hw0⟩:∃ w0,((w.alloc (.cells #[.string s.name,.int .i64 s.height,.int .i64 s.time,.slice o1 s.clients.length c1,.slice o2 s.conns.length c2,.slice o3 s.chans.length c3,.slice o4 s.sent.length c4,.slice o5 s.got.length c5,.slice o6 s.acks.length c6,.slice o7 s.purses.length c7] 28)).alloc (.cells #[.int .i64 h.height,.int .i64 h.prf.index,.int .i64 h.prf.size,.slice q1 h.prf.key.length e1,.slice q2 h.prf.val.length e2,.slice q3 h.prf.path.length e3,.bool h.gap.hasL,.bool h.gap.hasR,.int .i64 h.gap.left.index,.int .i64 h.gap.left.size,.slice r1 h.gap.left.key.length s1,.slice r2 h.gap.left.val.length s2,.slice r3 h.gap.left.path.length s3,.int .i64 h.gap.right.index,.int .i64 h.gap.right.size,.slice r4 h.gap.right.key.length s4,.slice r5 h.gap.right.val.length s5,.slice r6 h.gap.right.path.length s6] 46)).alloc (.cells #[.string ⟨#[]⟩,.int .i64 0,.int .i64 0,.slice none 0 0,.slice none 0 0,.slice none 0 0,.slice none 0 0,.slice none 0 0,.slice none 0 0,.slice none 0 0] 28)=w0:=⟨_,rfl⟩
  have hb0:Below w.heap.size w w0:=by rw [← hw0];exact (((Below.refl _ _).alloc (Nat.le_refl _) _).alloc (by simp) _).alloc (by simp;omega) _
  have HB0:=hid hb0
  have HR0:=hid (show Row w0 (w.heap.size) 28 [.string s.name,.int .i64 s.height,.int .i64 s.time,.slice o1 s.clients.length c1,.slice o2 s.conns.length c2,.slice o3 s.chans.length c3,.slice o4 s.sent.length c4,.slice o5 s.got.length c5,.slice o6 s.acks.length c6,.slice o7 s.purses.length c7] by rw [← hw0];exact (((Row.new _ _ _).alloc _).alloc _))
  have HR1:=hid (show Row w0 (w.heap.size+1) 46 [.int .i64 h.height,.int .i64 h.prf.index,.int .i64 h.prf.size,.slice q1 h.prf.key.length e1,.slice q2 h.prf.val.length e2,.slice q3 h.prf.path.length e3,.bool h.gap.hasL,.bool h.gap.hasR,.int .i64 h.gap.left.index,.int .i64 h.gap.left.size,.slice r1 h.gap.left.key.length s1,.slice r2 h.gap.left.val.length s2,.slice r3 h.gap.left.path.length s3,.int .i64 h.gap.right.index,.int .i64 h.gap.right.size,.slice r4 h.gap.right.key.length s4,.slice r5 h.gap.right.val.length s5,.slice r6 h.gap.right.path.length s6] by rw [← hw0];exact ((Row.newAt _ _ _ _ (by simp)).alloc _))
  have HR2:=hid (show Row w0 (w.heap.size+2) 28 [.string ⟨#[]⟩,.int .i64 0,.int .i64 0,.slice none 0 0,.slice none 0 0,.slice none 0 0,.slice none 0 0,.slice none 0 0,.slice none 0 0,.slice none 0 0] by rw [← hw0];exact (Row.newAt _ _ _ _ (by simp)))
  have hsz0:w0.heap.size=w.heap.size+3:=by rw [← hw0];simp
  have HIZ:=hid (show (Tryz.prog.info? 28).map (·.size)=some 10 by kernel_rfl)
  have k0:w0.cell? ⟨w.heap.size,0,none⟩=some (.string s.name):=HR0.out.cell 0
  have k1:w0.cell? ⟨w.heap.size,1,none⟩=some (.int .i64 s.height):=HR0.out.cell 1
  have k2:w0.cell? ⟨w.heap.size,2,none⟩=some (.int .i64 s.time):=HR0.out.cell 2
  have k3:w0.cell? ⟨w.heap.size,3,none⟩=some (.slice o1 s.clients.length c1):=HR0.out.cell 3
  have k4:w0.cell? ⟨w.heap.size,4,none⟩=some (.slice o2 s.conns.length c2):=HR0.out.cell 4
  have k5:w0.cell? ⟨w.heap.size,5,none⟩=some (.slice o3 s.chans.length c3):=HR0.out.cell 5
  have k6:w0.cell? ⟨w.heap.size,6,none⟩=some (.slice o4 s.sent.length c4):=HR0.out.cell 6
  have k7:w0.cell? ⟨w.heap.size,7,none⟩=some (.slice o5 s.got.length c5):=HR0.out.cell 7
  have k8:w0.cell? ⟨w.heap.size,8,none⟩=some (.slice o6 s.acks.length c6):=HR0.out.cell 8
  have k9:w0.cell? ⟨w.heap.size,9,none⟩=some (.slice o7 s.purses.length c7):=HR0.out.cell 9
  have HW0:=hid hw0
  clear hv hm hh hfit hb0 hw0
  go_enter Tryz.func18,Tryz.ntmps18
  go_upto_region 1 with fail
  rw [HW0.out]
  go_wp2_with fail
  refine (HST.out _ HB0.out).mono ?_
  rintro e w1 ⟨rfl,hb1⟩
  have HB1:=hid (HB0.out.trans (hb1.mono HB0.out.size))
  have HZ1:=hid (HR2.out.below hb1 HR2.out.lt)
  have hsz1:w0.heap.size≤w1.heap.size:=hb1.size
  clear hb1
  clear k0 k1 k2 k3 k4 k5 k6 k7 k8 k9
  by_cases hs:startN s c=0
  · have HS:=hid hs
    rw [hs]
    clear hs
    cases hfo:fromB 0 o with
    | false =>
      have HFO:=hid hfo
      have HI:=hid (show tryN s c o q z=3 by rw [HDN.out,if_neg (by simp [HS.out]),if_pos (by simp [hfo])])
      clear hfo
      obtain ⟨wz1,hwz1⟩:∃ wz1,w1.setRow (w.heap.size+1+1) #[.string ⟨#[]⟩,.int .i64 0,.int .i64 0,.slice none 0 0,.slice none 0 0,.slice none 0 0,.slice none 0 0,.slice none 0 0,.slice none 0 0,.slice none 0 0]=wz1:=⟨_,rfl⟩
      have HRSz1:=hid (show Row wz1 (w.heap.size+1+1) 28 [.string ⟨#[]⟩,.int .i64 0,.int .i64 0,.slice none 0 0,.slice none 0 0,.slice none 0 0,.slice none 0 0,.slice none 0 0,.slice none 0 0,.slice none 0 0] by rw [← hwz1];exact Row.setRow HZ1.out _)
      have HHZz1:=hid (show w1.heap[w.heap.size+1+1]?=some (.cells #[.string ⟨#[]⟩,.int .i64 0,.int .i64 0,.slice none 0 0,.slice none 0 0,.slice none 0 0,.slice none 0 0,.slice none 0 0,.slice none 0 0,.slice none 0 0] 28 (0,0)) from HZ1.out)
      have HONz1:=hid (show (#[.string ⟨#[]⟩,.int .i64 0,.int .i64 0,.slice none 0 0,.slice none 0 0,.slice none 0 0,.slice none 0 0,.slice none 0 0,.slice none 0 0,.slice none 0 0]:Array Value).all (·.oneCell')=true by simp [Value.oneCell'])
      have HSWz1:=hid hwz1
      have HBz1:=hid (show Below w.heap.size w wz1 by rw [← hwz1];exact setRow_below HB1.out (by omega) _)
      clear hwz1
      go_wp2_with (first | (go_at_call 26;refine (from_any _ _ _).mono ?_;rintro e w' ⟨rfl,hww⟩;obtain rfl:=hww.symm;rw [HFO.out]) | (refine wpList_store_row rfl 28 (.tmp 10) (.tmp 31) rfl (w.heap.size+1+1) #[.string ⟨#[]⟩,.int .i64 0,.int .i64 0,.slice none 0 0,.slice none 0 0,.slice none 0 0,.slice none 0 0,.slice none 0 0,.slice none 0 0,.slice none 0 0] rfl rfl 28 #[.string ⟨#[]⟩,.int .i64 0,.int .i64 0,.slice none 0 0,.slice none 0 0,.slice none 0 0,.slice none 0 0,.slice none 0 0,.slice none 0 0,.slice none 0 0] HHZz1.out HIZ.out rfl HONz1.out ?_;rw [HSWz1.out]))
      have y0:=HRSz1.out.cell 0
      simp at y0
      have y1:=HRSz1.out.cell 1
      simp at y1
      have y2:=HRSz1.out.cell 2
      simp at y2
      have y3:=HRSz1.out.cell 3
      simp at y3
      have y4:=HRSz1.out.cell 4
      simp at y4
      have y5:=HRSz1.out.cell 5
      simp at y5
      have y6:=HRSz1.out.cell 6
      simp at y6
      have y7:=HRSz1.out.cell 7
      simp at y7
      have y8:=HRSz1.out.cell 8
      simp at y8
      have y9:=HRSz1.out.cell 9
      simp at y9
      refine bodyPost_ret (v:=.tuple #[.agg #[.string ⟨#[]⟩,.int .i64 0,.int .i64 0,.slice none 0 0,.slice none 0 0,.slice none 0 0,.slice none 0 0,.slice none 0 0,.slice none 0 0,.slice none 0 0],.int .i64 0,.int .i64 3]) (by simp [results,Tryz.results18,go_sem,y0,y1,y2,y3,y4,y5,y6,y7,y8,y9]) rfl ⟨HBz1.out,_,by rw [HI.out];first | done | rfl,?_⟩
      rw [show tryS s c o q z=St.none by unfold tryS addS;rw [HI.out];rfl]
      exact holdsS_none _ _ _
    | true =>
      have HFO:=hid hfo
      cases hfq:fromB 0 q with
      | false =>
        have HFQ:=hid hfq
        have HI:=hid (show tryN s c o q z=3 by rw [HDN.out,if_neg (by simp [HS.out]),if_pos (by simp [hfq])])
        clear hfo hfq
        obtain ⟨wz2,hwz2⟩:∃ wz2,w1.setRow (w.heap.size+1+1) #[.string ⟨#[]⟩,.int .i64 0,.int .i64 0,.slice none 0 0,.slice none 0 0,.slice none 0 0,.slice none 0 0,.slice none 0 0,.slice none 0 0,.slice none 0 0]=wz2:=⟨_,rfl⟩
        have HRSz2:=hid (show Row wz2 (w.heap.size+1+1) 28 [.string ⟨#[]⟩,.int .i64 0,.int .i64 0,.slice none 0 0,.slice none 0 0,.slice none 0 0,.slice none 0 0,.slice none 0 0,.slice none 0 0,.slice none 0 0] by rw [← hwz2];exact Row.setRow HZ1.out _)
        have HHZz2:=hid (show w1.heap[w.heap.size+1+1]?=some (.cells #[.string ⟨#[]⟩,.int .i64 0,.int .i64 0,.slice none 0 0,.slice none 0 0,.slice none 0 0,.slice none 0 0,.slice none 0 0,.slice none 0 0,.slice none 0 0] 28 (0,0)) from HZ1.out)
        have HONz2:=hid (show (#[.string ⟨#[]⟩,.int .i64 0,.int .i64 0,.slice none 0 0,.slice none 0 0,.slice none 0 0,.slice none 0 0,.slice none 0 0,.slice none 0 0,.slice none 0 0]:Array Value).all (·.oneCell')=true by simp [Value.oneCell'])
        have HSWz2:=hid hwz2
        have HBz2:=hid (show Below w.heap.size w wz2 by rw [← hwz2];exact setRow_below HB1.out (by omega) _)
        clear hwz2
        go_wp2_with (first | (go_at_call 26;refine (from_any _ _ _).mono ?_;rintro e w' ⟨rfl,hww⟩;obtain rfl:=hww.symm;first | rw [HFO.out] | rw [HFQ.out]) | (refine wpList_store_row rfl 28 (.tmp 10) (.tmp 31) rfl (w.heap.size+1+1) #[.string ⟨#[]⟩,.int .i64 0,.int .i64 0,.slice none 0 0,.slice none 0 0,.slice none 0 0,.slice none 0 0,.slice none 0 0,.slice none 0 0,.slice none 0 0] rfl rfl 28 #[.string ⟨#[]⟩,.int .i64 0,.int .i64 0,.slice none 0 0,.slice none 0 0,.slice none 0 0,.slice none 0 0,.slice none 0 0,.slice none 0 0,.slice none 0 0] HHZz2.out HIZ.out rfl HONz2.out ?_;rw [HSWz2.out]))
        have y0:=HRSz2.out.cell 0
        simp at y0
        have y1:=HRSz2.out.cell 1
        simp at y1
        have y2:=HRSz2.out.cell 2
        simp at y2
        have y3:=HRSz2.out.cell 3
        simp at y3
        have y4:=HRSz2.out.cell 4
        simp at y4
        have y5:=HRSz2.out.cell 5
        simp at y5
        have y6:=HRSz2.out.cell 6
        simp at y6
        have y7:=HRSz2.out.cell 7
        simp at y7
        have y8:=HRSz2.out.cell 8
        simp at y8
        have y9:=HRSz2.out.cell 9
        simp at y9
        refine bodyPost_ret (v:=.tuple #[.agg #[.string ⟨#[]⟩,.int .i64 0,.int .i64 0,.slice none 0 0,.slice none 0 0,.slice none 0 0,.slice none 0 0,.slice none 0 0,.slice none 0 0,.slice none 0 0],.int .i64 0,.int .i64 3]) (by simp [results,Tryz.results18,go_sem,y0,y1,y2,y3,y4,y5,y6,y7,y8,y9]) rfl ⟨HBz2.out,_,by rw [HI.out];first | done | rfl,?_⟩
        rw [show tryS s c o q z=St.none by unfold tryS addS;rw [HI.out];rfl]
        exact holdsS_none _ _ _
      | true =>
        exact absurd hbad (by simp [HS.out,hfo,hfq])
  · have e0:(startN s c != 0)=true:=by simpa using hs
    have HI:=hid (show tryN s c o q z=startN s c by rw [HDN.out,if_pos hs])
    have HNO:=hid (show tryS s c o q z=St.none by unfold tryS addS;rw [HI.out,if_neg hs])
    have HAI:=hid (show addI s (tryN s c o q z)=0 by unfold addI;rw [HI.out,if_neg hs])
    clear hs
    generalize hzz:startN s c=zz at *
    have HZZ:=hid hzz
    clear hzz
    obtain ⟨wz4,hwz4⟩:∃ wz4,w1.setRow (w.heap.size+1+1) #[.string ⟨#[]⟩,.int .i64 0,.int .i64 0,.slice none 0 0,.slice none 0 0,.slice none 0 0,.slice none 0 0,.slice none 0 0,.slice none 0 0,.slice none 0 0]=wz4:=⟨_,rfl⟩
    have HRSz4:=hid (show Row wz4 (w.heap.size+1+1) 28 [.string ⟨#[]⟩,.int .i64 0,.int .i64 0,.slice none 0 0,.slice none 0 0,.slice none 0 0,.slice none 0 0,.slice none 0 0,.slice none 0 0,.slice none 0 0] by rw [← hwz4];exact Row.setRow HZ1.out _)
    have HHZz4:=hid (show w1.heap[w.heap.size+1+1]?=some (.cells #[.string ⟨#[]⟩,.int .i64 0,.int .i64 0,.slice none 0 0,.slice none 0 0,.slice none 0 0,.slice none 0 0,.slice none 0 0,.slice none 0 0,.slice none 0 0] 28 (0,0)) from HZ1.out)
    have HONz4:=hid (show (#[.string ⟨#[]⟩,.int .i64 0,.int .i64 0,.slice none 0 0,.slice none 0 0,.slice none 0 0,.slice none 0 0,.slice none 0 0,.slice none 0 0,.slice none 0 0]:Array Value).all (·.oneCell')=true by simp [Value.oneCell'])
    have HSWz4:=hid hwz4
    have HBz4:=hid (show Below w.heap.size w wz4 by rw [← hwz4];exact setRow_below HB1.out (by omega) _)
    clear hwz4
    go_wp2_with (refine wpList_store_row rfl 28 (.tmp 10) (.tmp 21) rfl (w.heap.size+1+1) #[.string ⟨#[]⟩,.int .i64 0,.int .i64 0,.slice none 0 0,.slice none 0 0,.slice none 0 0,.slice none 0 0,.slice none 0 0,.slice none 0 0,.slice none 0 0] rfl rfl 28 #[.string ⟨#[]⟩,.int .i64 0,.int .i64 0,.slice none 0 0,.slice none 0 0,.slice none 0 0,.slice none 0 0,.slice none 0 0,.slice none 0 0,.slice none 0 0] HHZz4.out HIZ.out rfl HONz4.out ?_;rw [HSWz4.out])
    have y0:=HRSz4.out.cell 0
    simp at y0
    have y1:=HRSz4.out.cell 1
    simp at y1
    have y2:=HRSz4.out.cell 2
    simp at y2
    have y3:=HRSz4.out.cell 3
    simp at y3
    have y4:=HRSz4.out.cell 4
    simp at y4
    have y5:=HRSz4.out.cell 5
    simp at y5
    have y6:=HRSz4.out.cell 6
    simp at y6
    have y7:=HRSz4.out.cell 7
    simp at y7
    have y8:=HRSz4.out.cell 8
    simp at y8
    have y9:=HRSz4.out.cell 9
    simp at y9
    refine bodyPost_ret (v:=.tuple #[.agg #[.string ⟨#[]⟩,.int .i64 0,.int .i64 0,.slice none 0 0,.slice none 0 0,.slice none 0 0,.slice none 0 0,.slice none 0 0,.slice none 0 0,.slice none 0 0],.int .i64 0,.int .i64 zz]) (by simp [results,Tryz.results18,go_sem,y0,y1,y2,y3,y4,y5,y6,y7,y8,y9]) rfl ⟨HBz4.out,_,by rw [HAI.out,HI.out];first | done | rfl,?_⟩
    rw [HNO.out]
    exact holdsS_none _ _ _
end Go.Proofs.YtooemgkjkngpcaaGreatDoor
namespace Go.Proofs.YtooemgkjkngpcaaGreatDoor
open Go.RowKit

set_option maxRecDepth 100000 in
set_option maxHeartbeats 8000000 in
theorem tryB_any (s:St) (v hv2:Value) (N:Nat) (w:World) (c o q z:Int) (h:Sh) (hv:StV w N v s) (hh:ShV w N hv2 h) (hN:N≤w.heap.size) (hfit:s.fits) (hhf:h.fits) (htab:tableAt w) (hpow:powAt w) (hz:askTry s c o q h z) (hs:startN s c=0) (hfo:fromB 0 o=true) (hfq:fromB 0 q=true) :
    Calls Tryz.prog 18 #[v,.int .i64 c,.int .i64 o,.int .i64 q,hv2] w fun e w'=>Below w.heap.size w w'∧∃ v',e=.returned (.tuple #[v',.int .i64 (addI s (tryN s c o q z)),.int .i64 (tryN s c o q z)])∧HoldsS N w.heap.size w' v' (tryS s c o q z):=by
  have HST:=hid (show ∀ wx,Below w.heap.size w wx→_ from fun wx hx=>start_any s v N wx c (hv.below (hx.mono hN)) (Nat.le_trans hN hx.size) hfit)
  have HAD:=hid (show few s→∀ wx,Below w.heap.size w wx→_ from fun hfew wx hx=>added_any s v N wx ⟨2,c,o,q⟩ (hv.below (hx.mono hN)) (Nat.le_trans hN hx.size) hfit hfew)
  have HMB:=hid (show startN s c=0→fromB 0 o=true→fromB 0 q=true→∀ wx,Below w.heap.size w wx→_ from fun hs h1 h2 wx hx=>mem_any s v hv2 N wx c q z ⟨1,o,c,-1⟩ h (hv.below (hx.mono hN)) (hh.below (hx.mono hN)) (Nat.le_trans hN hx.size) hfit hhf (htab.past hx) (hpow.below hx) (liveN_ok (startN_live hs)) ((fromB_iff _ _).1 h2) (wrongCn_ask (by omega) ((fromB_iff _ _).1 h1) (by have:=liveN_ok (startN_live hs);have:=(wrongS_few (startN_ok hs)).1;omega) (by omega)) hz)
  have HDN:=hid (show tryN s c o q z=if startN s c≠0 then startN s c else if (fromB 0 o && fromB 0 q)=false then 3 else if z≠0 then z else manyN s from rfl)
  obtain ⟨o1,c1,o2,c2,o3,c3,o4,c4,o5,c5,o6,c6,o7,c7,rfl,hm⟩:=hv.open
  obtain ⟨q1,e1,q2,e2,q3,e3,r1,s1,r2,s2,r3,s3,r4,s4,r5,s5,r6,s6,rfl,-⟩:=hh.open
  obtain ⟨w0,hw0⟩:∃ w0,((w.alloc (.cells #[.string s.name,.int .i64 s.height,.int .i64 s.time,.slice o1 s.clients.length c1,.slice o2 s.conns.length c2,.slice o3 s.chans.length c3,.slice o4 s.sent.length c4,.slice o5 s.got.length c5,.slice o6 s.acks.length c6,.slice o7 s.purses.length c7] 28)).alloc (.cells #[.int .i64 h.height,.int .i64 h.prf.index,.int .i64 h.prf.size,.slice q1 h.prf.key.length e1,.slice q2 h.prf.val.length e2,.slice q3 h.prf.path.length e3,.bool h.gap.hasL,.bool h.gap.hasR,.int .i64 h.gap.left.index,.int .i64 h.gap.left.size,.slice r1 h.gap.left.key.length s1,.slice r2 h.gap.left.val.length s2,.slice r3 h.gap.left.path.length s3,.int .i64 h.gap.right.index,.int .i64 h.gap.right.size,.slice r4 h.gap.right.key.length s4,.slice r5 h.gap.right.val.length s5,.slice r6 h.gap.right.path.length s6] 46)).alloc (.cells #[.string ⟨#[]⟩,.int .i64 0,.int .i64 0,.slice none 0 0,.slice none 0 0,.slice none 0 0,.slice none 0 0,.slice none 0 0,.slice none 0 0,.slice none 0 0] 28)=w0:=⟨_,rfl⟩
  have hb0:Below w.heap.size w w0:=by rw [← hw0];exact (((Below.refl _ _).alloc (Nat.le_refl _) _).alloc (by simp) _).alloc (by simp;omega) _
  have HB0:=hid hb0
  have HR0:=hid (show Row w0 (w.heap.size) 28 [.string s.name,.int .i64 s.height,.int .i64 s.time,.slice o1 s.clients.length c1,.slice o2 s.conns.length c2,.slice o3 s.chans.length c3,.slice o4 s.sent.length c4,.slice o5 s.got.length c5,.slice o6 s.acks.length c6,.slice o7 s.purses.length c7] by rw [← hw0];exact (((Row.new _ _ _).alloc _).alloc _))
  have HR1:=hid (show Row w0 (w.heap.size+1) 46 [.int .i64 h.height,.int .i64 h.prf.index,.int .i64 h.prf.size,.slice q1 h.prf.key.length e1,.slice q2 h.prf.val.length e2,.slice q3 h.prf.path.length e3,.bool h.gap.hasL,.bool h.gap.hasR,.int .i64 h.gap.left.index,.int .i64 h.gap.left.size,.slice r1 h.gap.left.key.length s1,.slice r2 h.gap.left.val.length s2,.slice r3 h.gap.left.path.length s3,.int .i64 h.gap.right.index,.int .i64 h.gap.right.size,.slice r4 h.gap.right.key.length s4,.slice r5 h.gap.right.val.length s5,.slice r6 h.gap.right.path.length s6] by rw [← hw0];exact ((Row.newAt _ _ _ _ (by simp)).alloc _))
  have HR2:=hid (show Row w0 (w.heap.size+2) 28 [.string ⟨#[]⟩,.int .i64 0,.int .i64 0,.slice none 0 0,.slice none 0 0,.slice none 0 0,.slice none 0 0,.slice none 0 0,.slice none 0 0,.slice none 0 0] by rw [← hw0];exact (Row.newAt _ _ _ _ (by simp)))
  have hsz0:w0.heap.size=w.heap.size+3:=by rw [← hw0];simp
  have HIZ:=hid (show (Tryz.prog.info? 28).map (·.size)=some 10 by kernel_rfl)
  have k0:w0.cell? ⟨w.heap.size,0,none⟩=some (.string s.name):=HR0.out.cell 0
  have k1:w0.cell? ⟨w.heap.size,1,none⟩=some (.int .i64 s.height):=HR0.out.cell 1
  have k2:w0.cell? ⟨w.heap.size,2,none⟩=some (.int .i64 s.time):=HR0.out.cell 2
  have k3:w0.cell? ⟨w.heap.size,3,none⟩=some (.slice o1 s.clients.length c1):=HR0.out.cell 3
  have k4:w0.cell? ⟨w.heap.size,4,none⟩=some (.slice o2 s.conns.length c2):=HR0.out.cell 4
  have k5:w0.cell? ⟨w.heap.size,5,none⟩=some (.slice o3 s.chans.length c3):=HR0.out.cell 5
  have k6:w0.cell? ⟨w.heap.size,6,none⟩=some (.slice o4 s.sent.length c4):=HR0.out.cell 6
  have k7:w0.cell? ⟨w.heap.size,7,none⟩=some (.slice o5 s.got.length c5):=HR0.out.cell 7
  have k8:w0.cell? ⟨w.heap.size,8,none⟩=some (.slice o6 s.acks.length c6):=HR0.out.cell 8
  have k9:w0.cell? ⟨w.heap.size,9,none⟩=some (.slice o7 s.purses.length c7):=HR0.out.cell 9
  have HW0:=hid hw0
  clear hv hm hh hfit hhf htab hpow hb0 hw0 hz
  go_enter Tryz.func18,Tryz.ntmps18
  go_upto_region 1 with fail
  rw [HW0.out]
  go_wp2_with fail
  refine (HST.out _ HB0.out).mono ?_
  rintro e w1 ⟨rfl,hb1⟩
  have HB1:=hid (HB0.out.trans (hb1.mono HB0.out.size))
  have HA1:=hid (HR0.out.below hb1 HR0.out.lt)
  have HH1:=hid (HR1.out.below hb1 HR1.out.lt)
  have HZ1:=hid (HR2.out.below hb1 HR2.out.lt)
  have hsz1:w0.heap.size≤w1.heap.size:=hb1.size
  clear hb1
  clear k0 k1 k2 k3 k4 k5 k6 k7 k8 k9
  have HS:=hid hs
  have HFW:=hid (wrongS_few (startN_ok hs))
  rw [hs]
  clear hs
  have HFO:=hid hfo
  have hdummy:True:=trivial
  cases hdummy with
  | intro =>
    cases (show True from trivial) with
    | intro =>
      cases (show True from trivial) with
      | intro =>
        have HFQ:=hid hfq
        have HI:=hid (show tryN s c o q z=if z≠0 then z else manyN s by rw [HDN.out,if_neg (by simp [HS.out]),if_neg (by simp [hfo,hfq])])
        have HMX:=hid (HMB.out HS.out hfo hfq)
        obtain ⟨w2,hw2⟩:∃ w2,w1.alloc (.cells #[.int .i64 1,.int .i64 o,.int .i64 c,.int .i64 (-1)] 58)=w2:=⟨_,rfl⟩
        have hb2:Below w1.heap.size w1 w2:=by rw [← hw2];exact (Below.refl _ _).alloc (Nat.le_refl _) _
        have HB2:=hid (HB1.out.trans (hb2.mono HB1.out.size))
        have HA2:=hid (HA1.out.below hb2 HA1.out.lt)
        have HH2:=hid (HH1.out.below hb2 HH1.out.lt)
        have HZ2:=hid (HZ1.out.below hb2 HZ1.out.lt)
        have HO2:=hid (show Row w2 w1.heap.size 58 [.int .i64 1,.int .i64 o,.int .i64 c,.int .i64 (-1)] by rw [← hw2];exact Row.new _ _ _)
        have hsz2:w1.heap.size≤w2.heap.size:=hb2.size
        have HW2:=hid hw2
        clear hfo hfq hb2 hw2
        go_upto_region 7 with (go_at_call 26;refine (from_any _ _ _).mono ?_;rintro e w' ⟨rfl,hww⟩;obtain rfl:=hww.symm;first | rw [HFO.out] | rw [HFQ.out])
        rw [HW2.out]
        have k0:w2.cell? ⟨w.heap.size,0,none⟩=some (.string s.name):=HA2.out.cell 0
        have k1:w2.cell? ⟨w.heap.size,1,none⟩=some (.int .i64 s.height):=HA2.out.cell 1
        have k2:w2.cell? ⟨w.heap.size,2,none⟩=some (.int .i64 s.time):=HA2.out.cell 2
        have k3:w2.cell? ⟨w.heap.size,3,none⟩=some (.slice o1 s.clients.length c1):=HA2.out.cell 3
        have k4:w2.cell? ⟨w.heap.size,4,none⟩=some (.slice o2 s.conns.length c2):=HA2.out.cell 4
        have k5:w2.cell? ⟨w.heap.size,5,none⟩=some (.slice o3 s.chans.length c3):=HA2.out.cell 5
        have k6:w2.cell? ⟨w.heap.size,6,none⟩=some (.slice o4 s.sent.length c4):=HA2.out.cell 6
        have k7:w2.cell? ⟨w.heap.size,7,none⟩=some (.slice o5 s.got.length c5):=HA2.out.cell 7
        have k8:w2.cell? ⟨w.heap.size,8,none⟩=some (.slice o6 s.acks.length c6):=HA2.out.cell 8
        have k9:w2.cell? ⟨w.heap.size,9,none⟩=some (.slice o7 s.purses.length c7):=HA2.out.cell 9
        have b0:w2.cell? ⟨w1.heap.size,0,none⟩=some (.int .i64 1):=HO2.out.cell 0
        have b1:w2.cell? ⟨w1.heap.size,1,none⟩=some (.int .i64 o):=HO2.out.cell 1
        have b2:w2.cell? ⟨w1.heap.size,2,none⟩=some (.int .i64 c):=HO2.out.cell 2
        have b3:w2.cell? ⟨w1.heap.size,3,none⟩=some (.int .i64 (-1)):=HO2.out.cell 3
        have h0:w2.cell? ⟨w.heap.size+1,0,none⟩=some (.int .i64 h.height):=HH2.out.cell 0
        have h1:w2.cell? ⟨w.heap.size+1,1,none⟩=some (.int .i64 h.prf.index):=HH2.out.cell 1
        have h2:w2.cell? ⟨w.heap.size+1,2,none⟩=some (.int .i64 h.prf.size):=HH2.out.cell 2
        have h3:w2.cell? ⟨w.heap.size+1,3,none⟩=some (.slice q1 h.prf.key.length e1):=HH2.out.cell 3
        have h4:w2.cell? ⟨w.heap.size+1,4,none⟩=some (.slice q2 h.prf.val.length e2):=HH2.out.cell 4
        have h5:w2.cell? ⟨w.heap.size+1,5,none⟩=some (.slice q3 h.prf.path.length e3):=HH2.out.cell 5
        have h6:w2.cell? ⟨w.heap.size+1,6,none⟩=some (.bool h.gap.hasL):=HH2.out.cell 6
        have h7:w2.cell? ⟨w.heap.size+1,7,none⟩=some (.bool h.gap.hasR):=HH2.out.cell 7
        have h8:w2.cell? ⟨w.heap.size+1,8,none⟩=some (.int .i64 h.gap.left.index):=HH2.out.cell 8
        have h9:w2.cell? ⟨w.heap.size+1,9,none⟩=some (.int .i64 h.gap.left.size):=HH2.out.cell 9
        have h10:w2.cell? ⟨w.heap.size+1,10,none⟩=some (.slice r1 h.gap.left.key.length s1):=HH2.out.cell 10
        have h11:w2.cell? ⟨w.heap.size+1,11,none⟩=some (.slice r2 h.gap.left.val.length s2):=HH2.out.cell 11
        have h12:w2.cell? ⟨w.heap.size+1,12,none⟩=some (.slice r3 h.gap.left.path.length s3):=HH2.out.cell 12
        have h13:w2.cell? ⟨w.heap.size+1,13,none⟩=some (.int .i64 h.gap.right.index):=HH2.out.cell 13
        have h14:w2.cell? ⟨w.heap.size+1,14,none⟩=some (.int .i64 h.gap.right.size):=HH2.out.cell 14
        have h15:w2.cell? ⟨w.heap.size+1,15,none⟩=some (.slice r4 h.gap.right.key.length s4):=HH2.out.cell 15
        have h16:w2.cell? ⟨w.heap.size+1,16,none⟩=some (.slice r5 h.gap.right.val.length s5):=HH2.out.cell 16
        have h17:w2.cell? ⟨w.heap.size+1,17,none⟩=some (.slice r6 h.gap.right.path.length s6):=HH2.out.cell 17
        go_wp2_with fail
        refine (HMX.out _ HB2.out).mono ?_
        rintro e w3 ⟨rfl,hb3⟩
        have HB3:=hid (HB2.out.trans (hb3.mono HB2.out.size))
        have HA3:=hid (HA2.out.below hb3 HA2.out.lt)
        have HZ3:=hid (HZ2.out.below hb3 HZ2.out.lt)
        have hsz3:w2.heap.size≤w3.heap.size:=hb3.size
        clear hb3 b0 b1 b2 b3 h0 h1 h2 h3 h4 h5 h6 h7 h8 h9 h10 h11 h12 h13 h14 h15 h16 h17
        clear k0 k1 k2 k3 k4 k5 k6 k7 k8 k9
        by_cases hz:z=0
        · subst hz
          have HI2:=hid (show tryN s c o q 0=manyN s by rw [HI.out];rfl)
          go_upto_region 10 with fail
          have k0:w3.cell? ⟨w.heap.size,0,none⟩=some (.string s.name):=HA3.out.cell 0
          have k1:w3.cell? ⟨w.heap.size,1,none⟩=some (.int .i64 s.height):=HA3.out.cell 1
          have k2:w3.cell? ⟨w.heap.size,2,none⟩=some (.int .i64 s.time):=HA3.out.cell 2
          have k3:w3.cell? ⟨w.heap.size,3,none⟩=some (.slice o1 s.clients.length c1):=HA3.out.cell 3
          have k4:w3.cell? ⟨w.heap.size,4,none⟩=some (.slice o2 s.conns.length c2):=HA3.out.cell 4
          have k5:w3.cell? ⟨w.heap.size,5,none⟩=some (.slice o3 s.chans.length c3):=HA3.out.cell 5
          have k6:w3.cell? ⟨w.heap.size,6,none⟩=some (.slice o4 s.sent.length c4):=HA3.out.cell 6
          have k7:w3.cell? ⟨w.heap.size,7,none⟩=some (.slice o5 s.got.length c5):=HA3.out.cell 7
          have k8:w3.cell? ⟨w.heap.size,8,none⟩=some (.slice o6 s.acks.length c6):=HA3.out.cell 8
          have k9:w3.cell? ⟨w.heap.size,9,none⟩=some (.slice o7 s.purses.length c7):=HA3.out.cell 9
          go_wp2_with fail
          refine (HAD.out HFW.out _ HB3.out).mono ?_
          rintro e w4 ⟨hb4,va,rfl,hva⟩
          have HB4:=hid (HB3.out.trans (hb4.mono HB3.out.size))
          have HZ4:=hid (HZ3.out.below hb4 HZ3.out.lt)
          clear k0 k1 k2 k3 k4 k5 k6 k7 k8 k9
          clear hb4
          obtain ⟨t,ht⟩:∃ t,addS s (manyN s) ⟨2,c,o,q⟩=t:=⟨_,rfl⟩
          have HTT:=hid (show tryS s c o q 0=t by unfold tryS;rw [HI2.out,ht])
          rw [ht] at hva
          clear ht
          obtain ⟨t1,u1,t2,u2,t3,u3,t4,u4,t5,u5,t6,u6,t7,u7,rfl,-⟩:=hva.now.open
          have HVA:=hid hva
          clear hva
          obtain ⟨wf,hwf⟩:∃ wf,w4.setRow (w.heap.size+1+1) #[.string t.name,.int .i64 t.height,.int .i64 t.time,.slice t1 t.clients.length u1,.slice t2 t.conns.length u2,.slice t3 t.chans.length u3,.slice t4 t.sent.length u4,.slice t5 t.got.length u5,.slice t6 t.acks.length u6,.slice t7 t.purses.length u7]=wf:=⟨_,rfl⟩
          have HRSf:=hid (show Row wf (w.heap.size+1+1) 28 [.string t.name,.int .i64 t.height,.int .i64 t.time,.slice t1 t.clients.length u1,.slice t2 t.conns.length u2,.slice t3 t.chans.length u3,.slice t4 t.sent.length u4,.slice t5 t.got.length u5,.slice t6 t.acks.length u6,.slice t7 t.purses.length u7] by rw [← hwf];exact Row.setRow HZ4.out _)
          have HHZf:=hid (show w4.heap[w.heap.size+1+1]?=some (.cells #[.string ⟨#[]⟩,.int .i64 0,.int .i64 0,.slice none 0 0,.slice none 0 0,.slice none 0 0,.slice none 0 0,.slice none 0 0,.slice none 0 0,.slice none 0 0] 28 (0,0)) from HZ4.out)
          have HONf:=hid (show (#[.string t.name,.int .i64 t.height,.int .i64 t.time,.slice t1 t.clients.length u1,.slice t2 t.conns.length u2,.slice t3 t.chans.length u3,.slice t4 t.sent.length u4,.slice t5 t.got.length u5,.slice t6 t.acks.length u6,.slice t7 t.purses.length u7]:Array Value).all (·.oneCell')=true by simp [Value.oneCell'])
          have HSWf:=hid hwf
          have HBf:=hid (show Below w.heap.size w wf by rw [← hwf];exact setRow_below HB4.out (by omega) _)
          have HTF:=hid (show HoldsS N w.heap.size wf (.agg #[.string t.name,.int .i64 t.height,.int .i64 t.time,.slice t1 t.clients.length u1,.slice t2 t.conns.length u2,.slice t3 t.chans.length u3,.slice t4 t.sent.length u4,.slice t5 t.got.length u5,.slice t6 t.acks.length u6,.slice t7 t.purses.length u7]) t by rw [← hwf];exact (HVA.out.row (by omega) (by omega) _).lower (by omega))
          clear hwf
          go_wp2_with (refine wpList_store_row rfl 28 (.tmp 10) (.tmp 51) rfl (w.heap.size+1+1) #[.string t.name,.int .i64 t.height,.int .i64 t.time,.slice t1 t.clients.length u1,.slice t2 t.conns.length u2,.slice t3 t.chans.length u3,.slice t4 t.sent.length u4,.slice t5 t.got.length u5,.slice t6 t.acks.length u6,.slice t7 t.purses.length u7] rfl rfl 28 #[.string ⟨#[]⟩,.int .i64 0,.int .i64 0,.slice none 0 0,.slice none 0 0,.slice none 0 0,.slice none 0 0,.slice none 0 0,.slice none 0 0,.slice none 0 0] HHZf.out HIZ.out rfl HONf.out ?_;rw [HSWf.out])
          have y0:=HRSf.out.cell 0
          simp at y0
          have y1:=HRSf.out.cell 1
          simp at y1
          have y2:=HRSf.out.cell 2
          simp at y2
          have y3:=HRSf.out.cell 3
          simp at y3
          have y4:=HRSf.out.cell 4
          simp at y4
          have y5:=HRSf.out.cell 5
          simp at y5
          have y6:=HRSf.out.cell 6
          simp at y6
          have y7:=HRSf.out.cell 7
          simp at y7
          have y8:=HRSf.out.cell 8
          simp at y8
          have y9:=HRSf.out.cell 9
          simp at y9
          refine bodyPost_ret (v:=.tuple #[.agg #[.string t.name,.int .i64 t.height,.int .i64 t.time,.slice t1 t.clients.length u1,.slice t2 t.conns.length u2,.slice t3 t.chans.length u3,.slice t4 t.sent.length u4,.slice t5 t.got.length u5,.slice t6 t.acks.length u6,.slice t7 t.purses.length u7],.int .i64 (addI s (manyN s)),.int .i64 (manyN s)]) (by simp [results,Tryz.results18,go_sem,y0,y1,y2,y3,y4,y5,y6,y7,y8,y9]) rfl ⟨HBf.out,_,by rw [HI2.out];first | done | rfl,?_⟩
          rw [HTT.out]
          exact HTF.out
        · have e0:(z != 0)=true:=by simpa using hz
          have HI2:=hid (show tryN s c o q z=z by rw [HI.out,if_pos hz])
          have HNO:=hid (show tryS s c o q z=St.none by unfold tryS addS;rw [HI2.out,if_neg hz])
          have HAI:=hid (show addI s (tryN s c o q z)=0 by unfold addI;rw [HI2.out,if_neg hz])
          clear hz
          obtain ⟨wz3,hwz3⟩:∃ wz3,w3.setRow (w.heap.size+1+1) #[.string ⟨#[]⟩,.int .i64 0,.int .i64 0,.slice none 0 0,.slice none 0 0,.slice none 0 0,.slice none 0 0,.slice none 0 0,.slice none 0 0,.slice none 0 0]=wz3:=⟨_,rfl⟩
          have HRSz3:=hid (show Row wz3 (w.heap.size+1+1) 28 [.string ⟨#[]⟩,.int .i64 0,.int .i64 0,.slice none 0 0,.slice none 0 0,.slice none 0 0,.slice none 0 0,.slice none 0 0,.slice none 0 0,.slice none 0 0] by rw [← hwz3];exact Row.setRow HZ3.out _)
          have HHZz3:=hid (show w3.heap[w.heap.size+1+1]?=some (.cells #[.string ⟨#[]⟩,.int .i64 0,.int .i64 0,.slice none 0 0,.slice none 0 0,.slice none 0 0,.slice none 0 0,.slice none 0 0,.slice none 0 0,.slice none 0 0] 28 (0,0)) from HZ3.out)
          have HONz3:=hid (show (#[.string ⟨#[]⟩,.int .i64 0,.int .i64 0,.slice none 0 0,.slice none 0 0,.slice none 0 0,.slice none 0 0,.slice none 0 0,.slice none 0 0,.slice none 0 0]:Array Value).all (·.oneCell')=true by simp [Value.oneCell'])
          have HSWz3:=hid hwz3
          have HBz3:=hid (show Below w.heap.size w wz3 by rw [← hwz3];exact setRow_below HB3.out (by omega) _)
          clear hwz3
          go_wp2_with (refine wpList_store_row rfl 28 (.tmp 10) (.tmp 43) rfl (w.heap.size+1+1) #[.string ⟨#[]⟩,.int .i64 0,.int .i64 0,.slice none 0 0,.slice none 0 0,.slice none 0 0,.slice none 0 0,.slice none 0 0,.slice none 0 0,.slice none 0 0] rfl rfl 28 #[.string ⟨#[]⟩,.int .i64 0,.int .i64 0,.slice none 0 0,.slice none 0 0,.slice none 0 0,.slice none 0 0,.slice none 0 0,.slice none 0 0,.slice none 0 0] HHZz3.out HIZ.out rfl HONz3.out ?_;rw [HSWz3.out])
          have y0:=HRSz3.out.cell 0
          simp at y0
          have y1:=HRSz3.out.cell 1
          simp at y1
          have y2:=HRSz3.out.cell 2
          simp at y2
          have y3:=HRSz3.out.cell 3
          simp at y3
          have y4:=HRSz3.out.cell 4
          simp at y4
          have y5:=HRSz3.out.cell 5
          simp at y5
          have y6:=HRSz3.out.cell 6
          simp at y6
          have y7:=HRSz3.out.cell 7
          simp at y7
          have y8:=HRSz3.out.cell 8
          simp at y8
          have y9:=HRSz3.out.cell 9
          simp at y9
          refine bodyPost_ret (v:=.tuple #[.agg #[.string ⟨#[]⟩,.int .i64 0,.int .i64 0,.slice none 0 0,.slice none 0 0,.slice none 0 0,.slice none 0 0,.slice none 0 0,.slice none 0 0,.slice none 0 0],.int .i64 0,.int .i64 z]) (by simp [results,Tryz.results18,go_sem,y0,y1,y2,y3,y4,y5,y6,y7,y8,y9]) rfl ⟨HBz3.out,_,by rw [HAI.out,HI2.out];first | done | rfl,?_⟩
          rw [HNO.out]
          exact holdsS_none _ _ _
theorem try_any (s:St) (v hv2:Value) (N:Nat) (w:World) (c o q z:Int) (h:Sh) (hv:StV w N v s) (hh:ShV w N hv2 h) (hN:N≤w.heap.size) (hfit:s.fits) (hhf:h.fits) (htab:tableAt w) (hpow:powAt w) (hz:askTry s c o q h z) :
    Calls Tryz.prog 18 #[v,.int .i64 c,.int .i64 o,.int .i64 q,hv2] w fun e w'=>Below w.heap.size w w'∧∃ v',e=.returned (.tuple #[v',.int .i64 (addI s (tryN s c o q z)),.int .i64 (tryN s c o q z)])∧HoldsS N w.heap.size w' v' (tryS s c o q z):=by
  by_cases hs:startN s c=0
  · cases hfo:fromB 0 o with
    | false=>exact tryA_any s v hv2 N w c o q z h hv hh hN hfit (.inr (by simp [hfo]))
    | true =>
      cases hfq:fromB 0 q with
      | false=>exact tryA_any s v hv2 N w c o q z h hv hh hN hfit (.inr (by simp [hfq]))
      | true=>exact tryB_any s v hv2 N w c o q z h hv hh hN hfit hhf htab hpow hz hs hfo hfq
  · exact tryA_any s v hv2 N w c o q z h hv hh hN hfit (.inl hs)
end Go.Proofs.YtooemgkjkngpcaaGreatDoor
