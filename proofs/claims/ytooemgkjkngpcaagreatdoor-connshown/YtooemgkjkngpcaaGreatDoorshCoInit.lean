/-
  Package conn's Init.
-/
import Derived.Test.YtooemgkjkngpcaaGreatDoorshCoDoubts
import Derived.Test.YtooemgkjkngpcaaGreatDoorshCoAdd
namespace Go.Proofs.YtooemgkjkngpcaaGreatDoor
open Go.RowKit

theorem startN_ok {s:St} {c:Int} (h:startN s c=0):wrongS s=0:=by
  unfold startN at h
  split at h
  · rename_i h1;exact absurd h h1
  · rename_i h1;simpa using h1
theorem startN_live {s:St} {c:Int} (h:startN s c=0):liveN s c=0:=by
  unfold startN at h
  split at h
  · rename_i h1;exact absurd h h1
  · exact h
theorem wrongCn_ask {a b c d:Int} (h1:1≤a∧a≤3) (h2:0≤b∧b≤1000000000000) (h3:0≤c∧c≤1000000000000) (h4 : -1≤d∧d≤1000000000000):wrongCn ⟨a,b,c,d⟩=0:=by
  unfold wrongCn
  rw [if_neg (by simp;omega),if_neg]
  simp [fromB]
  omega
set_option maxRecDepth 100000 in
set_option maxHeartbeats 8000000 in
theorem init_any (s:St) (v:Value) (N:Nat) (w:World) (c o:Int) (hv:StV w N v s) (hN:N≤w.heap.size) (hfit:s.fits) :
    Calls Tryz.prog 15 #[v,.int .i64 c,.int .i64 o] w fun e w'=>Below w.heap.size w w'∧∃ v',e=.returned (.tuple #[v',.int .i64 (addI s (initN s c o)),.int .i64 (initN s c o)])∧HoldsS N w.heap.size w' v' (initS s c o):=by
  have HST:=hid (show ∀ wx,Below w.heap.size w wx→_ from fun wx hx=>start_any s v N wx c (hv.below (hx.mono hN)) (Nat.le_trans hN hx.size) hfit)
  have HAD:=hid (show few s→∀ wx,Below w.heap.size w wx→_ from fun hfew wx hx=>added_any s v N wx ⟨1,c,o,-1⟩ (hv.below (hx.mono hN)) (Nat.le_trans hN hx.size) hfit hfew)
  have HDN:=hid (show initN s c o=if startN s c≠0 then startN s c else if fromB 0 o=false then 3 else manyN s from rfl)
  obtain ⟨o1,c1,o2,c2,o3,c3,o4,c4,o5,c5,o6,c6,o7,c7,rfl,hm⟩:=hv.open
  obtain ⟨w0,hw0⟩:∃ w0,(w.alloc (.cells #[.string s.name,.int .i64 s.height,.int .i64 s.time,.slice o1 s.clients.length c1,.slice o2 s.conns.length c2,.slice o3 s.chans.length c3,.slice o4 s.sent.length c4,.slice o5 s.got.length c5,.slice o6 s.acks.length c6,.slice o7 s.purses.length c7] 28)).alloc (.cells #[.string ⟨#[]⟩,.int .i64 0,.int .i64 0,.slice none 0 0,.slice none 0 0,.slice none 0 0,.slice none 0 0,.slice none 0 0,.slice none 0 0,.slice none 0 0] 28)=w0:=⟨_,rfl⟩
  have hb0:Below w.heap.size w w0:=by rw [← hw0];exact ((Below.refl _ _).alloc (Nat.le_refl _) _).alloc (by simp) _
  have HB0:=hid hb0
  have HR0:=hid (show Row w0 (w.heap.size) 28 [.string s.name,.int .i64 s.height,.int .i64 s.time,.slice o1 s.clients.length c1,.slice o2 s.conns.length c2,.slice o3 s.chans.length c3,.slice o4 s.sent.length c4,.slice o5 s.got.length c5,.slice o6 s.acks.length c6,.slice o7 s.purses.length c7] by rw [← hw0];exact ((Row.new _ _ _).alloc _))
  have HR1:=hid (show Row w0 (w.heap.size+1) 28 [.string ⟨#[]⟩,.int .i64 0,.int .i64 0,.slice none 0 0,.slice none 0 0,.slice none 0 0,.slice none 0 0,.slice none 0 0,.slice none 0 0,.slice none 0 0] by rw [← hw0];exact (Row.newAt _ _ _ _ (by simp)))
  have hsz0:w0.heap.size=w.heap.size+2:=by rw [← hw0];simp
  have HIZ:=hid (show (Tryz.prog.info? 28).map (·.size)=some 10 by kernel_rfl)
  have k0:w0.cell? ⟨w.heap.size,0,none⟩=some (.string s.name):=HR0.out.cell 0
  have k1:w0.cell? ⟨w.heap.size,1,none⟩=some (.int .i64 s.height):=HR0.out.cell 1
  have k2:w0.cell? ⟨w.heap.size,2,none⟩=some (.int .i64 s.time):=HR0.out.cell 2
  have k3:w0.cell? ⟨w.heap.size,3,none⟩=some (.slice o1 s.clients.length c1):=HR0.out.cell 3
  have k4:w0.cell? ⟨w.heap.size,4,none⟩=some (.slice o2 s.conns.length c2):=HR0.out.cell 4
  have k5:w0.cell? ⟨w.heap.size,5,none⟩=some (.slice o3 s.chans.length c3):=HR0.out.cell 5
  have k6:w0.cell? ⟨w.heap.size,6,none⟩=some (.slice o4 s.sent.length c4):=HR0.out.cell 6
  have k7:w0.cell? ⟨w.heap.size,7,none⟩=some (.slice o5 s.got.length c5):=HR0.out.cell 7
  have k8:w0.cell? ⟨w.heap.size,8,none⟩=some (.slice o6 s.acks.length c6):=HR0.out.cell 8
  have k9:w0.cell? ⟨w.heap.size,9,none⟩=some (.slice o7 s.purses.length c7):=HR0.out.cell 9
  have HW0:=hid hw0
  clear hv hm hfit hb0 hw0
  go_enter Tryz.func15,Tryz.ntmps15
  go_upto_region 1 with fail
  rw [HW0.out]
  go_wp2_with fail
  refine (HST.out _ HB0.out).mono ?_
  rintro e w1 ⟨rfl,hb1⟩
  have HB1:=hid (HB0.out.trans (hb1.mono HB0.out.size))
  have HA1:=hid (HR0.out.below hb1 HR0.out.lt)
  have HZ1:=hid (HR1.out.below hb1 HR1.out.lt)
  have hsz1:w0.heap.size≤w1.heap.size:=hb1.size
  clear hb1
  clear k0 k1 k2 k3 k4 k5 k6 k7 k8 k9
  by_cases hs:startN s c=0
  · have HS:=hid hs
    have HFW:=hid (wrongS_few (startN_ok hs))
    rw [hs]
    clear hs
    cases hf:fromB 0 o with
    | false =>
      have HF:=hid hf
      have HI:=hid (show initN s c o=3 by rw [HDN.out,if_neg (by simp [HS.out]),if_pos hf])
      clear hf
      obtain ⟨wz1,hwz1⟩:∃ wz1,w1.setRow (w.heap.size+1) #[.string ⟨#[]⟩,.int .i64 0,.int .i64 0,.slice none 0 0,.slice none 0 0,.slice none 0 0,.slice none 0 0,.slice none 0 0,.slice none 0 0,.slice none 0 0]=wz1:=⟨_,rfl⟩
      have HRSz1:=hid (show Row wz1 (w.heap.size+1) 28 [.string ⟨#[]⟩,.int .i64 0,.int .i64 0,.slice none 0 0,.slice none 0 0,.slice none 0 0,.slice none 0 0,.slice none 0 0,.slice none 0 0,.slice none 0 0] by rw [← hwz1];exact Row.setRow HZ1.out _)
      have HHZz1:=hid (show w1.heap[w.heap.size+1]?=some (.cells #[.string ⟨#[]⟩,.int .i64 0,.int .i64 0,.slice none 0 0,.slice none 0 0,.slice none 0 0,.slice none 0 0,.slice none 0 0,.slice none 0 0,.slice none 0 0] 28 (0,0)) from HZ1.out)
      have HONz1:=hid (show (#[.string ⟨#[]⟩,.int .i64 0,.int .i64 0,.slice none 0 0,.slice none 0 0,.slice none 0 0,.slice none 0 0,.slice none 0 0,.slice none 0 0,.slice none 0 0]:Array Value).all (·.oneCell')=true by simp [Value.oneCell'])
      have HSWz1:=hid hwz1
      have HBz1:=hid (show Below w.heap.size w wz1 by rw [← hwz1];exact setRow_below HB1.out (by omega) _)
      clear hwz1
      go_wp2_with (first | (go_at_call 26;refine (from_any _ _ _).mono ?_;rintro e w' ⟨rfl,hww⟩;obtain rfl:=hww.symm;rw [HF.out]) | (refine wpList_store_row rfl 28 (.tmp 6) (.tmp 20) rfl (w.heap.size+1) #[.string ⟨#[]⟩,.int .i64 0,.int .i64 0,.slice none 0 0,.slice none 0 0,.slice none 0 0,.slice none 0 0,.slice none 0 0,.slice none 0 0,.slice none 0 0] rfl rfl 28 #[.string ⟨#[]⟩,.int .i64 0,.int .i64 0,.slice none 0 0,.slice none 0 0,.slice none 0 0,.slice none 0 0,.slice none 0 0,.slice none 0 0,.slice none 0 0] HHZz1.out HIZ.out rfl HONz1.out ?_;rw [HSWz1.out]))
      have y0:=HRSz1.out.cell 0
      simp at y0
      have y1:=HRSz1.out.cell 1
      simp at y1
      have y2:=HRSz1.out.cell 2
      simp at y2
      have y3:=HRSz1.out.cell 3
      simp at y3
      have y4:=HRSz1.out.cell 4
      simp at y4
      have y5:=HRSz1.out.cell 5
      simp at y5
      have y6:=HRSz1.out.cell 6
      simp at y6
      have y7:=HRSz1.out.cell 7
      simp at y7
      have y8:=HRSz1.out.cell 8
      simp at y8
      have y9:=HRSz1.out.cell 9
      simp at y9
      refine bodyPost_ret (v:=.tuple #[.agg #[.string ⟨#[]⟩,.int .i64 0,.int .i64 0,.slice none 0 0,.slice none 0 0,.slice none 0 0,.slice none 0 0,.slice none 0 0,.slice none 0 0,.slice none 0 0],.int .i64 0,.int .i64 3]) (by simp [results,Tryz.results15,go_sem,y0,y1,y2,y3,y4,y5,y6,y7,y8,y9]) rfl ⟨HBz1.out,_,by rw [HI.out];first | done | rfl,?_⟩
      rw [show initS s c o=St.none by unfold initS addS;rw [HI.out];rfl]
      exact holdsS_none _ _ _
    | true =>
      have HF:=hid hf
      have HI:=hid (show initN s c o=manyN s by rw [HDN.out,if_neg (by simp [HS.out]),if_neg (by simp [hf])])
      clear hf
      go_upto_region 6 with (go_at_call 26;refine (from_any _ _ _).mono ?_;rintro e w' ⟨rfl,hww⟩;obtain rfl:=hww.symm;rw [HF.out])
      have k0:w1.cell? ⟨w.heap.size,0,none⟩=some (.string s.name):=HA1.out.cell 0
      have k1:w1.cell? ⟨w.heap.size,1,none⟩=some (.int .i64 s.height):=HA1.out.cell 1
      have k2:w1.cell? ⟨w.heap.size,2,none⟩=some (.int .i64 s.time):=HA1.out.cell 2
      have k3:w1.cell? ⟨w.heap.size,3,none⟩=some (.slice o1 s.clients.length c1):=HA1.out.cell 3
      have k4:w1.cell? ⟨w.heap.size,4,none⟩=some (.slice o2 s.conns.length c2):=HA1.out.cell 4
      have k5:w1.cell? ⟨w.heap.size,5,none⟩=some (.slice o3 s.chans.length c3):=HA1.out.cell 5
      have k6:w1.cell? ⟨w.heap.size,6,none⟩=some (.slice o4 s.sent.length c4):=HA1.out.cell 6
      have k7:w1.cell? ⟨w.heap.size,7,none⟩=some (.slice o5 s.got.length c5):=HA1.out.cell 7
      have k8:w1.cell? ⟨w.heap.size,8,none⟩=some (.slice o6 s.acks.length c6):=HA1.out.cell 8
      have k9:w1.cell? ⟨w.heap.size,9,none⟩=some (.slice o7 s.purses.length c7):=HA1.out.cell 9
      go_wp2_with fail
      refine (HAD.out HFW.out _ HB1.out).mono ?_
      rintro e w2 ⟨hb2,va,rfl,hva⟩
      have HB2:=hid (HB1.out.trans (hb2.mono HB1.out.size))
      have HZ2:=hid (HZ1.out.below hb2 HZ1.out.lt)
      clear k0 k1 k2 k3 k4 k5 k6 k7 k8 k9
      clear hb2
      obtain ⟨t,ht⟩:∃ t,addS s (manyN s) ⟨1,c,o,-1⟩=t:=⟨_,rfl⟩
      have HTT:=hid (show initS s c o=t by unfold initS;rw [HI.out,ht])
      rw [ht] at hva
      clear ht
      obtain ⟨t1,u1,t2,u2,t3,u3,t4,u4,t5,u5,t6,u6,t7,u7,rfl,-⟩:=hva.now.open
      have HVA:=hid hva
      clear hva
      obtain ⟨wf,hwf⟩:∃ wf,w2.setRow (w.heap.size+1) #[.string t.name,.int .i64 t.height,.int .i64 t.time,.slice t1 t.clients.length u1,.slice t2 t.conns.length u2,.slice t3 t.chans.length u3,.slice t4 t.sent.length u4,.slice t5 t.got.length u5,.slice t6 t.acks.length u6,.slice t7 t.purses.length u7]=wf:=⟨_,rfl⟩
      have HRSf:=hid (show Row wf (w.heap.size+1) 28 [.string t.name,.int .i64 t.height,.int .i64 t.time,.slice t1 t.clients.length u1,.slice t2 t.conns.length u2,.slice t3 t.chans.length u3,.slice t4 t.sent.length u4,.slice t5 t.got.length u5,.slice t6 t.acks.length u6,.slice t7 t.purses.length u7] by rw [← hwf];exact Row.setRow HZ2.out _)
      have HHZf:=hid (show w2.heap[w.heap.size+1]?=some (.cells #[.string ⟨#[]⟩,.int .i64 0,.int .i64 0,.slice none 0 0,.slice none 0 0,.slice none 0 0,.slice none 0 0,.slice none 0 0,.slice none 0 0,.slice none 0 0] 28 (0,0)) from HZ2.out)
      have HONf:=hid (show (#[.string t.name,.int .i64 t.height,.int .i64 t.time,.slice t1 t.clients.length u1,.slice t2 t.conns.length u2,.slice t3 t.chans.length u3,.slice t4 t.sent.length u4,.slice t5 t.got.length u5,.slice t6 t.acks.length u6,.slice t7 t.purses.length u7]:Array Value).all (·.oneCell')=true by simp [Value.oneCell'])
      have HSWf:=hid hwf
      have HBf:=hid (show Below w.heap.size w wf by rw [← hwf];exact setRow_below HB2.out (by omega) _)
      have HTF:=hid (show HoldsS N w.heap.size wf (.agg #[.string t.name,.int .i64 t.height,.int .i64 t.time,.slice t1 t.clients.length u1,.slice t2 t.conns.length u2,.slice t3 t.chans.length u3,.slice t4 t.sent.length u4,.slice t5 t.got.length u5,.slice t6 t.acks.length u6,.slice t7 t.purses.length u7]) t by rw [← hwf];exact (HVA.out.row (by omega) (by omega) _).lower (by omega))
      clear hwf
      go_wp2_with (refine wpList_store_row rfl 28 (.tmp 6) (.tmp 26) rfl (w.heap.size+1) #[.string t.name,.int .i64 t.height,.int .i64 t.time,.slice t1 t.clients.length u1,.slice t2 t.conns.length u2,.slice t3 t.chans.length u3,.slice t4 t.sent.length u4,.slice t5 t.got.length u5,.slice t6 t.acks.length u6,.slice t7 t.purses.length u7] rfl rfl 28 #[.string ⟨#[]⟩,.int .i64 0,.int .i64 0,.slice none 0 0,.slice none 0 0,.slice none 0 0,.slice none 0 0,.slice none 0 0,.slice none 0 0,.slice none 0 0] HHZf.out HIZ.out rfl HONf.out ?_;rw [HSWf.out])
      have y0:=HRSf.out.cell 0
      simp at y0
      have y1:=HRSf.out.cell 1
      simp at y1
      have y2:=HRSf.out.cell 2
      simp at y2
      have y3:=HRSf.out.cell 3
      simp at y3
      have y4:=HRSf.out.cell 4
      simp at y4
      have y5:=HRSf.out.cell 5
      simp at y5
      have y6:=HRSf.out.cell 6
      simp at y6
      have y7:=HRSf.out.cell 7
      simp at y7
      have y8:=HRSf.out.cell 8
      simp at y8
      have y9:=HRSf.out.cell 9
      simp at y9
      refine bodyPost_ret (v:=.tuple #[.agg #[.string t.name,.int .i64 t.height,.int .i64 t.time,.slice t1 t.clients.length u1,.slice t2 t.conns.length u2,.slice t3 t.chans.length u3,.slice t4 t.sent.length u4,.slice t5 t.got.length u5,.slice t6 t.acks.length u6,.slice t7 t.purses.length u7],.int .i64 (addI s (manyN s)),.int .i64 (manyN s)]) (by simp [results,Tryz.results15,go_sem,y0,y1,y2,y3,y4,y5,y6,y7,y8,y9]) rfl ⟨HBf.out,_,by rw [HI.out];first | done | rfl,?_⟩
      rw [HTT.out]
      exact HTF.out
  · have e0:(startN s c != 0)=true:=by simpa using hs
    have HI:=hid (show initN s c o=startN s c by rw [HDN.out,if_pos hs])
    have HNO:=hid (show initS s c o=St.none by unfold initS addS;rw [HI.out,if_neg hs])
    have HAI:=hid (show addI s (initN s c o)=0 by unfold addI;rw [HI.out,if_neg hs])
    clear hs
    generalize hzz:startN s c=z at *
    have HZZ:=hid hzz
    clear hzz
    obtain ⟨wz2,hwz2⟩:∃ wz2,w1.setRow (w.heap.size+1) #[.string ⟨#[]⟩,.int .i64 0,.int .i64 0,.slice none 0 0,.slice none 0 0,.slice none 0 0,.slice none 0 0,.slice none 0 0,.slice none 0 0,.slice none 0 0]=wz2:=⟨_,rfl⟩
    have HRSz2:=hid (show Row wz2 (w.heap.size+1) 28 [.string ⟨#[]⟩,.int .i64 0,.int .i64 0,.slice none 0 0,.slice none 0 0,.slice none 0 0,.slice none 0 0,.slice none 0 0,.slice none 0 0,.slice none 0 0] by rw [← hwz2];exact Row.setRow HZ1.out _)
    have HHZz2:=hid (show w1.heap[w.heap.size+1]?=some (.cells #[.string ⟨#[]⟩,.int .i64 0,.int .i64 0,.slice none 0 0,.slice none 0 0,.slice none 0 0,.slice none 0 0,.slice none 0 0,.slice none 0 0,.slice none 0 0] 28 (0,0)) from HZ1.out)
    have HONz2:=hid (show (#[.string ⟨#[]⟩,.int .i64 0,.int .i64 0,.slice none 0 0,.slice none 0 0,.slice none 0 0,.slice none 0 0,.slice none 0 0,.slice none 0 0,.slice none 0 0]:Array Value).all (·.oneCell')=true by simp [Value.oneCell'])
    have HSWz2:=hid hwz2
    have HBz2:=hid (show Below w.heap.size w wz2 by rw [← hwz2];exact setRow_below HB1.out (by omega) _)
    clear hwz2
    go_wp2_with (refine wpList_store_row rfl 28 (.tmp 6) (.tmp 15) rfl (w.heap.size+1) #[.string ⟨#[]⟩,.int .i64 0,.int .i64 0,.slice none 0 0,.slice none 0 0,.slice none 0 0,.slice none 0 0,.slice none 0 0,.slice none 0 0,.slice none 0 0] rfl rfl 28 #[.string ⟨#[]⟩,.int .i64 0,.int .i64 0,.slice none 0 0,.slice none 0 0,.slice none 0 0,.slice none 0 0,.slice none 0 0,.slice none 0 0,.slice none 0 0] HHZz2.out HIZ.out rfl HONz2.out ?_;rw [HSWz2.out])
    have y0:=HRSz2.out.cell 0
    simp at y0
    have y1:=HRSz2.out.cell 1
    simp at y1
    have y2:=HRSz2.out.cell 2
    simp at y2
    have y3:=HRSz2.out.cell 3
    simp at y3
    have y4:=HRSz2.out.cell 4
    simp at y4
    have y5:=HRSz2.out.cell 5
    simp at y5
    have y6:=HRSz2.out.cell 6
    simp at y6
    have y7:=HRSz2.out.cell 7
    simp at y7
    have y8:=HRSz2.out.cell 8
    simp at y8
    have y9:=HRSz2.out.cell 9
    simp at y9
    refine bodyPost_ret (v:=.tuple #[.agg #[.string ⟨#[]⟩,.int .i64 0,.int .i64 0,.slice none 0 0,.slice none 0 0,.slice none 0 0,.slice none 0 0,.slice none 0 0,.slice none 0 0,.slice none 0 0],.int .i64 0,.int .i64 z]) (by simp [results,Tryz.results15,go_sem,y0,y1,y2,y3,y4,y5,y6,y7,y8,y9]) rfl ⟨HBz2.out,_,by rw [HAI.out,HI.out];first | done | rfl,?_⟩
    rw [HNO.out]
    exact holdsS_none _ _ _
end Go.Proofs.YtooemgkjkngpcaaGreatDoor
