/-
  What keeps a connection from beginning, or going on.
-/
import Derived.Test.YtooemgkjkngpcaaGreatDoorshCoLive
import Derived.Test.YtooemgkjkngpcaaGreatDoorshStWrong
namespace Go.Proofs.YtooemgkjkngpcaaGreatDoor
open Go.RowKit

theorem endN_ok {s:St} {i st:Int} (h:endN s i st=0):wrongS s=0∧(0≤i∧i<(s.conns.length:Int))∧(cnAt s i).state=st∧liveN s (cnAt s i).client=0:=by
  unfold endN at h
  split at h
  · rename_i h1;exact absurd h h1
  rename_i h1
  split at h
  · cases h
  split at h
  · cases h
  rename_i h2 h3
  exact ⟨by simpa using h1,by omega,by simpa using h3,h⟩
set_option maxRecDepth 100000 in
set_option maxHeartbeats 4000000 in
theorem start_any (s:St) (v:Value) (N:Nat) (w:World) (c:Int) (hv:StV w N v s) (hN:N≤w.heap.size) (hfit:s.fits) :
    Calls Tryz.prog 55 #[v,.int .i64 c] w fun e w'=>e=.returned (.int .i64 (startN s c))∧Below w.heap.size w w':=by
  have HW1:=hid (show ∀ wx,Below w.heap.size w wx→_ from fun wx hx=>stWrongC s v N wx (hv.below (hx.mono hN)) (Nat.le_trans hN hx.size) hfit)
  have HLV:=hid (show wrongS s=0→∀ wx,Below w.heap.size w wx→_ from fun h0 wx hx=>liveC s v N wx c (hv.below (hx.mono hN)) (Nat.le_trans hN hx.size) h0)
  obtain ⟨o1,c1,o2,c2,o3,c3,o4,c4,o5,c5,o6,c6,o7,c7,rfl,hm⟩:=hv.open
  obtain ⟨w0,hw0⟩:∃ w0,w.alloc (.cells #[.string s.name,.int .i64 s.height,.int .i64 s.time,.slice o1 s.clients.length c1,.slice o2 s.conns.length c2,.slice o3 s.chans.length c3,.slice o4 s.sent.length c4,.slice o5 s.got.length c5,.slice o6 s.acks.length c6,.slice o7 s.purses.length c7] 28)=w0:=⟨_,rfl⟩
  have hb0:Below w.heap.size w w0:=by rw [← hw0];exact (Below.refl _ _).alloc (Nat.le_refl _) _
  have HB0:=hid hb0
  have HR0:=hid (show Row w0 (w.heap.size) 28 [.string s.name,.int .i64 s.height,.int .i64 s.time,.slice o1 s.clients.length c1,.slice o2 s.conns.length c2,.slice o3 s.chans.length c3,.slice o4 s.sent.length c4,.slice o5 s.got.length c5,.slice o6 s.acks.length c6,.slice o7 s.purses.length c7] by rw [← hw0];exact (Row.new _ _ _))
  have hsz0:w0.heap.size=w.heap.size+1:=by rw [← hw0];simp
  have k0:w0.cell? ⟨w.heap.size,0,none⟩=some (.string s.name):=HR0.out.cell 0
  have k1:w0.cell? ⟨w.heap.size,1,none⟩=some (.int .i64 s.height):=HR0.out.cell 1
  have k2:w0.cell? ⟨w.heap.size,2,none⟩=some (.int .i64 s.time):=HR0.out.cell 2
  have k3:w0.cell? ⟨w.heap.size,3,none⟩=some (.slice o1 s.clients.length c1):=HR0.out.cell 3
  have k4:w0.cell? ⟨w.heap.size,4,none⟩=some (.slice o2 s.conns.length c2):=HR0.out.cell 4
  have k5:w0.cell? ⟨w.heap.size,5,none⟩=some (.slice o3 s.chans.length c3):=HR0.out.cell 5
  have k6:w0.cell? ⟨w.heap.size,6,none⟩=some (.slice o4 s.sent.length c4):=HR0.out.cell 6
  have k7:w0.cell? ⟨w.heap.size,7,none⟩=some (.slice o5 s.got.length c5):=HR0.out.cell 7
  have k8:w0.cell? ⟨w.heap.size,8,none⟩=some (.slice o6 s.acks.length c6):=HR0.out.cell 8
  have k9:w0.cell? ⟨w.heap.size,9,none⟩=some (.slice o7 s.purses.length c7):=HR0.out.cell 9
  have HW0:=hid hw0
  clear hv hm hfit hb0 hw0
  go_enter Tryz.func55,Tryz.ntmps55
  go_upto_region 1 with fail
  rw [HW0.out]
  go_wp2_with fail
  refine (HW1.out _ HB0.out).mono ?_
  rintro e w1 ⟨rfl,hb1⟩
  have HB1:=hid (HB0.out.trans (hb1.mono HB0.out.size))
  have HR1:=hid (HR0.out.below hb1 HR0.out.lt)
  clear hb1 k0 k1 k2 k3 k4 k5 k6 k7 k8 k9
  by_cases hz:wrongS s=0
  · have HS:=hid (show startN s c=liveN s c from if_neg (by simp [hz]))
    have HLW:=hid (HLV.out hz _ HB1.out)
    rw [hz]
    clear hz
    have k0:w1.cell? ⟨w.heap.size,0,none⟩=some (.string s.name):=HR1.out.cell 0
    have k1:w1.cell? ⟨w.heap.size,1,none⟩=some (.int .i64 s.height):=HR1.out.cell 1
    have k2:w1.cell? ⟨w.heap.size,2,none⟩=some (.int .i64 s.time):=HR1.out.cell 2
    have k3:w1.cell? ⟨w.heap.size,3,none⟩=some (.slice o1 s.clients.length c1):=HR1.out.cell 3
    have k4:w1.cell? ⟨w.heap.size,4,none⟩=some (.slice o2 s.conns.length c2):=HR1.out.cell 4
    have k5:w1.cell? ⟨w.heap.size,5,none⟩=some (.slice o3 s.chans.length c3):=HR1.out.cell 5
    have k6:w1.cell? ⟨w.heap.size,6,none⟩=some (.slice o4 s.sent.length c4):=HR1.out.cell 6
    have k7:w1.cell? ⟨w.heap.size,7,none⟩=some (.slice o5 s.got.length c5):=HR1.out.cell 7
    have k8:w1.cell? ⟨w.heap.size,8,none⟩=some (.slice o6 s.acks.length c6):=HR1.out.cell 8
    have k9:w1.cell? ⟨w.heap.size,9,none⟩=some (.slice o7 s.purses.length c7):=HR1.out.cell 9
    go_wp2_with fail
    refine HLW.out.mono ?_
    rintro e w2 ⟨rfl,hb2⟩
    have HB2:=hid (HB1.out.trans (hb2.mono HB1.out.size))
    clear hb2 k0 k1 k2 k3 k4 k5 k6 k7 k8 k9
    go_wp2
    go_ret
    exact ⟨by rw [HS.out];first | done | rfl,HB2.out⟩
  · have e0:(wrongS s != 0)=true:=by simpa using hz
    have HS:=hid (show startN s c=wrongS s from if_pos hz)
    clear hz
    generalize hzz:wrongS s=z at *
    have HZZ:=hid hzz
    clear hzz
    go_wp2
    go_ret
    exact ⟨by rw [HS.out];first | done | rfl,HB1.out⟩
set_option maxRecDepth 100000 in
set_option maxHeartbeats 4000000 in
theorem endR {y0 y2 y4 y5 y7 y8 y9 y10 y11 y12 y13 y14 y15 y16 y17 y18 y19 y20 y21 y22 y23 y24 y25 y26 y27 y28 y29 y30 y31 z6 z32 z33 z34 z35 z36 z37 z38 z39:Value} {gs N:Nat} (s:St) (x:Cn) (k b f:Nat) (o1 o3 o4 o5 o6 o7:Option Addr) (c1 c2 c3 c4 c5 c6 c7:Nat) {w:World} (hN:N≤w.heap.size) (hrs:Hid (Row w gs 28 [.string s.name,.int .i64 s.height,.int .i64 s.time,.slice o1 s.clients.length c1,.slice (some ⟨b,f,none⟩) s.conns.length c2,.slice o3 s.chans.length c3,.slice o4 s.sent.length c4,.slice o5 s.got.length c5,.slice o6 s.acks.length c6,.slice o7 s.purses.length c7])) (_hlt:(k:Int)<(s.conns.length:Int)) (hb1:b<w.heap.size) (hca:Hid (w.cell? ⟨b,f+k*4+1,none⟩=some (.int .i64 x.client))) (hsv:Hid (StV w N (.agg #[.string s.name,.int .i64 s.height,.int .i64 s.time,.slice o1 s.clients.length c1,.slice (some ⟨b,f,none⟩) s.conns.length c2,.slice o3 s.chans.length c3,.slice o4 s.sent.length c4,.slice o5 s.got.length c5,.slice o6 s.acks.length c6,.slice o7 s.purses.length c7]) s)) (hw0:Hid (wrongS s=0)) (Q:Exit→Act→World→Prop)
    (hQ:Hid (∀ (σ:Nat→Value) (w':World),Below w.heap.size w w'→/-8-/ σ 8=.int .i64 (liveN s x.client)→Q .normal ⟨#[y0,.int .i64 (k:Int),y2,.pointer (some ⟨gs,0,none⟩),y4,y5,σ 8,y7,y8,y9,y10,y11,y12,y13,y14,y15,y16,y17,y18,y19,y20,y21,y22,y23,y24,y25,y26,y27,y28,y29,y30,y31,σ 0,σ 1,σ 2,σ 3,σ 4,σ 5,σ 6,σ 7],[]⟩ w')) :
    Code.wp Tryz.prog (.region 8 ((Tryz.f64.body.bind (regOf 8)).getD #[]) true) Q ⟨#[y0,.int .i64 (k:Int),y2,.pointer (some ⟨gs,0,none⟩),y4,y5,z6,y7,y8,y9,y10,y11,y12,y13,y14,y15,y16,y17,y18,y19,y20,y21,y22,y23,y24,y25,y26,y27,y28,y29,y30,y31,z32,z33,z34,z35,z36,z37,z38,z39],[]⟩ w:=by
  conv=>arg 2;arg 2;whnf
  conv=>arg 4;dsimp only
  refine region_grows (by kernel_rfl) (fun σ=>#[y0,.int .i64 (k:Int),y2,.pointer (some ⟨gs,0,none⟩),y4,y5,σ 8,y7,y8,y9,y10,y11,y12,y13,y14,y15,y16,y17,y18,y19,y20,y21,y22,y23,y24,y25,y26,y27,y28,y29,y30,y31,σ 0,σ 1,σ 2,σ 3,σ 4,σ 5,σ 6,σ 7]) (fun i=>([z32,z33,z34,z35,z36,z37,z38,z39,z6]:List Value).getD i undef) rfl (fun i X W=>match i with
    | 0=>X=.agg #[.string s.name,.int .i64 s.height,.int .i64 s.time,.slice o1 s.clients.length c1,.slice (some ⟨b,f,none⟩) s.conns.length c2,.slice o3 s.chans.length c3,.slice o4 s.sent.length c4,.slice o5 s.got.length c5,.slice o6 s.acks.length c6,.slice o7 s.purses.length c7]
    | 1=>X=.pointer (some ⟨gs,4,none⟩)
    | 2=>X=.slice (some ⟨b,f,none⟩) s.conns.length c2
    | 3=>X=.int .i64 (k:Int)
    | 4=>X=.pointer (some ⟨b,f+k*4,none⟩)
    | 5=>X=.pointer (some ⟨b,f+k*4+1,none⟩)
    | 6=>X=.int .i64 x.client
    | 7=>X=.int .i64 (liveN s x.client)
    | 8=>X=.int .i64 (liveN s x.client)
    | _=>True) ?_ (by kernel_rfl) ?_ ?_
  · intro i X W W' HB H
    match i,H with
    | 0,H=>exact H
    | 1,H=>exact H
    | 2,H=>exact H
    | 3,H=>exact H
    | 4,H=>exact H
    | 5,H=>exact H
    | 6,H=>exact H
    | 7,H=>exact H
    | 8,H=>exact H
    | _+9,_=>exact trivial
  · refine ⟨?_,?_,?_,?_,?_,?_,?_,?_,?_,trivial⟩
    · -- 0: Op.load 28 t3
      intro σ W HJ hdep
      simp [Region.binds] at hdep
      have HJ:=hid HJ
      have k0:=(hrs.out.below HJ.out hrs.out.lt).cell 0
      have k1:=(hrs.out.below HJ.out hrs.out.lt).cell 1
      have k2:=(hrs.out.below HJ.out hrs.out.lt).cell 2
      have k3:=(hrs.out.below HJ.out hrs.out.lt).cell 3
      have k4:=(hrs.out.below HJ.out hrs.out.lt).cell 4
      have k5:=(hrs.out.below HJ.out hrs.out.lt).cell 5
      have k6:=(hrs.out.below HJ.out hrs.out.lt).cell 6
      have k7:=(hrs.out.below HJ.out hrs.out.lt).cell 7
      have k8:=(hrs.out.below HJ.out hrs.out.lt).cell 8
      have k9:=(hrs.out.below HJ.out hrs.out.lt).cell 9
      simp at k0
      simp at k1
      simp at k2
      simp at k3
      simp at k4
      simp at k5
      simp at k6
      simp at k7
      simp at k8
      simp at k9
      refine wpOp_plain rfl rfl ?_
      go_simp
      exact Left.mk0 (.agg #[.string s.name,.int .i64 s.height,.int .i64 s.time,.slice o1 s.clients.length c1,.slice (some ⟨b,f,none⟩) s.conns.length c2,.slice o3 s.chans.length c3,.slice o4 s.sent.length c4,.slice o5 s.got.length c5,.slice o6 s.acks.length c6,.slice o7 s.purses.length c7]) (by first | rfl | simp [updF, *]) HJ.out rfl
    · -- 1: Op.fieldAddr 28 t3 4
      intro σ W HJ hdep
      simp [Region.binds] at hdep
      have HJ:=hid HJ
      refine wpOp_plain rfl rfl ?_
      go_simp
      exact Left.mk0 (.pointer (some ⟨gs,4,none⟩)) (by first | rfl | simp [updF, *]) HJ.out rfl
    · -- 2: Op.load 23 t33
      intro σ W HJ hdep
      simp [Region.binds] at hdep
      have HJ:=hid HJ
      have kc:=(hrs.out.below HJ.out hrs.out.lt).cell 4
      simp at kc
      refine wpOp_plain rfl rfl ?_
      go_simp
      exact Left.mk0 (.slice (some ⟨b,f,none⟩) s.conns.length c2) (by first | rfl | simp [updF, *]) HJ.out rfl
    · -- 3: Op.move t1
      intro σ W HJ hdep
      simp [Region.binds] at hdep
      have HJ:=hid HJ
      refine wpOp_plain rfl rfl ?_
      go_simp
      exact Left.mk0 (.int .i64 (k:Int)) (by first | rfl | simp [updF, *]) HJ.out rfl
    · -- 4: Op.indexAddr 23 t34 t35
      intro σ W HJ hdep
      simp [Region.binds] at hdep
      have HJ:=hid HJ
      refine wpOp_plain rfl rfl ?_
      go_simp
      exact Left.mk0 (.pointer (some ⟨b,f+k*4,none⟩)) (by first | rfl | simp [updF, *]) HJ.out rfl
    · -- 5: Op.fieldAddr 58 t36 1
      intro σ W HJ hdep
      simp [Region.binds] at hdep
      have HJ:=hid HJ
      refine wpOp_plain rfl rfl ?_
      go_simp
      exact Left.mk0 (.pointer (some ⟨b,f+k*4+1,none⟩)) (by first | rfl | simp [updF, *]) HJ.out rfl
    · -- 6: Op.load 3 t37
      intro σ W HJ hdep
      simp [Region.binds] at hdep
      have HJ:=hid HJ
      have kc:=(HJ.out.cell (p:=⟨b,f+k*4+1,none⟩) hb1).trans hca.out
      refine wpOp_plain rfl rfl ?_
      go_simp
      exact Left.mk0 (.int .i64 x.client) (by first | rfl | simp [updF, *]) HJ.out rfl
    · -- 7: Op.call { value (Operand.func 99), args := #[t32, t38], argT
      intro σ W HJ hdep
      simp [Region.binds] at hdep
      have HJ:=hid HJ
      have HC:=hid (liveC s (.agg #[.string s.name,.int .i64 s.height,.int .i64 s.time,.slice o1 s.clients.length c1,.slice (some ⟨b,f,none⟩) s.conns.length c2,.slice o3 s.chans.length c3,.slice o4 s.sent.length c4,.slice o5 s.got.length c5,.slice o6 s.acks.length c6,.slice o7 s.purses.length c7]) N W x.client (hsv.out.below (HJ.out.mono hN)) (Nat.le_trans hN HJ.out.size) hw0.out)
      refine wpOp_plain rfl rfl ?_
      go_simp
      refine (HC.out).mono ?_
      rintro e w2 ⟨rfl,hb2⟩
      exact Left.mk (.int .i64 (liveN s x.client)) (by first | rfl | simp [updF, *]) hb2 HJ.out rfl
    · -- 8: Op.assign t39
      intro σ W HJ hdep
      simp [Region.binds] at hdep
      have HJ:=hid HJ
      refine wpOp_plain rfl rfl ?_
      go_simp
      exact Left.mk0 (.int .i64 (liveN s x.client)) (by first | rfl | simp [updF, *]) HJ.out rfl
  · intro σ w' hb hg
    exact hQ.out σ w' hb (by first | exact ⟨hg 8 (by decide)⟩ | exact hg 8 (by decide))
set_option maxRecDepth 100000 in
set_option maxHeartbeats 8000000 in
theorem end_any (s:St) (v:Value) (N:Nat) (w:World) (i st:Int) (hv:StV w N v s) (hN:N≤w.heap.size) (hfit:s.fits) :
    Calls Tryz.prog 64 #[v,.int .i64 i,.int .i64 st] w fun e w'=>e=.returned (.int .i64 (endN s i st))∧Below w.heap.size w w':=by
  have HW1:=hid (show ∀ wx,Below w.heap.size w wx→_ from fun wx hx=>stWrongC s v N wx (hv.below (hx.mono hN)) (Nat.le_trans hN hx.size) hfit)
  have HSV:=hid (show ∀ wx,Below w.heap.size w wx→StV wx N v s from fun wx hx=>hv.below (hx.mono hN))
  have HE:=hid (show endN s i st=if wrongS s≠0 then wrongS s else if i<0∨(s.conns.length:Int)≤i then 6 else if (cnAt s i).state≠st then 12 else liveN s (cnAt s i).client from rfl)
  obtain ⟨o1,c1,o2,c2,o3,c3,o4,c4,o5,c5,o6,c6,o7,c7,rfl,hm⟩:=hv.open
  obtain ⟨w0,hw0⟩:∃ w0,w.alloc (.cells #[.string s.name,.int .i64 s.height,.int .i64 s.time,.slice o1 s.clients.length c1,.slice o2 s.conns.length c2,.slice o3 s.chans.length c3,.slice o4 s.sent.length c4,.slice o5 s.got.length c5,.slice o6 s.acks.length c6,.slice o7 s.purses.length c7] 28)=w0:=⟨_,rfl⟩
  have hb0:Below w.heap.size w w0:=by rw [← hw0];exact (Below.refl _ _).alloc (Nat.le_refl _) _
  have HB0:=hid hb0
  have HR0:=hid (show Row w0 (w.heap.size) 28 [.string s.name,.int .i64 s.height,.int .i64 s.time,.slice o1 s.clients.length c1,.slice o2 s.conns.length c2,.slice o3 s.chans.length c3,.slice o4 s.sent.length c4,.slice o5 s.got.length c5,.slice o6 s.acks.length c6,.slice o7 s.purses.length c7] by rw [← hw0];exact (Row.new _ _ _))
  have hsz0:w0.heap.size=w.heap.size+1:=by rw [← hw0];simp
  have k0:w0.cell? ⟨w.heap.size,0,none⟩=some (.string s.name):=HR0.out.cell 0
  have k1:w0.cell? ⟨w.heap.size,1,none⟩=some (.int .i64 s.height):=HR0.out.cell 1
  have k2:w0.cell? ⟨w.heap.size,2,none⟩=some (.int .i64 s.time):=HR0.out.cell 2
  have k3:w0.cell? ⟨w.heap.size,3,none⟩=some (.slice o1 s.clients.length c1):=HR0.out.cell 3
  have k4:w0.cell? ⟨w.heap.size,4,none⟩=some (.slice o2 s.conns.length c2):=HR0.out.cell 4
  have k5:w0.cell? ⟨w.heap.size,5,none⟩=some (.slice o3 s.chans.length c3):=HR0.out.cell 5
  have k6:w0.cell? ⟨w.heap.size,6,none⟩=some (.slice o4 s.sent.length c4):=HR0.out.cell 6
  have k7:w0.cell? ⟨w.heap.size,7,none⟩=some (.slice o5 s.got.length c5):=HR0.out.cell 7
  have k8:w0.cell? ⟨w.heap.size,8,none⟩=some (.slice o6 s.acks.length c6):=HR0.out.cell 8
  have k9:w0.cell? ⟨w.heap.size,9,none⟩=some (.slice o7 s.purses.length c7):=HR0.out.cell 9
  have HW0:=hid hw0
  have HM:=hid hm
  clear hv hm hfit hb0 hw0
  go_enter Tryz.func64,Tryz.ntmps64
  go_upto_region 1 with fail
  rw [HW0.out]
  go_wp2_with fail
  refine (HW1.out _ HB0.out).mono ?_
  rintro e w1 ⟨rfl,hb1⟩
  have HB1:=hid (HB0.out.trans (hb1.mono HB0.out.size))
  have HR1:=hid (HR0.out.below hb1 HR0.out.lt)
  clear hb1 k0 k1 k2 k3 k4 k5 k6 k7 k8 k9
  by_cases hz:wrongS s=0
  · have HZ:=hid hz
    rw [hz]
    have HE2:=hid (HE.out.trans (if_neg (by simp [hz])))
    clear hz
    have k4:w1.cell? ⟨w.heap.size,4,none⟩=some (.slice o2 s.conns.length c2):=HR1.out.cell 4
    by_cases h0:i<0
    · have e0:decide (i<0)=true:=by simpa using h0
      have HL:=hid (HE2.out.trans (if_pos (.inl h0)))
      go_wp2
      go_ret
      exact ⟨by rw [HL.out];first | done | rfl,HB1.out⟩
    have e0:decide (i<0)=false:=by simpa using h0
    by_cases h1:(s.conns.length:Int)≤i
    · have e1:decide ((s.conns.length:Int)≤i)=true:=by simpa using h1
      have HL:=hid (HE2.out.trans (if_pos (.inr h1)))
      go_wp2
      go_ret
      exact ⟨by rw [HL.out];first | done | rfl,HB1.out⟩
    have e1:decide ((s.conns.length:Int)≤i)=false:=by simpa using h1
    have HE3:=hid (HE2.out.trans (if_neg (by omega)))
    obtain ⟨k,rfl⟩:∃ k:Nat,i=(k:Int):=⟨i.toNat,by omega⟩
    have hlt:k<s.conns.length:=by omega
    have hlt':(k:Int)<(s.conns.length:Int):=by omega
    obtain ⟨x,hx⟩:∃ x,s.conns[k]?=some x:=⟨_,List.getElem?_eq_getElem hlt⟩
    have HX:=hid (cnAt_some hx)
    obtain ⟨b,f,rfl,gx⟩:=(HM.out.below (HB1.out.mono hN)).conns.spot (by omega)
    obtain ⟨hbN,r,hr,cx⟩:=gx k x hx
    subst hr
    have x0:=cx 0 _ rfl
    have HX1:=hid (cx 1 _ rfl)
    simp only [Nat.add_zero] at x0
    have hbl:b<w1.heap.size:=Nat.lt_of_lt_of_le hbN (Nat.le_trans hN HB1.out.size)
    clear gx cx hx
    by_cases hs:x.state=st
    · have es:(x.state != st)=false:=by simpa using hs
      have HL:=hid (show endN s (k:Int) st=liveN s x.client by rw [HE3.out,HX.out,if_neg (by simp [hs])])
      clear hs
      go_upto_region 8 with fail
      refine endR s x k b f o1 o3 o4 o5 o6 o7 c1 c2 c3 c4 c5 c6 c7 (Nat.le_trans hN HB1.out.size) HR1 hlt' hbl HX1 (hid (HSV.out _ HB1.out)) HZ _ (hid ?_)
      intro σ w2 hb2 ea
      have HB2:=hid (HB1.out.trans (hb2.mono HB1.out.size))
      rw [ea]
      clear hb2 ea
      go_wp2
      go_ret
      exact ⟨by rw [HL.out];first | done | rfl,HB2.out⟩
    · have es:(x.state != st)=true:=by simpa using hs
      have HL:=hid (show endN s (k:Int) st=12 by rw [HE3.out,HX.out,if_pos hs])
      clear hs
      go_wp2
      go_ret
      exact ⟨by rw [HL.out];first | done | rfl,HB1.out⟩
  · have e0:(wrongS s != 0)=true:=by simpa using hz
    have HS:=hid (HE.out.trans (if_pos hz))
    clear hz
    generalize hzz:wrongS s=z at *
    have HZZ:=hid hzz
    clear hzz
    go_wp2
    go_ret
    exact ⟨by rw [HS.out];first | done | rfl,HB1.out⟩
end Go.Proofs.YtooemgkjkngpcaaGreatDoor
