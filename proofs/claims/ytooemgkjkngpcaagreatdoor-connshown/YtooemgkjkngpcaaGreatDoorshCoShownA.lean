/-
  ConnShown: its statement of Ack.
-/
import Derived.Test.YtooemgkjkngpcaaGreatDoorshCoShownT
import Derived.Test.YtooemgkjkngpcaaGreatDoorshCoRest
import Derived.Test.YtooemgkjkngpcaaGreatDoorshCoFit
import Derived.Test.YtooemgkjkngpcaaGreatDoorshCoAck
namespace Go.Proofs.YtooemgkjkngpcaaGreatDoor
open Go.RowKit

theorem ackN_zero {s:St} {i q z:Int} (h:ackN s i q z=0):endN s i 1=0∧fromB 0 q=true∧z=0:=by
  unfold ackN at h
  split at h
  · rename_i h1;exact absurd h h1
  rename_i h1
  split at h
  · cases h
  rename_i h2
  simp at h1 h2
  exact ⟨h1,h2,h⟩
set_option maxRecDepth 1000000 in
set_option maxHeartbeats 8000000 in
theorem shownAck {sl0 sl5 sl7 sl8 sl9 sl10 sl12 sl13 sl14 sl15 sl16 sl17 sl18 sl19 sl20 sl21 sl22 sl23 sl24 sl25 sl26 sl27 sl28 sl29 sl30 sl31 sl32 sl33 sl34 sl35 sl36 sl37 sl38 sl39 sl40 sl41 sl42 sl43 sl44 sl45 sl46 sl47 sl48 sl49 sl50 sl51 sl52 sl53 sl54 sl55 sl56 sl57 sl58 sl59 sl60 sl61 sl62 sl63 sl64 sl65 sl66 sl67 sl68 sl69 sl70 sl71 sl72 sl73 sl74 sl75 sl76 sl77 sl78 sl79 sl80 sl81 sl82 sl83 sl84 sl85 sl86 sl87 sl88 sl89 sl90 sl91 sl92 sl93 sl94 sl95 sl96 sl97 sl98 sl99 sl100 sl101 sl102 sl103 sl104 sl105 sl106 sl107 sl108 sl109 sl110 sl111 sl112 sl113 sl114 sl115 sl116 sl117 sl118 sl119 sl120 sl121 sl122 sl123 sl124 sl125 sl126 sl127 sl128 sl129 sl130 sl131 sl132 sl133 sl134 sl135 sl136 sl137 sl138 sl139 sl140 sl141 sl142 sl143 sl144 sl145 sl146 sl147 sl148 sl149 sl150 sl151 sl152 sl153 sl154 sl155 sl156 sl157 sl158 sl159 sl160 sl161 sl162 sl163 sl164 sl165 sl166 sl167:Value} {gs gh N:Nat} (s:St) (h:Sh) (i c o q z:Int) (o1 o2 o3 o4 o5 o6 o7:Option Addr) (c1 c2 c3 c4 c5 c6 c7:Nat) (q1 q2 q3 r1 r2 r3 r4 r5 r6:Option Addr) (e1 e2 e3 s1 s2 s3 s4 s5 s6:Nat) {w:World} (hN:N≤w.heap.size) (hrs:Hid (Row w gs 28 [.string s.name,.int .i64 s.height,.int .i64 s.time,.slice o1 s.clients.length c1,.slice o2 s.conns.length c2,.slice o3 s.chans.length c3,.slice o4 s.sent.length c4,.slice o5 s.got.length c5,.slice o6 s.acks.length c6,.slice o7 s.purses.length c7])) (hrh:Hid (Row w gh 46 [.int .i64 h.height,.int .i64 h.prf.index,.int .i64 h.prf.size,.slice q1 h.prf.key.length e1,.slice q2 h.prf.val.length e2,.slice q3 h.prf.path.length e3,.bool h.gap.hasL,.bool h.gap.hasR,.int .i64 h.gap.left.index,.int .i64 h.gap.left.size,.slice r1 h.gap.left.key.length s1,.slice r2 h.gap.left.val.length s2,.slice r3 h.gap.left.path.length s3,.int .i64 h.gap.right.index,.int .i64 h.gap.right.size,.slice r4 h.gap.right.key.length s4,.slice r5 h.gap.right.val.length s5,.slice r6 h.gap.right.path.length s6])) (hv:StV w N (.agg #[.string s.name,.int .i64 s.height,.int .i64 s.time,.slice o1 s.clients.length c1,.slice o2 s.conns.length c2,.slice o3 s.chans.length c3,.slice o4 s.sent.length c4,.slice o5 s.got.length c5,.slice o6 s.acks.length c6,.slice o7 s.purses.length c7]) s) (hh:ShV w N (.agg #[.int .i64 h.height,.int .i64 h.prf.index,.int .i64 h.prf.size,.slice q1 h.prf.key.length e1,.slice q2 h.prf.val.length e2,.slice q3 h.prf.path.length e3,.bool h.gap.hasL,.bool h.gap.hasR,.int .i64 h.gap.left.index,.int .i64 h.gap.left.size,.slice r1 h.gap.left.key.length s1,.slice r2 h.gap.left.val.length s2,.slice r3 h.gap.left.path.length s3,.int .i64 h.gap.right.index,.int .i64 h.gap.right.size,.slice r4 h.gap.right.key.length s4,.slice r5 h.gap.right.val.length s5,.slice r6 h.gap.right.path.length s6]) h) (hfit:s.fits) (hhf:h.fits) (htab:tableAt w) (hpow:powAt w) (hz:askAck s i q h z) (Q:Exit→Act→World→Prop)
    (hGo:Hid (∀ (u12 u17 u18 u19 u20 u60 u61 u62 u63 u64 u65 u66 u67 u68 u69 u70 u71 u72 u73 u74 u75 u76 u77 u78 u79 u80 u81 u82 u83 u84 u85 u86 u87 u88 u89 u90 u91 u92 u93 u94 u95 u96 u97 u98 u99 u100 u101 u102 u103 u104 u105 u106 u107 u108 u109 u110 u111 u112 u113:Value) (w':World),Below w.heap.size w w'→Q .normal ⟨#[sl0,.int .i64 i,.int .i64 c,.int .i64 o,.int .i64 q,sl5,.pointer (some ⟨gs,0,none⟩),sl7,sl8,sl9,sl10,.pointer (some ⟨gh,0,none⟩),u12,sl13,sl14,sl15,sl16,u17,u18,u19,u20,sl21,sl22,sl23,sl24,sl25,sl26,sl27,sl28,sl29,sl30,sl31,sl32,sl33,sl34,sl35,sl36,sl37,sl38,sl39,sl40,sl41,sl42,sl43,sl44,sl45,sl46,sl47,sl48,sl49,sl50,sl51,sl52,sl53,sl54,sl55,sl56,sl57,sl58,sl59,u60,u61,u62,u63,u64,u65,u66,u67,u68,u69,u70,u71,u72,u73,u74,u75,u76,u77,u78,u79,u80,u81,u82,u83,u84,u85,u86,u87,u88,u89,u90,u91,u92,u93,u94,u95,u96,u97,u98,u99,u100,u101,u102,u103,u104,u105,u106,u107,u108,u109,u110,u111,u112,u113,sl114,sl115,sl116,sl117,sl118,sl119,sl120,sl121,sl122,sl123,sl124,sl125,sl126,sl127,sl128,sl129,sl130,sl131,sl132,sl133,sl134,sl135,sl136,sl137,sl138,sl139,sl140,sl141,sl142,sl143,sl144,sl145,sl146,sl147,sl148,sl149,sl150,sl151,sl152,sl153,sl154,sl155,sl156,sl157,sl158,sl159,sl160,sl161,sl162,sl163,sl164,sl165,sl166,sl167],[]⟩ w')) :
    Code.wp Tryz.prog (.region 8 ((Tryz.f5.body.bind (regOf 8)).getD #[]) false) (Exit.then (Code.wp Tryz.prog ((Tryz.f5.body.bind (restOf 8)).getD .skip) Q) Q) ⟨#[sl0,.int .i64 i,.int .i64 c,.int .i64 o,.int .i64 q,sl5,.pointer (some ⟨gs,0,none⟩),sl7,sl8,sl9,sl10,.pointer (some ⟨gh,0,none⟩),sl12,sl13,sl14,sl15,sl16,sl17,sl18,sl19,sl20,sl21,sl22,sl23,sl24,sl25,sl26,sl27,sl28,sl29,sl30,sl31,sl32,sl33,sl34,sl35,sl36,sl37,sl38,sl39,sl40,sl41,sl42,sl43,sl44,sl45,sl46,sl47,sl48,sl49,sl50,sl51,sl52,sl53,sl54,sl55,sl56,sl57,sl58,sl59,sl60,sl61,sl62,sl63,sl64,sl65,sl66,sl67,sl68,sl69,sl70,sl71,sl72,sl73,sl74,sl75,sl76,sl77,sl78,sl79,sl80,sl81,sl82,sl83,sl84,sl85,sl86,sl87,sl88,sl89,sl90,sl91,sl92,sl93,sl94,sl95,sl96,sl97,sl98,sl99,sl100,sl101,sl102,sl103,sl104,sl105,sl106,sl107,sl108,sl109,sl110,sl111,sl112,sl113,sl114,sl115,sl116,sl117,sl118,sl119,sl120,sl121,sl122,sl123,sl124,sl125,sl126,sl127,sl128,sl129,sl130,sl131,sl132,sl133,sl134,sl135,sl136,sl137,sl138,sl139,sl140,sl141,sl142,sl143,sl144,sl145,sl146,sl147,sl148,sl149,sl150,sl151,sl152,sl153,sl154,sl155,sl156,sl157,sl158,sl159,sl160,sl161,sl162,sl163,sl164,sl165,sl166,sl167],[]⟩ w:=by
  conv=>arg 2;arg 2;whnf
  conv=>arg 3;arg 1;arg 2;whnf
  conv=>arg 4;dsimp only
  have HC:=hid (ack_any s _ _ N w i q z h hv hh hN hfit hhf htab hpow hz)
  have HSV:=hid (show ∀ wx,Below w.heap.size w wx→StV wx N (.agg #[.string s.name,.int .i64 s.height,.int .i64 s.time,.slice o1 s.clients.length c1,.slice o2 s.conns.length c2,.slice o3 s.chans.length c3,.slice o4 s.sent.length c4,.slice o5 s.got.length c5,.slice o6 s.acks.length c6,.slice o7 s.purses.length c7]) s from fun wx hx=>hv.below (hx.mono hN))
  have HHV:=hid (show ∀ wx,Below w.heap.size w wx→ShV wx N (.agg #[.int .i64 h.height,.int .i64 h.prf.index,.int .i64 h.prf.size,.slice q1 h.prf.key.length e1,.slice q2 h.prf.val.length e2,.slice q3 h.prf.path.length e3,.bool h.gap.hasL,.bool h.gap.hasR,.int .i64 h.gap.left.index,.int .i64 h.gap.left.size,.slice r1 h.gap.left.key.length s1,.slice r2 h.gap.left.val.length s2,.slice r3 h.gap.left.path.length s3,.int .i64 h.gap.right.index,.int .i64 h.gap.right.size,.slice r4 h.gap.right.key.length s4,.slice r5 h.gap.right.val.length s5,.slice r6 h.gap.right.path.length s6]) h from fun wx hx=>hh.below (hx.mono hN))
  have HTAB:=hid (show ∀ wx,Below w.heap.size w wx→tableAt wx from fun wx hx=>htab.past hx)
  have HSF:=hid hfit
  have HHF:=hid hhf
  have HAZ:=hid hz
  have hgs:=hrs.out.lt
  have hgh:=hrh.out.lt
  clear hv hh hfit hhf htab hpow hz
  obtain ⟨n,hn⟩:∃ n:Int,ackN s i q z=n:=⟨_,rfl⟩
  obtain ⟨t,ht⟩:∃ t:St,ackS s i q z=t:=⟨_,rfl⟩
  rw [hn,ht] at HC
  have HN:=hid hn
  have HT:=hid ht
  clear hn ht
  have HIZ:=hid (show (Tryz.prog.info? 28).map (·.size)=some 10 by kernel_rfl)
  have k0:w.cell? ⟨gs,0,none⟩=some (.string s.name):=hrs.out.cell 0
  have k1:w.cell? ⟨gs,1,none⟩=some (.int .i64 s.height):=hrs.out.cell 1
  have k2:w.cell? ⟨gs,2,none⟩=some (.int .i64 s.time):=hrs.out.cell 2
  have k3:w.cell? ⟨gs,3,none⟩=some (.slice o1 s.clients.length c1):=hrs.out.cell 3
  have k4:w.cell? ⟨gs,4,none⟩=some (.slice o2 s.conns.length c2):=hrs.out.cell 4
  have k5:w.cell? ⟨gs,5,none⟩=some (.slice o3 s.chans.length c3):=hrs.out.cell 5
  have k6:w.cell? ⟨gs,6,none⟩=some (.slice o4 s.sent.length c4):=hrs.out.cell 6
  have k7:w.cell? ⟨gs,7,none⟩=some (.slice o5 s.got.length c5):=hrs.out.cell 7
  have k8:w.cell? ⟨gs,8,none⟩=some (.slice o6 s.acks.length c6):=hrs.out.cell 8
  have k9:w.cell? ⟨gs,9,none⟩=some (.slice o7 s.purses.length c7):=hrs.out.cell 9
  have h0:w.cell? ⟨gh,0,none⟩=some (.int .i64 h.height):=hrh.out.cell 0
  have h1:w.cell? ⟨gh,1,none⟩=some (.int .i64 h.prf.index):=hrh.out.cell 1
  have h2:w.cell? ⟨gh,2,none⟩=some (.int .i64 h.prf.size):=hrh.out.cell 2
  have h3:w.cell? ⟨gh,3,none⟩=some (.slice q1 h.prf.key.length e1):=hrh.out.cell 3
  have h4:w.cell? ⟨gh,4,none⟩=some (.slice q2 h.prf.val.length e2):=hrh.out.cell 4
  have h5:w.cell? ⟨gh,5,none⟩=some (.slice q3 h.prf.path.length e3):=hrh.out.cell 5
  have h6:w.cell? ⟨gh,6,none⟩=some (.bool h.gap.hasL):=hrh.out.cell 6
  have h7:w.cell? ⟨gh,7,none⟩=some (.bool h.gap.hasR):=hrh.out.cell 7
  have h8:w.cell? ⟨gh,8,none⟩=some (.int .i64 h.gap.left.index):=hrh.out.cell 8
  have h9:w.cell? ⟨gh,9,none⟩=some (.int .i64 h.gap.left.size):=hrh.out.cell 9
  have h10:w.cell? ⟨gh,10,none⟩=some (.slice r1 h.gap.left.key.length s1):=hrh.out.cell 10
  have h11:w.cell? ⟨gh,11,none⟩=some (.slice r2 h.gap.left.val.length s2):=hrh.out.cell 11
  have h12:w.cell? ⟨gh,12,none⟩=some (.slice r3 h.gap.left.path.length s3):=hrh.out.cell 12
  have h13:w.cell? ⟨gh,13,none⟩=some (.int .i64 h.gap.right.index):=hrh.out.cell 13
  have h14:w.cell? ⟨gh,14,none⟩=some (.int .i64 h.gap.right.size):=hrh.out.cell 14
  have h15:w.cell? ⟨gh,15,none⟩=some (.slice r4 h.gap.right.key.length s4):=hrh.out.cell 15
  have h16:w.cell? ⟨gh,16,none⟩=some (.slice r5 h.gap.right.val.length s5):=hrh.out.cell 16
  have h17:w.cell? ⟨gh,17,none⟩=some (.slice r6 h.gap.right.path.length s6):=hrh.out.cell 17
  go_wp2_with fail
  refine HC.out.mono ?_
  rintro e w1 ⟨hb1,v1,rfl,hva⟩
  obtain ⟨ao0,ac0,ao1,ac1,ao2,ac2,ao3,ac3,ao4,ac4,ao5,ac5,ao6,ac6,rfl,hmt⟩:=hva.now.open
  obtain ⟨w2,hw2⟩:∃ w2,w1.alloc (.cells #[.string ⟨#[]⟩,.int .i64 0,.int .i64 0,.slice none 0 0,.slice none 0 0,.slice none 0 0,.slice none 0 0,.slice none 0 0,.slice none 0 0,.slice none 0 0] 28)=w2:=⟨_,rfl⟩
  have hb2:Below w1.heap.size w1 w2:=by rw [← hw2];exact (Below.refl _ _).alloc (Nat.le_refl _) _
  have HR2:=hid (show Row w2 w1.heap.size 28 [.string ⟨#[]⟩,.int .i64 0,.int .i64 0,.slice none 0 0,.slice none 0 0,.slice none 0 0,.slice none 0 0,.slice none 0 0,.slice none 0 0,.slice none 0 0] by rw [← hw2];exact Row.new _ _ _)
  have hsz1:w.heap.size≤w1.heap.size:=hb1.size
  have hsz2:w1.heap.size<w2.heap.size:=HR2.out.lt
  have HB2:=hid (hb1.trans (hb2.mono hb1.size))
  obtain ⟨w3,hw3⟩:∃ w3,w2.setRow (w1.heap.size) #[.string t.name,.int .i64 t.height,.int .i64 t.time,.slice ao0 t.clients.length ac0,.slice ao1 t.conns.length ac1,.slice ao2 t.chans.length ac2,.slice ao3 t.sent.length ac3,.slice ao4 t.got.length ac4,.slice ao5 t.acks.length ac5,.slice ao6 t.purses.length ac6]=w3:=⟨_,rfl⟩
  have HRS3:=hid (show Row w3 (w1.heap.size) 28 [.string t.name,.int .i64 t.height,.int .i64 t.time,.slice ao0 t.clients.length ac0,.slice ao1 t.conns.length ac1,.slice ao2 t.chans.length ac2,.slice ao3 t.sent.length ac3,.slice ao4 t.got.length ac4,.slice ao5 t.acks.length ac5,.slice ao6 t.purses.length ac6] by rw [← hw3];exact Row.setRow HR2.out _)
  have HHZ3:=hid (show w2.heap[w1.heap.size]?=some (.cells #[.string ⟨#[]⟩,.int .i64 0,.int .i64 0,.slice none 0 0,.slice none 0 0,.slice none 0 0,.slice none 0 0,.slice none 0 0,.slice none 0 0,.slice none 0 0] 28 (0,0)) from HR2.out)
  have HON3:=hid (show (#[.string t.name,.int .i64 t.height,.int .i64 t.time,.slice ao0 t.clients.length ac0,.slice ao1 t.conns.length ac1,.slice ao2 t.chans.length ac2,.slice ao3 t.sent.length ac3,.slice ao4 t.got.length ac4,.slice ao5 t.acks.length ac5,.slice ao6 t.purses.length ac6]:Array Value).all (·.oneCell')=true by simp [Value.oneCell'])
  have HSW3:=hid hw3
  have HB3:=hid (show Below w.heap.size w w3 by rw [← hw3];exact setRow_below HB2.out hsz1 _)
  have hsz3:w2.heap.size≤w3.heap.size:=by rw [← hw3];simp
  have HA3:=hid (hrs.out.below HB3.out hgs)
  have HH3:=hid (hrh.out.below HB3.out hgh)
  have HC3:=hid (show ∀ p v,p.block<w1.heap.size→w1.cell? p=some v→w3.cell? p=some v from fun p v hp hc=>by rw [← hw3,cell_setRow_other _ _ _ _ (by omega),hb2.cell hp];exact hc)
  have HMT:=hid hmt
  have HW2:=hid hw2
  clear hb1 hb2 hw2 hw3 hva hmt HC k0 k1 k2 k3 k4 k5 k6 k7 k8 k9 h0 h1 h2 h3 h4 h5 h6 h7 h8 h9 h10 h11 h12 h13 h14 h15 h16 h17
  go_upto_region 9 with (first | rw [HW2.out] | skip;refine wpList_store_row rfl 28 (.tmp 17) (.tmp 66) rfl (w1.heap.size) #[.string t.name,.int .i64 t.height,.int .i64 t.time,.slice ao0 t.clients.length ac0,.slice ao1 t.conns.length ac1,.slice ao2 t.chans.length ac2,.slice ao3 t.sent.length ac3,.slice ao4 t.got.length ac4,.slice ao5 t.acks.length ac5,.slice ao6 t.purses.length ac6] rfl rfl 28 #[.string ⟨#[]⟩,.int .i64 0,.int .i64 0,.slice none 0 0,.slice none 0 0,.slice none 0 0,.slice none 0 0,.slice none 0 0,.slice none 0 0,.slice none 0 0] HHZ3.out HIZ.out rfl HON3.out ?_;rw [HSW3.out])
  by_cases h0:n=0
  · subst h0
    obtain ⟨hend,hfq,rfl⟩:=ackN_zero HN.out
    obtain ⟨hw,hi,hst,hl⟩:=endN_ok hend
    obtain ⟨j,rfl⟩:∃ j:Nat,i=(j:Int):=⟨i.toNat,by omega⟩
    have hjl:j<s.conns.length:=by omega
    have hjl':(j:Int)<(s.conns.length:Int):=by omega
    obtain ⟨y,hy⟩:∃ y,s.conns[j]?=some y:=⟨_,List.getElem?_eq_getElem hjl⟩
    rw [cnAt_some hy] at hst hl
    have hxok:=wrongCn_ok ((wrongS_right hw).conns y (List.mem_of_getElem? hy))
    obtain ⟨ys,yc,yo,yq⟩:=y
    simp only at hst hl hxok
    subst hst
    have hcl:=liveN_ok hl
    obtain ⟨k,rfl⟩:∃ k:Nat,yc=(k:Int):=⟨yc.toNat,by omega⟩
    have hfc:=(wrongS_few hw).1
    have hk8:j<100:=by have:=(wrongS_few hw).2.1;omega
    have hq:0≤q∧q≤1000000000000:=(fromB_iff _ _).1 hfq
    have hltk:k<s.clients.length:=by omega
    have hltk':(k:Int)<(s.clients.length:Int):=by omega
    obtain ⟨x,hx⟩:∃ x,s.clients[k]?=some x:=⟨_,List.getElem?_eq_getElem hltk⟩
    have HMW:=hid (show wrongCn ⟨2,yo,(k:Int),(j:Int)⟩=0 from wrongCn_ask (by omega) (by omega) (by omega) (by omega))
    have HZ:=hid (show ShownN x s.time h.height (fun r=>h.prf.key=keyL kwConn [q.toNat]∧h.prf.val=connB ⟨2,yo,(k:Int),(j:Int)⟩∧shownB r h.prf) 0 by
      have h9:MemberAt s (k:Int) h (keyL kwConn [q.toNat]) (connB ⟨2,yo,(k:Int),(j:Int)⟩) 0:=by
        have:=HAZ.out
        unfold askAck at this
        rw [cnAt_some hy] at this
        exact this
      unfold MemberAt at h9
      rw [clAt_some hx] at h9
      exact h9)
    have htc:t.conns[j]?=some ⟨3,(k:Int),yo,q⟩:=by
      rw [← HT.out]
      unfold ackS putS
      rw [HN.out,if_pos rfl,cnAt_some hy]
      simp [hjl]
    have htl:j<t.conns.length:=(List.getElem?_eq_some_iff.1 htc).1
    have htl':(j:Int)<(t.conns.length:Int):=by omega
    have hkl:=conn_key_len q hq
    have hvl:=conn_val_len _ HMW.out
    obtain ⟨bt,ft,rfl,gt⟩:=HMT.out.conns.spot (by omega)
    obtain ⟨htN,rt,hrt,ct⟩:=gt j _ htc
    subst hrt
    have t0:=ct 0 _ rfl
    simp only [Nat.add_zero] at t0
    have HT0:=hid (HC3.out _ _ htN t0)
    have hbt1:bt<w1.heap.size:=htN
    clear gt ct t0 htc htN
    obtain ⟨o1',c1',o2',c2',o3',c3',o4',c4',o5',c5',o6',c6',o7',c7',hag,hm⟩:=(HSV.out _ HB3.out).open
    simp only [Value.agg.injEq,Array.mk.injEq,List.cons.injEq,Value.slice.injEq,true_and,and_true] at hag
    obtain ⟨⟨rfl,rfl⟩,⟨rfl,rfl⟩,⟨rfl,rfl⟩,⟨rfl,rfl⟩,⟨rfl,rfl⟩,⟨rfl,rfl⟩,rfl,rfl⟩:=hag
    obtain ⟨bq,fq,rfl,gq⟩:=hm.conns.spot (by omega)
    obtain ⟨hqN,rq,hrq,cq⟩:=gq j _ hy
    subst hrq
    have y0:=cq 0 _ rfl
    have y1:=cq 1 _ rfl
    have y2:=cq 2 _ rfl
    have y3:=cq 3 _ rfl
    simp only [Nat.add_zero] at y0
    have y4:w3.cell? ⟨gs,4,none⟩=some (.slice (some ⟨bq,fq,none⟩) s.conns.length c2):=HA3.out.cell 4
    clear hm gq cq hqN
    obtain ⟨w4,hw4⟩:∃ w4,w3.alloc (.cells #[.int .i64 1,.int .i64 (k:Int),.int .i64 yo,.int .i64 yq] 58)=w4:=⟨_,rfl⟩
    have hb4:Below w3.heap.size w3 w4:=by rw [← hw4];exact (Below.refl _ _).alloc (Nat.le_refl _) _
    have HB4:=hid (HB3.out.trans (hb4.mono HB3.out.size))
    have HM4:=hid (show Row w4 w3.heap.size 58 [.int .i64 1,.int .i64 (k:Int),.int .i64 yo,.int .i64 yq] by rw [← hw4];exact Row.new _ _ _)
    have hsz4:w3.heap.size<w4.heap.size:=HM4.out.lt
    have d1:w4.cell? ⟨w3.heap.size,1,none⟩=some (.int .i64 (k:Int)):=HM4.out.cell 1
    have d2:w4.cell? ⟨w3.heap.size,2,none⟩=some (.int .i64 yo):=HM4.out.cell 2
    obtain ⟨w5,hw5⟩:∃ w5,w4.alloc (.cells #[.int .i64 2,.int .i64 yo,.int .i64 (k:Int),.int .i64 (j:Int)] 58)=w5:=⟨_,rfl⟩
    have hb5:Below w4.heap.size w4 w5:=by rw [← hw5];exact (Below.refl _ _).alloc (Nat.le_refl _) _
    have HB5:=hid (HB4.out.trans (hb5.mono HB4.out.size))
    have hb35:Below w3.heap.size w3 w5:=hb4.trans (hb5.mono hb4.size)
    have HA5:=hid (HA3.out.below hb35 HA3.out.lt)
    have HH5:=hid (HH3.out.below hb35 HH3.out.lt)
    have HR5:=hid (HRS3.out.below hb35 HRS3.out.lt)
    have HC5:=hid (HM4.out.below hb5 HM4.out.lt)
    have HM5:=hid (show Row w5 w4.heap.size 58 [.int .i64 2,.int .i64 yo,.int .i64 (k:Int),.int .i64 (j:Int)] by rw [← hw5];exact Row.new _ _ _)
    have hsz5:w4.heap.size<w5.heap.size:=HM5.out.lt
    have HT5:=hid ((hb35.cell (p:=⟨bt,ft+j*4,none⟩) (by show bt<w3.heap.size;omega)).trans HT0.out)
    have HW4:=hid hw4
    have HW5:=hid hw5
    have HIX:=hid hx
    clear hb4 hw4 hb5 hw5 hb35 hw hl hend hfq HN HT hxok hcl hi hfc hk8
    go_upto_region 11 with fail
    rw [HW4.out]
    clear y0 y1 y2 y3 y4
    go_upto_region 12 with fail
    rw [HW5.out]
    clear d1 d2
    obtain ⟨o1',c1',o2',c2',o3',c3',o4',c4',o5',c5',o6',c6',o7',c7',hag,hm⟩:=(HSV.out _ HB5.out).open
    simp only [Value.agg.injEq,Array.mk.injEq,List.cons.injEq,Value.slice.injEq,true_and,and_true] at hag
    obtain ⟨⟨rfl,rfl⟩,⟨rfl,rfl⟩,⟨rfl,rfl⟩,⟨rfl,rfl⟩,⟨rfl,rfl⟩,⟨rfl,rfl⟩,rfl,rfl⟩:=hag
    obtain ⟨b,f,rfl,gx⟩:=hm.clients.spot (by omega)
    obtain ⟨hbN,r,hr,cx⟩:=gx k x hx
    obtain ⟨kc,rfl,hkc⟩:=hr
    obtain ⟨ka,ma,rfl,-⟩:=hkc.shape
    have x0:=cx 0 _ rfl
    have x1:=cx 1 _ rfl
    have x2:=cx 2 _ rfl
    have x3:=cx 3 _ rfl
    simp only [Nat.add_zero] at x0
    have HCA:=hid (show w5.cell? ⟨b,f+k*4,none⟩=some (.string x.chain)∧w5.cell? ⟨b,f+k*4+1,none⟩=some (.int .i64 x.trust)∧w5.cell? ⟨b,f+k*4+2,none⟩=some (.bool x.frozen)∧w5.cell? ⟨b,f+k*4+3,none⟩=some (.slice ka x.known.length ma) from ⟨x0,x1,x2,x3⟩)
    have HCV:=hid (show ClV w5 N (.agg #[.string x.chain,.int .i64 x.trust,.bool x.frozen,.slice ka x.known.length ma]) x from ⟨_,rfl,hkc⟩)
    have HXF:=hid (HSF.out.2.1.2 x (List.mem_of_getElem? hx))
    obtain ⟨q1',e1',q2',e2',q3',e3',r1',s1',r2',s2',r3',s3',r4',s4',r5',s5',r6',s6',hah,hpv⟩:=(HHV.out _ HB5.out).open
    simp only [Value.agg.injEq,Array.mk.injEq,List.cons.injEq,Value.slice.injEq,true_and,and_true] at hah
    obtain ⟨⟨rfl,rfl⟩,⟨rfl,rfl⟩,⟨rfl,rfl⟩,⟨rfl,rfl⟩,⟨rfl,rfl⟩,⟨rfl,rfl⟩,⟨rfl,rfl⟩,⟨rfl,rfl⟩,rfl,rfl⟩:=hah
    have HPV:=hid hpv
    have HPF:=hid HHF.out.1
    have HTB:=hid (HTAB.out _ HB5.out)
    have hszN:N≤w5.heap.size:=Nat.le_trans hN HB5.out.size
    have hbl:b<w5.heap.size:=Nat.lt_of_lt_of_le hbN hszN
    clear gx cx hkc x0 x1 x2 x3 hm hpv hbN
    refine shownR12 s x k s.clients.length b f c1 ma ka _ _ _ _ _ _ _ _ _ _ _ _ h q ⟨2,yo,(k:Int),(j:Int)⟩ q1 q2 q3 r1 r2 r3 r4 r5 r6 e1 e2 e3 s1 s2 s3 s4 s5 s6 yo yq j bt ft t.conns.length _ _ _ _ _ _ _ _ _ _ hszN HA5 hltk' hbl HCA HCV HH5 HPV HTB HXF HPF HM5 hq HMW HZ hkl hvl HC5 HR5 htl' (by omega) HT5 _ (hid ?_)
    intro σ w6 hb6 ea
    have HB6:=hid (HB5.out.trans (hb6.mono HB5.out.size))
    rw [ea]
    clear hb6 ea
    go_wp2
    apply hGo.out
    exact HB6.out
  · have e0:(n == 0)=false:=by simpa using h0
    have e1:decide (n=0)=false:=by simpa using h0
    go_wp2
    apply hGo.out
    exact HB3.out
end Go.Proofs.YtooemgkjkngpcaaGreatDoor
