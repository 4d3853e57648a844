/-
  A connection opened, in a copy.
-/
import Derived.Test.YtooemgkjkngpcaaGreatDoorshCoAdd
namespace Go.Proofs.YtooemgkjkngpcaaGreatDoor
open Go.RowKit

/-- a row's record in the open -/
theorem RowT.at {t:TypeId} {K base:Nat} {w:World} {oa:Option Addr} {n c:Nat} {rs:List (List Value)} {i:Nat} {r:List Value} (h:RowT t K w base (.slice oa n c) rs) (hi:rs[i]?=some r) :
    ∃ g,oa=some ⟨g,0,none⟩∧base≤g∧g<w.heap.size∧(∀ (j:Nat) y,r[j]?=some y→w.cell? ⟨g,i*K+j,none⟩=some y)∧∀ o,w.frozen? ⟨g,o,none⟩=false:=by
  have h2':=h
  have hil:=(List.getElem?_eq_some_iff.1 hi).1
  obtain ⟨h4,_,h5⟩:=h
  rcases h5 with ⟨h6,h7⟩ | ⟨g,cap,cur,h6,h7,h8,h9⟩
  · omega
  · simp only [Value.slice.injEq] at h6
    obtain ⟨rfl,rfl,rfl⟩:=h6
    have hrow:Row w g t cur.toList:=by unfold Row;simpa using h8
    have hrec:=h2'.recs
    obtain ⟨b,off,e,hc⟩:=hrec.spot (by omega)
    simp only [Option.some.injEq,Addr.mk.injEq] at e
    obtain ⟨rfl,rfl,-⟩:=e
    refine ⟨g,rfl,h7,hrow.lt,fun j y hy=>?_,fun o=>hrow.frozen o⟩
    have:=(hc i r hi).2 j y hy
    rw [Nat.zero_add] at this
    exact this
set_option maxRecDepth 100000 in
set_option maxHeartbeats 8000000 in
theorem opened_any (s:St) (v hv2:Value) (N:Nat) (w:World) (i st z:Int) (own:Cn) (h:Sh) (hv:StV w N v s) (hh:ShV w N hv2 h) (hN:N≤w.heap.size) (hfit:s.fits) (hhf:h.fits) (htab:tableAt w) (hpow:powAt w) (hw:wrongS s=0)
    (hi:0≤i∧i<(s.conns.length:Int)) (hc:0≤own.client∧own.client<(s.clients.length:Int)) (hq:0≤own.oconn∧own.oconn≤1000000000000) (ho:0≤own.oclient∧own.oclient≤1000000000000) (hst:1≤st∧st≤3) (hz:MemberAt s own.client h (keyL kwConn [own.oconn.toNat]) (connB ⟨st,own.oclient,own.client,i⟩) z) :
    Calls Tryz.prog 65 #[v,.int .i64 i,.agg #[.int .i64 own.state,.int .i64 own.client,.int .i64 own.oclient,.int .i64 own.oconn],.int .i64 st,hv2] w fun e w'=>Below w.heap.size w w'∧∃ v',e=.returned (.tuple #[v',.int .i64 z])∧HoldsS N w.heap.size w' v' (putS s z i ⟨3,own.client,own.oclient,own.oconn⟩):=by
  have hfew:=wrongS_few hw
  have hlc:s.conns.length≤100:=hfew.2.1
  have hll:s.clients.length≤100:=hfew.1
  have HCP:=hid (show ∀ wx,Below w.heap.size w wx→_ from fun wx hx=>copyC s v N wx (hv.below (hx.mono hN)) (Nat.le_trans hN hx.size) hfit hfew)
  obtain ⟨k,rfl⟩:∃ k:Nat,i=(k:Int):=⟨i.toNat,by omega⟩
  have hcn:wrongCn ⟨st,own.oclient,own.client,(k:Int)⟩=0:=by
    unfold wrongCn
    rw [if_neg (by simp;omega),if_neg]
    simp [fromB]
    omega
  have HMB:=hid (show ∀ wx,Below w.heap.size w wx→_ from fun wx hx=>mem_any s v hv2 N wx own.client own.oconn z ⟨st,own.oclient,own.client,(k:Int)⟩ h (hv.below (hx.mono hN)) (hh.below (hx.mono hN)) (Nat.le_trans hN hx.size) hfit hhf (htab.past hx) (hpow.below hx) hc hq hcn hz)
  obtain ⟨o1,c1,o2,c2,o3,c3,o4,c4,o5,c5,o6,c6,o7,c7,rfl,hm⟩:=hv.open
  obtain ⟨q1,e1,q2,e2,q3,e3,r1,s1,r2,s2,r3,s3,r4,s4,r5,s5,r6,s6,rfl,-⟩:=hh.open
  obtain ⟨w0,hw0⟩:∃ w0,(((w.alloc (.cells #[.string s.name,.int .i64 s.height,.int .i64 s.time,.slice o1 s.clients.length c1,.slice o2 s.conns.length c2,.slice o3 s.chans.length c3,.slice o4 s.sent.length c4,.slice o5 s.got.length c5,.slice o6 s.acks.length c6,.slice o7 s.purses.length c7] 28)).alloc (.cells #[.int .i64 own.state,.int .i64 own.client,.int .i64 own.oclient,.int .i64 own.oconn] 58)).alloc (.cells #[.int .i64 h.height,.int .i64 h.prf.index,.int .i64 h.prf.size,.slice q1 h.prf.key.length e1,.slice q2 h.prf.val.length e2,.slice q3 h.prf.path.length e3,.bool h.gap.hasL,.bool h.gap.hasR,.int .i64 h.gap.left.index,.int .i64 h.gap.left.size,.slice r1 h.gap.left.key.length s1,.slice r2 h.gap.left.val.length s2,.slice r3 h.gap.left.path.length s3,.int .i64 h.gap.right.index,.int .i64 h.gap.right.size,.slice r4 h.gap.right.key.length s4,.slice r5 h.gap.right.val.length s5,.slice r6 h.gap.right.path.length s6] 46)).alloc (.cells #[.string ⟨#[]⟩,.int .i64 0,.int .i64 0,.slice none 0 0,.slice none 0 0,.slice none 0 0,.slice none 0 0,.slice none 0 0,.slice none 0 0,.slice none 0 0] 28)=w0:=⟨_,rfl⟩
  have hb0:Below w.heap.size w w0:=by rw [← hw0];exact ((((Below.refl _ _).alloc (Nat.le_refl _) _).alloc (by simp) _).alloc (by simp;omega) _).alloc (by simp;omega) _
  have HB0:=hid hb0
  have HR0:=hid (show Row w0 (w.heap.size) 28 [.string s.name,.int .i64 s.height,.int .i64 s.time,.slice o1 s.clients.length c1,.slice o2 s.conns.length c2,.slice o3 s.chans.length c3,.slice o4 s.sent.length c4,.slice o5 s.got.length c5,.slice o6 s.acks.length c6,.slice o7 s.purses.length c7] by rw [← hw0];exact ((((Row.new _ _ _).alloc _).alloc _).alloc _))
  have HR1:=hid (show Row w0 (w.heap.size+1) 58 [.int .i64 own.state,.int .i64 own.client,.int .i64 own.oclient,.int .i64 own.oconn] by rw [← hw0];exact (((Row.newAt _ _ _ _ (by simp)).alloc _).alloc _))
  have HR2:=hid (show Row w0 (w.heap.size+2) 46 [.int .i64 h.height,.int .i64 h.prf.index,.int .i64 h.prf.size,.slice q1 h.prf.key.length e1,.slice q2 h.prf.val.length e2,.slice q3 h.prf.path.length e3,.bool h.gap.hasL,.bool h.gap.hasR,.int .i64 h.gap.left.index,.int .i64 h.gap.left.size,.slice r1 h.gap.left.key.length s1,.slice r2 h.gap.left.val.length s2,.slice r3 h.gap.left.path.length s3,.int .i64 h.gap.right.index,.int .i64 h.gap.right.size,.slice r4 h.gap.right.key.length s4,.slice r5 h.gap.right.val.length s5,.slice r6 h.gap.right.path.length s6] by rw [← hw0];exact ((Row.newAt _ _ _ _ (by simp)).alloc _))
  have HR3:=hid (show Row w0 (w.heap.size+3) 28 [.string ⟨#[]⟩,.int .i64 0,.int .i64 0,.slice none 0 0,.slice none 0 0,.slice none 0 0,.slice none 0 0,.slice none 0 0,.slice none 0 0,.slice none 0 0] by rw [← hw0];exact (Row.newAt _ _ _ _ (by simp)))
  have hsz0:w0.heap.size=w.heap.size+4:=by rw [← hw0];simp
  have HIZ:=hid (show (Tryz.prog.info? 28).map (·.size)=some 10 by kernel_rfl)
  obtain ⟨w1,hw1⟩:∃ w1,w0.alloc (.cells #[.int .i64 st,.int .i64 own.oclient,.int .i64 own.client,.int .i64 (k:Int)] 58)=w1:=⟨_,rfl⟩
  have hb1:Below w0.heap.size w0 w1:=by rw [← hw1];exact (Below.refl _ _).alloc (Nat.le_refl _) _
  have HB1:=hid (HB0.out.trans (hb1.mono HB0.out.size))
  have HRA:=hid (HR0.out.below hb1 HR0.out.lt)
  have HRB:=hid (HR1.out.below hb1 HR1.out.lt)
  have HRH:=hid (HR2.out.below hb1 HR2.out.lt)
  have HRZ:=hid (HR3.out.below hb1 HR3.out.lt)
  have HRO:=hid (show Row w1 w0.heap.size 58 [.int .i64 st,.int .i64 own.oclient,.int .i64 own.client,.int .i64 (k:Int)] by rw [← hw1];exact Row.new _ _ _)
  have hsz1:w0.heap.size<w1.heap.size:=HRO.out.lt
  have a0:w0.cell? ⟨w.heap.size+1,0,none⟩=some (.int .i64 own.state):=HR1.out.cell 0
  have a1:w0.cell? ⟨w.heap.size+1,1,none⟩=some (.int .i64 own.client):=HR1.out.cell 1
  have a2:w0.cell? ⟨w.heap.size+1,2,none⟩=some (.int .i64 own.oclient):=HR1.out.cell 2
  have a3:w0.cell? ⟨w.heap.size+1,3,none⟩=some (.int .i64 own.oconn):=HR1.out.cell 3
  have HW0:=hid hw0
  have HW1:=hid hw1
  have HSZ:=hid hsz0
  clear hv hm hh hfit hhf htab hpow hw hfew hb0 hw0 hb1 hw1 hz hcn hsz0
  go_enter Tryz.func65,Tryz.ntmps65
  go_upto_region 1 with fail
  rw [HW0.out]
  go_upto_region 2 with fail
  rw [HW1.out]
  clear a0 a1 a2 a3
  have k0:w1.cell? ⟨w.heap.size,0,none⟩=some (.string s.name):=HRA.out.cell 0
  have k1:w1.cell? ⟨w.heap.size,1,none⟩=some (.int .i64 s.height):=HRA.out.cell 1
  have k2:w1.cell? ⟨w.heap.size,2,none⟩=some (.int .i64 s.time):=HRA.out.cell 2
  have k3:w1.cell? ⟨w.heap.size,3,none⟩=some (.slice o1 s.clients.length c1):=HRA.out.cell 3
  have k4:w1.cell? ⟨w.heap.size,4,none⟩=some (.slice o2 s.conns.length c2):=HRA.out.cell 4
  have k5:w1.cell? ⟨w.heap.size,5,none⟩=some (.slice o3 s.chans.length c3):=HRA.out.cell 5
  have k6:w1.cell? ⟨w.heap.size,6,none⟩=some (.slice o4 s.sent.length c4):=HRA.out.cell 6
  have k7:w1.cell? ⟨w.heap.size,7,none⟩=some (.slice o5 s.got.length c5):=HRA.out.cell 7
  have k8:w1.cell? ⟨w.heap.size,8,none⟩=some (.slice o6 s.acks.length c6):=HRA.out.cell 8
  have k9:w1.cell? ⟨w.heap.size,9,none⟩=some (.slice o7 s.purses.length c7):=HRA.out.cell 9
  have a0:w1.cell? ⟨w.heap.size+1,0,none⟩=some (.int .i64 own.state):=HRB.out.cell 0
  have a1:w1.cell? ⟨w.heap.size+1,1,none⟩=some (.int .i64 own.client):=HRB.out.cell 1
  have a2:w1.cell? ⟨w.heap.size+1,2,none⟩=some (.int .i64 own.oclient):=HRB.out.cell 2
  have a3:w1.cell? ⟨w.heap.size+1,3,none⟩=some (.int .i64 own.oconn):=HRB.out.cell 3
  have b0:w1.cell? ⟨w0.heap.size,0,none⟩=some (.int .i64 st):=HRO.out.cell 0
  have b1:w1.cell? ⟨w0.heap.size,1,none⟩=some (.int .i64 own.oclient):=HRO.out.cell 1
  have b2:w1.cell? ⟨w0.heap.size,2,none⟩=some (.int .i64 own.client):=HRO.out.cell 2
  have b3:w1.cell? ⟨w0.heap.size,3,none⟩=some (.int .i64 (k:Int)):=HRO.out.cell 3
  have h0:w1.cell? ⟨w.heap.size+1+1,0,none⟩=some (.int .i64 h.height):=HRH.out.cell 0
  have h1:w1.cell? ⟨w.heap.size+1+1,1,none⟩=some (.int .i64 h.prf.index):=HRH.out.cell 1
  have h2:w1.cell? ⟨w.heap.size+1+1,2,none⟩=some (.int .i64 h.prf.size):=HRH.out.cell 2
  have h3:w1.cell? ⟨w.heap.size+1+1,3,none⟩=some (.slice q1 h.prf.key.length e1):=HRH.out.cell 3
  have h4:w1.cell? ⟨w.heap.size+1+1,4,none⟩=some (.slice q2 h.prf.val.length e2):=HRH.out.cell 4
  have h5:w1.cell? ⟨w.heap.size+1+1,5,none⟩=some (.slice q3 h.prf.path.length e3):=HRH.out.cell 5
  have h6:w1.cell? ⟨w.heap.size+1+1,6,none⟩=some (.bool h.gap.hasL):=HRH.out.cell 6
  have h7:w1.cell? ⟨w.heap.size+1+1,7,none⟩=some (.bool h.gap.hasR):=HRH.out.cell 7
  have h8:w1.cell? ⟨w.heap.size+1+1,8,none⟩=some (.int .i64 h.gap.left.index):=HRH.out.cell 8
  have h9:w1.cell? ⟨w.heap.size+1+1,9,none⟩=some (.int .i64 h.gap.left.size):=HRH.out.cell 9
  have h10:w1.cell? ⟨w.heap.size+1+1,10,none⟩=some (.slice r1 h.gap.left.key.length s1):=HRH.out.cell 10
  have h11:w1.cell? ⟨w.heap.size+1+1,11,none⟩=some (.slice r2 h.gap.left.val.length s2):=HRH.out.cell 11
  have h12:w1.cell? ⟨w.heap.size+1+1,12,none⟩=some (.slice r3 h.gap.left.path.length s3):=HRH.out.cell 12
  have h13:w1.cell? ⟨w.heap.size+1+1,13,none⟩=some (.int .i64 h.gap.right.index):=HRH.out.cell 13
  have h14:w1.cell? ⟨w.heap.size+1+1,14,none⟩=some (.int .i64 h.gap.right.size):=HRH.out.cell 14
  have h15:w1.cell? ⟨w.heap.size+1+1,15,none⟩=some (.slice r4 h.gap.right.key.length s4):=HRH.out.cell 15
  have h16:w1.cell? ⟨w.heap.size+1+1,16,none⟩=some (.slice r5 h.gap.right.val.length s5):=HRH.out.cell 16
  have h17:w1.cell? ⟨w.heap.size+1+1,17,none⟩=some (.slice r6 h.gap.right.path.length s6):=HRH.out.cell 17
  go_wp2_with fail
  refine (HMB.out _ HB1.out).mono ?_
  rintro e w2 ⟨rfl,hb2⟩
  have HB2:=hid (HB1.out.trans (hb2.mono HB1.out.size))
  have HA2:=hid (HRA.out.below hb2 HRA.out.lt)
  have HC2:=hid (HRB.out.below hb2 HRB.out.lt)
  have HZ2:=hid (HRZ.out.below hb2 HRZ.out.lt)
  have hsz2:w1.heap.size≤w2.heap.size:=hb2.size
  clear hb2 k0 k1 k2 k3 k4 k5 k6 k7 k8 k9 a0 a1 a2 a3 b0 b1 b2 b3 h0 h1 h2 h3 h4 h5 h6 h7 h8 h9 h10 h11 h12 h13 h14 h15 h16 h17
  by_cases hz:z=0
  · have HZZ:=hid hz
    subst hz
    have a0:w2.cell? ⟨w.heap.size+1,0,none⟩=some (.int .i64 own.state):=HC2.out.cell 0
    have za:w2.frozen? ⟨w.heap.size+1,0,none⟩=false:=HC2.out.frozen 0
    obtain ⟨w3,hw3⟩:∃ w3,w2.setCell ⟨w.heap.size+1,0,none⟩ (.int .i64 3)=w3:=⟨_,rfl⟩
    have HC3:=hid (show Row w3 (w.heap.size+1) 58 [.int .i64 3,.int .i64 own.client,.int .i64 own.oclient,.int .i64 own.oconn] by rw [← hw3];exact HC2.out.set 0 _)
    have HA3:=hid (show Row w3 w.heap.size 28 [.string s.name,.int .i64 s.height,.int .i64 s.time,.slice o1 s.clients.length c1,.slice o2 s.conns.length c2,.slice o3 s.chans.length c3,.slice o4 s.sent.length c4,.slice o5 s.got.length c5,.slice o6 s.acks.length c6,.slice o7 s.purses.length c7] by rw [← hw3];exact HA2.out.other _ (by simp))
    have HZ3:=hid (show Row w3 (w.heap.size+1+1+1) 28 [.string ⟨#[]⟩,.int .i64 0,.int .i64 0,.slice none 0 0,.slice none 0 0,.slice none 0 0,.slice none 0 0,.slice none 0 0,.slice none 0 0,.slice none 0 0] by rw [← hw3];exact HZ2.out.other _ (by simp))
    have HB3:=hid (show Below w.heap.size w w3 by rw [← hw3];exact HB2.out.setCell (show w.heap.size≤w.heap.size+1 by omega) _)
    have hsz3:w2.heap.size≤w3.heap.size:=by rw [← hw3];simp [World.setCell]
    have HW3:=hid hw3
    clear hw3
    go_upto_region 6 with fail
    rw [HW3.out]
    clear a0 za
    have k0:w3.cell? ⟨w.heap.size,0,none⟩=some (.string s.name):=HA3.out.cell 0
    have k1:w3.cell? ⟨w.heap.size,1,none⟩=some (.int .i64 s.height):=HA3.out.cell 1
    have k2:w3.cell? ⟨w.heap.size,2,none⟩=some (.int .i64 s.time):=HA3.out.cell 2
    have k3:w3.cell? ⟨w.heap.size,3,none⟩=some (.slice o1 s.clients.length c1):=HA3.out.cell 3
    have k4:w3.cell? ⟨w.heap.size,4,none⟩=some (.slice o2 s.conns.length c2):=HA3.out.cell 4
    have k5:w3.cell? ⟨w.heap.size,5,none⟩=some (.slice o3 s.chans.length c3):=HA3.out.cell 5
    have k6:w3.cell? ⟨w.heap.size,6,none⟩=some (.slice o4 s.sent.length c4):=HA3.out.cell 6
    have k7:w3.cell? ⟨w.heap.size,7,none⟩=some (.slice o5 s.got.length c5):=HA3.out.cell 7
    have k8:w3.cell? ⟨w.heap.size,8,none⟩=some (.slice o6 s.acks.length c6):=HA3.out.cell 8
    have k9:w3.cell? ⟨w.heap.size,9,none⟩=some (.slice o7 s.purses.length c7):=HA3.out.cell 9
    go_wp2_with fail
    refine (HCP.out _ HB3.out).mono ?_
    rintro e w4 ⟨hb4,p1,d1,p2,d2,p3,d3,p4,d4,p5,d5,p6,d6,p7,d7,rfl,hown⟩
    have HB4:=hid (HB3.out.trans (hb4.mono HB3.out.size))
    have HA4:=hid (HA3.out.below hb4 HA3.out.lt)
    have HC4:=hid (HC3.out.below hb4 HC3.out.lt)
    have HZ4:=hid (HZ3.out.below hb4 HZ3.out.lt)
    have hsz4:w3.heap.size≤w4.heap.size:=hb4.size
    have hbig:w.heap.size+4≤w3.heap.size:=by have:=HSZ.out;omega
    obtain ⟨w5,hw5⟩:∃ w5,w4.setRow (w.heap.size) #[.string s.name,.int .i64 s.height,.int .i64 s.time,.slice p1 s.clients.length d1,.slice p2 s.conns.length d2,.slice p3 s.chans.length d3,.slice p4 s.sent.length d4,.slice p5 s.got.length d5,.slice p6 s.acks.length d6,.slice p7 s.purses.length d7]=w5:=⟨_,rfl⟩
    have HRS5:=hid (show Row w5 (w.heap.size) 28 [.string s.name,.int .i64 s.height,.int .i64 s.time,.slice p1 s.clients.length d1,.slice p2 s.conns.length d2,.slice p3 s.chans.length d3,.slice p4 s.sent.length d4,.slice p5 s.got.length d5,.slice p6 s.acks.length d6,.slice p7 s.purses.length d7] by rw [← hw5];exact Row.setRow HA4.out _)
    have HHZ5:=hid (show w4.heap[w.heap.size]?=some (.cells #[.string s.name,.int .i64 s.height,.int .i64 s.time,.slice o1 s.clients.length c1,.slice o2 s.conns.length c2,.slice o3 s.chans.length c3,.slice o4 s.sent.length c4,.slice o5 s.got.length c5,.slice o6 s.acks.length c6,.slice o7 s.purses.length c7] 28 (0,0)) from HA4.out)
    have HON5:=hid (show (#[.string s.name,.int .i64 s.height,.int .i64 s.time,.slice p1 s.clients.length d1,.slice p2 s.conns.length d2,.slice p3 s.chans.length d3,.slice p4 s.sent.length d4,.slice p5 s.got.length d5,.slice p6 s.acks.length d6,.slice p7 s.purses.length d7]:Array Value).all (·.oneCell')=true by simp [Value.oneCell'])
    have HSW5:=hid hw5
    have HO5:=hid (hown.on (w':=w5) (by rw [← hw5];exact setRow_below (Below.refl 0 w4) (Nat.zero_le _) _) (fun b _ hlt=>by rw [← hw5];exact setRow_other _ _ _ _ (by omega)))
    have HB5:=hid (show Below w.heap.size w w5 by rw [← hw5];exact setRow_below HB4.out (Nat.le_refl _) _)
    have HC5:=hid (show Row w5 (w.heap.size+1) 58 [.int .i64 3,.int .i64 own.client,.int .i64 own.oclient,.int .i64 own.oconn] by rw [← hw5];exact (setRow_other _ _ _ _ (by omega)).trans HC4.out)
    have HZ5:=hid (show Row w5 (w.heap.size+1+1+1) 28 [.string ⟨#[]⟩,.int .i64 0,.int .i64 0,.slice none 0 0,.slice none 0 0,.slice none 0 0,.slice none 0 0,.slice none 0 0,.slice none 0 0,.slice none 0 0] by rw [← hw5];exact (setRow_other _ _ _ _ (by omega)).trans HZ4.out)
    have hsz5:w4.heap.size≤w5.heap.size:=by rw [← hw5];simp
    clear k0 k1 k2 k3 k4 k5 k6 k7 k8 k9 hb4 hown hw5
    go_upto_region 7 with (refine wpList_store_row rfl 28 (.tmp 5) (.tmp 35) rfl (w.heap.size) #[.string s.name,.int .i64 s.height,.int .i64 s.time,.slice p1 s.clients.length d1,.slice p2 s.conns.length d2,.slice p3 s.chans.length d3,.slice p4 s.sent.length d4,.slice p5 s.got.length d5,.slice p6 s.acks.length d6,.slice p7 s.purses.length d7] rfl rfl 28 #[.string s.name,.int .i64 s.height,.int .i64 s.time,.slice o1 s.clients.length c1,.slice o2 s.conns.length c2,.slice o3 s.chans.length c3,.slice o4 s.sent.length c4,.slice o5 s.got.length c5,.slice o6 s.acks.length c6,.slice o7 s.purses.length c7] HHZ5.out HIZ.out rfl HON5.out ?_;rw [HSW5.out])
    have hlt':(k:Int)<(s.conns.length:Int):=by omega
    obtain ⟨x,hx⟩:∃ x,s.conns[k]?=some x:=⟨s.conns[k]'(by omega),List.getElem?_eq_getElem _⟩
    obtain ⟨g,rfl,hgb,hgl,hcc,hfz⟩:=RowT.at HO5.out.conns (r:=cnCells x) (i:=k) (by rw [List.getElem?_map,hx];rfl)
    have f0:=hcc 0 _ rfl
    have z0:=hfz (k*4)
    have f1:=hcc 1 _ rfl
    have z1:=hfz (k*4+1)
    have f2:=hcc 2 _ rfl
    have z2:=hfz (k*4+2)
    have f3:=hcc 3 _ rfl
    have z3:=hfz (k*4+3)
    simp only [Nat.add_zero] at f0
    have c4:w5.cell? ⟨w.heap.size,4,none⟩=some (.slice (some ⟨g,0,none⟩) s.conns.length d2):=HRS5.out.cell 4
    have m0:w5.cell? ⟨w.heap.size+1,0,none⟩=some (.int .i64 3):=HC5.out.cell 0
    have m1:w5.cell? ⟨w.heap.size+1,1,none⟩=some (.int .i64 own.client):=HC5.out.cell 1
    have m2:w5.cell? ⟨w.heap.size+1,2,none⟩=some (.int .i64 own.oclient):=HC5.out.cell 2
    have m3:w5.cell? ⟨w.heap.size+1,3,none⟩=some (.int .i64 own.oconn):=HC5.out.cell 3
    obtain ⟨w6,hw6⟩:∃ w6,w5.setCells g (k*4) [.int .i64 3,.int .i64 own.client,.int .i64 own.oclient,.int .i64 own.oconn]=w6:=⟨_,rfl⟩
    have hrow:OwnC 58 cnCells 4 w6 w3.heap.size (.slice (some ⟨g,0,none⟩) s.conns.length d2) (s.conns.set k ⟨3,own.client,own.oclient,own.oconn⟩):=by
      rw [← hw6]
      have:=RowT.put HO5.out.conns (i:=k) (r:=cnCells ⟨3,own.client,own.oclient,own.oconn⟩) (by rw [List.length_map];omega) (cnCells_ok (l:=[⟨3,own.client,own.oclient,own.oconn⟩]) _ (by simp))
      rw [← List.map_set] at this
      exact this
    have HO6:=hid (HO5.out.putConns (w':=w6) (by rw [← hw6];exact grown_putCells w5 g (k*4) _) hrow (fun b e=>.inl e))
    have ho6:∀ b,b≠g→w6.heap[b]?=w5.heap[b]?:=fun b hb=>by rw [← hw6];exact heap_setCells g _ _ _ _ hb
    have HA6:=hid (show Row w6 w.heap.size 28 [.string s.name,.int .i64 s.height,.int .i64 s.time,.slice p1 s.clients.length d1,.slice (some ⟨g,0,none⟩) s.conns.length d2,.slice p3 s.chans.length d3,.slice p4 s.sent.length d4,.slice p5 s.got.length d5,.slice p6 s.acks.length d6,.slice p7 s.purses.length d7] from (ho6 _ (by omega)).trans HRS5.out)
    have HZ6:=hid (show Row w6 (w.heap.size+1+1+1) 28 [.string ⟨#[]⟩,.int .i64 0,.int .i64 0,.slice none 0 0,.slice none 0 0,.slice none 0 0,.slice none 0 0,.slice none 0 0,.slice none 0 0,.slice none 0 0] from (ho6 _ (by omega)).trans HZ5.out)
    have HB6:=hid (show Below w.heap.size w w6 by rw [← hw6];exact below_setCells (by omega) _ _ _ HB5.out)
    have HW6:=hid hw6
    have HSX:=hid (show s.conns.length=(s.conns.set k ⟨3,own.client,own.oclient,own.oconn⟩).length by simp)
    clear hw6 hrow ho6 hcc hfz hx
    go_upto_region 8 with fail
    have hst6:((((w5.setCell ⟨g,k*4,none⟩ (.int .i64 3)).setCell ⟨g,k*4+1,none⟩ (.int .i64 own.client)).setCell ⟨g,k*4+2,none⟩ (.int .i64 own.oclient)).setCell ⟨g,k*4+3,none⟩ (.int .i64 own.oconn))=w6:=HW6.out
    rw [hst6]
    clear f0 f1 f2 f3 z0 z1 z2 z3 c4 m0 m1 m2 m3 hst6
    obtain ⟨w7,hw7⟩:∃ w7,w6.setRow (w.heap.size+1+1+1) #[.string s.name,.int .i64 s.height,.int .i64 s.time,.slice p1 s.clients.length d1,.slice (some ⟨g,0,none⟩) s.conns.length d2,.slice p3 s.chans.length d3,.slice p4 s.sent.length d4,.slice p5 s.got.length d5,.slice p6 s.acks.length d6,.slice p7 s.purses.length d7]=w7:=⟨_,rfl⟩
    have HRS7:=hid (show Row w7 (w.heap.size+1+1+1) 28 [.string s.name,.int .i64 s.height,.int .i64 s.time,.slice p1 s.clients.length d1,.slice (some ⟨g,0,none⟩) s.conns.length d2,.slice p3 s.chans.length d3,.slice p4 s.sent.length d4,.slice p5 s.got.length d5,.slice p6 s.acks.length d6,.slice p7 s.purses.length d7] by rw [← hw7];exact Row.setRow HZ6.out _)
    have HHZ7:=hid (show w6.heap[w.heap.size+1+1+1]?=some (.cells #[.string ⟨#[]⟩,.int .i64 0,.int .i64 0,.slice none 0 0,.slice none 0 0,.slice none 0 0,.slice none 0 0,.slice none 0 0,.slice none 0 0,.slice none 0 0] 28 (0,0)) from HZ6.out)
    have HON7:=hid (show (#[.string s.name,.int .i64 s.height,.int .i64 s.time,.slice p1 s.clients.length d1,.slice (some ⟨g,0,none⟩) s.conns.length d2,.slice p3 s.chans.length d3,.slice p4 s.sent.length d4,.slice p5 s.got.length d5,.slice p6 s.acks.length d6,.slice p7 s.purses.length d7]:Array Value).all (·.oneCell')=true by simp [Value.oneCell'])
    have HSW7:=hid hw7
    have HB7:=hid (show Below w.heap.size w w7 by rw [← hw7];exact setRow_below HB6.out (by omega) _)
    have HO7:=hid (HO6.out.on (w':=w7) (by rw [← hw7];exact setRow_below (Below.refl 0 w6) (Nat.zero_le _) _) (fun b _ hlt=>by rw [← hw7];exact setRow_other _ _ _ _ (by omega)))
    have q0:w6.cell? ⟨w.heap.size,0,none⟩=some (.string s.name):=HA6.out.cell 0
    have q1:w6.cell? ⟨w.heap.size,1,none⟩=some (.int .i64 s.height):=HA6.out.cell 1
    have q2:w6.cell? ⟨w.heap.size,2,none⟩=some (.int .i64 s.time):=HA6.out.cell 2
    have q3:w6.cell? ⟨w.heap.size,3,none⟩=some (.slice p1 s.clients.length d1):=HA6.out.cell 3
    have q4:w6.cell? ⟨w.heap.size,4,none⟩=some (.slice (some ⟨g,0,none⟩) s.conns.length d2):=HA6.out.cell 4
    have q5:w6.cell? ⟨w.heap.size,5,none⟩=some (.slice p3 s.chans.length d3):=HA6.out.cell 5
    have q6:w6.cell? ⟨w.heap.size,6,none⟩=some (.slice p4 s.sent.length d4):=HA6.out.cell 6
    have q7:w6.cell? ⟨w.heap.size,7,none⟩=some (.slice p5 s.got.length d5):=HA6.out.cell 7
    have q8:w6.cell? ⟨w.heap.size,8,none⟩=some (.slice p6 s.acks.length d6):=HA6.out.cell 8
    have q9:w6.cell? ⟨w.heap.size,9,none⟩=some (.slice p7 s.purses.length d7):=HA6.out.cell 9
    clear hw7
    go_wp2_with (refine wpList_store_row rfl 28 (.tmp 10) (.tmp 41) rfl (w.heap.size+1+1+1) #[.string s.name,.int .i64 s.height,.int .i64 s.time,.slice p1 s.clients.length d1,.slice (some ⟨g,0,none⟩) s.conns.length d2,.slice p3 s.chans.length d3,.slice p4 s.sent.length d4,.slice p5 s.got.length d5,.slice p6 s.acks.length d6,.slice p7 s.purses.length d7] rfl rfl 28 #[.string ⟨#[]⟩,.int .i64 0,.int .i64 0,.slice none 0 0,.slice none 0 0,.slice none 0 0,.slice none 0 0,.slice none 0 0,.slice none 0 0,.slice none 0 0] HHZ7.out HIZ.out rfl HON7.out ?_;rw [HSW7.out])
    have y0:=HRS7.out.cell 0
    simp at y0
    have y1:=HRS7.out.cell 1
    simp at y1
    have y2:=HRS7.out.cell 2
    simp at y2
    have y3:=HRS7.out.cell 3
    simp at y3
    have y4:=HRS7.out.cell 4
    simp at y4
    have y5:=HRS7.out.cell 5
    simp at y5
    have y6:=HRS7.out.cell 6
    simp at y6
    have y7:=HRS7.out.cell 7
    simp at y7
    have y8:=HRS7.out.cell 8
    simp at y8
    have y9:=HRS7.out.cell 9
    simp at y9
    refine bodyPost_ret (v:=.tuple #[.agg #[.string s.name,.int .i64 s.height,.int .i64 s.time,.slice p1 s.clients.length d1,.slice (some ⟨g,0,none⟩) s.conns.length d2,.slice p3 s.chans.length d3,.slice p4 s.sent.length d4,.slice p5 s.got.length d5,.slice p6 s.acks.length d6,.slice p7 s.purses.length d7],.int .i64 0]) (by simp [results,Tryz.results65,go_sem,y0,y1,y2,y3,y4,y5,y6,y7,y8,y9]) rfl ⟨HB7.out,_,rfl,?_⟩
    unfold putS
    rw [if_pos rfl,Int.toNat_natCast]
    exact (HO7.out.lower (by omega)).holds
  · have e0:(z != 0)=true:=by simpa using hz
    have HP:=hid (show putS s z (k:Int) ⟨3,own.client,own.oclient,own.oconn⟩=St.none from if_neg hz)
    clear hz
    obtain ⟨w3,hw3⟩:∃ w3,w2.setRow (w.heap.size+1+1+1) #[.string ⟨#[]⟩,.int .i64 0,.int .i64 0,.slice none 0 0,.slice none 0 0,.slice none 0 0,.slice none 0 0,.slice none 0 0,.slice none 0 0,.slice none 0 0]=w3:=⟨_,rfl⟩
    have HRS3:=hid (show Row w3 (w.heap.size+1+1+1) 28 [.string ⟨#[]⟩,.int .i64 0,.int .i64 0,.slice none 0 0,.slice none 0 0,.slice none 0 0,.slice none 0 0,.slice none 0 0,.slice none 0 0,.slice none 0 0] by rw [← hw3];exact Row.setRow HZ2.out _)
    have HHZ3:=hid (show w2.heap[w.heap.size+1+1+1]?=some (.cells #[.string ⟨#[]⟩,.int .i64 0,.int .i64 0,.slice none 0 0,.slice none 0 0,.slice none 0 0,.slice none 0 0,.slice none 0 0,.slice none 0 0,.slice none 0 0] 28 (0,0)) from HZ2.out)
    have HON3:=hid (show (#[.string ⟨#[]⟩,.int .i64 0,.int .i64 0,.slice none 0 0,.slice none 0 0,.slice none 0 0,.slice none 0 0,.slice none 0 0,.slice none 0 0,.slice none 0 0]:Array Value).all (·.oneCell')=true by simp [Value.oneCell'])
    have HSW3:=hid hw3
    have HB3:=hid (show Below w.heap.size w w3 by rw [← hw3];exact setRow_below HB2.out (by omega) _)
    clear hw3
    go_wp2_with (refine wpList_store_row rfl 28 (.tmp 10) (.tmp 31) rfl (w.heap.size+1+1+1) #[.string ⟨#[]⟩,.int .i64 0,.int .i64 0,.slice none 0 0,.slice none 0 0,.slice none 0 0,.slice none 0 0,.slice none 0 0,.slice none 0 0,.slice none 0 0] rfl rfl 28 #[.string ⟨#[]⟩,.int .i64 0,.int .i64 0,.slice none 0 0,.slice none 0 0,.slice none 0 0,.slice none 0 0,.slice none 0 0,.slice none 0 0,.slice none 0 0] HHZ3.out HIZ.out rfl HON3.out ?_;rw [HSW3.out])
    have y0:=HRS3.out.cell 0
    simp at y0
    have y1:=HRS3.out.cell 1
    simp at y1
    have y2:=HRS3.out.cell 2
    simp at y2
    have y3:=HRS3.out.cell 3
    simp at y3
    have y4:=HRS3.out.cell 4
    simp at y4
    have y5:=HRS3.out.cell 5
    simp at y5
    have y6:=HRS3.out.cell 6
    simp at y6
    have y7:=HRS3.out.cell 7
    simp at y7
    have y8:=HRS3.out.cell 8
    simp at y8
    have y9:=HRS3.out.cell 9
    simp at y9
    refine bodyPost_ret (v:=.tuple #[.agg #[.string ⟨#[]⟩,.int .i64 0,.int .i64 0,.slice none 0 0,.slice none 0 0,.slice none 0 0,.slice none 0 0,.slice none 0 0,.slice none 0 0,.slice none 0 0],.int .i64 z]) (by simp [results,Tryz.results65,go_sem,y0,y1,y2,y3,y4,y5,y6,y7,y8,y9]) rfl ⟨HB3.out,_,rfl,?_⟩
    rw [HP.out]
    exact holdsS_none _ _ _
end Go.Proofs.YtooemgkjkngpcaaGreatDoor
