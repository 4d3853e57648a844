/-
  A connection opened, in a copy.
-/
import Derived.Test.YtooemgkjkngpcaaGreatDoorteCoAdd
namespace Go.Proofs.YtooemgkjkngpcaaGreatDoor
set_option maxRecDepth 1000000
set_option maxHeartbeats 8000000
open Go.RowKit
theorem Qw.at {t:TypeId} {K base:Nat} {w:World} {oa:Option Addr} {n c:Nat} {rs:List (List Value)} {i:Nat} {r:List Value} (h:Qw t K w base (.slice oa n c) rs) (hi:rs[i]?=some r) :
  ∃ g,oa=some ⟨g,0,none⟩∧base≤g∧g<w.heap.size∧(∀ (j:Nat) y,r[j]?=some y→w.cell? ⟨g,i*K+j,none⟩=some y)∧∀ o,w.frozen? ⟨g,o,none⟩=false:=by
 have h2':=h
 have hil:=(List.getElem?_eq_some_iff.1 hi).1
 obtain ⟨h4,_,h5⟩:=h
 rcases h5 with ⟨h6,h7⟩ | ⟨g,cap,cur,h6,h7,h8,h9⟩
 ·omega
 ·simp only [Value.slice.injEq] at h6
  obtain ⟨rfl,rfl,rfl⟩:=h6
  have hrow:Row w g t cur.toList:=by unfold Row;simpa using h8
  have hrec:=h2'.recs
  obtain ⟨b,off,e,hc⟩:=hrec.spot (by omega)
  simp only [Option.some.injEq,Addr.mk.injEq] at e
  obtain ⟨rfl,rfl,-⟩:=e
  refine ⟨g,rfl,h7,hrow.lt,fun j y hy=>?_,fun o=>hrow.frozen o⟩
  have:=(hc i r hi).2 j y hy
  rw [Nat.zero_add] at this
  exact this
theorem Qcq (s:St) (v hv2:Value) (N:Nat) (w:World) (i st z:Int) (own:Cn) (h:Sh) (hv:StV w N v s) (hh:ShV w N hv2 h) (hN:N≤w.heap.size) (hfit:s.fits) (hhf:h.fits) (htab:Qt w) (hpow:YG w) (hw:Qm s=0)
  (hi:0≤i∧i<(s.conns.length:Int)) (hc:0≤own.client∧own.client<(s.clients.length:Int)) (hq:0≤own.oconn∧own.oconn≤1000000000000) (ho:0≤own.oclient∧own.oclient≤1000000000000) (hst:1≤st∧st≤3) (hz:QZ s own.client h (Jo QN [own.oconn.toNat]) (JA ⟨st,own.oclient,own.client,i⟩) z) :
  Calls Tryz.prog 65 #[v,.int .i64 i,.agg #[.int .i64 own.state,.int .i64 own.client,.int .i64 own.oclient,.int .i64 own.oconn],.int .i64 st,hv2] w fun e w'=>Below w.heap.size w w'∧∃ v',e=.returned (.tuple #[v',.int .i64 z])∧Qn N w.heap.size w' v' (YZ s z i ⟨3,own.client,own.oclient,own.oconn⟩):=by
 have hfew:=Qr hw
 have hlc:s.conns.length≤100:=hfew.2.1
 have hll:s.clients.length≤100:=hfew.1
 have HCP:=hid (fun wx (hx:Below w.heap.size w wx)=>Qj1 s v N wx (hv.below (hx.mono hN)) (Nat.le_trans hN hx.size) hfit hfew)
 obtain ⟨k,rfl⟩:∃ k:Nat,i=(k:Int):=⟨i.toNat,by omega⟩
 have hcn:Qk ⟨st,own.oclient,own.client,(k:Int)⟩=0:=by
  unfold Qk
  rw [if_neg (by simp;omega),if_neg]
  simp [Qg]
  omega
 have HMB:=hid (fun wx (hx:Below w.heap.size w wx)=>QgF s v hv2 N wx own.client own.oconn z ⟨st,own.oclient,own.client,(k:Int)⟩ h (hv.below (hx.mono hN)) (hh.below (hx.mono hN)) (Nat.le_trans hN hx.size) hfit hhf (htab.past hx) (hpow.below hx) hc hq hcn hz)
 obtain ⟨o1,c1,o2,c2,o3,c3,o4,c4,o5,c5,o6,c6,o7,c7,rfl,hm⟩:=hv.open
 obtain ⟨q1,e1,q2,e2,q3,e3,r1,s1,r2,s2,r3,s3,r4,s4,r5,s5,r6,s6,rfl,-⟩:=hh.open
 obtain ⟨w0,hw0⟩:∃ w0,(((w.alloc (.cells #[.string s.name,.int .i64 s.height,.int .i64 s.time,.slice o1 s.clients.length c1,.slice o2 s.conns.length c2,.slice o3 s.chans.length c3,.slice o4 s.sent.length c4,.slice o5 s.got.length c5,.slice o6 s.acks.length c6,.slice o7 s.purses.length c7] 28)).alloc (.cells #[.int .i64 own.state,.int .i64 own.client,.int .i64 own.oclient,.int .i64 own.oconn] 58)).alloc (.cells #[.int .i64 h.height,.int .i64 h.prf.index,.int .i64 h.prf.size,.slice q1 h.prf.key.length e1,.slice q2 h.prf.val.length e2,.slice q3 h.prf.path.length e3,.bool h.gap.hasL,.bool h.gap.hasR,.int .i64 h.gap.left.index,.int .i64 h.gap.left.size,.slice r1 h.gap.left.key.length s1,.slice r2 h.gap.left.val.length s2,.slice r3 h.gap.left.path.length s3,.int .i64 h.gap.right.index,.int .i64 h.gap.right.size,.slice r4 h.gap.right.key.length s4,.slice r5 h.gap.right.val.length s5,.slice r6 h.gap.right.path.length s6] 46)).alloc (.cells #[.string ⟨#[]⟩,.int .i64 0,.int .i64 0,.slice none 0 0,.slice none 0 0,.slice none 0 0,.slice none 0 0,.slice none 0 0,.slice none 0 0,.slice none 0 0] 28)=w0:=⟨_,rfl⟩
 have hb0:Below w.heap.size w w0:=by rw [← hw0];exact ((((Below.refl _ _).alloc (Nat.le_refl _) _).alloc (by simp) _).alloc (by simp;omega) _).alloc (by simp;omega) _
 have HB0:=hid hb0
 have HR0:=hid (show Row w0 (w.heap.size) 28 [.string s.name,.int .i64 s.height,.int .i64 s.time,.slice o1 s.clients.length c1,.slice o2 s.conns.length c2,.slice o3 s.chans.length c3,.slice o4 s.sent.length c4,.slice o5 s.got.length c5,.slice o6 s.acks.length c6,.slice o7 s.purses.length c7] by rw [← hw0];exact ((((Row.new _ _ _).alloc _).alloc _).alloc _))
 have HR1:=hid (show Row w0 (w.heap.size+1) 58 [.int .i64 own.state,.int .i64 own.client,.int .i64 own.oclient,.int .i64 own.oconn] by rw [← hw0];exact (((Row.newAt _ _ _ _ (by simp)).alloc _).alloc _))
 have HR2:=hid (show Row w0 (w.heap.size+2) 46 [.int .i64 h.height,.int .i64 h.prf.index,.int .i64 h.prf.size,.slice q1 h.prf.key.length e1,.slice q2 h.prf.val.length e2,.slice q3 h.prf.path.length e3,.bool h.gap.hasL,.bool h.gap.hasR,.int .i64 h.gap.left.index,.int .i64 h.gap.left.size,.slice r1 h.gap.left.key.length s1,.slice r2 h.gap.left.val.length s2,.slice r3 h.gap.left.path.length s3,.int .i64 h.gap.right.index,.int .i64 h.gap.right.size,.slice r4 h.gap.right.key.length s4,.slice r5 h.gap.right.val.length s5,.slice r6 h.gap.right.path.length s6] by rw [← hw0];exact ((Row.newAt _ _ _ _ (by simp)).alloc _))
 have HR3:=hid (show Row w0 (w.heap.size+3) 28 [.string ⟨#[]⟩,.int .i64 0,.int .i64 0,.slice none 0 0,.slice none 0 0,.slice none 0 0,.slice none 0 0,.slice none 0 0,.slice none 0 0,.slice none 0 0] by rw [← hw0];exact (Row.newAt _ _ _ _ (by simp)))
 have hsz0:w0.heap.size=w.heap.size+4:=by rw [← hw0];simp
 have HIZ:=hid (show (Tryz.prog.info? 28).map (·.size)=some 10 by kernel_rfl)
 obtain ⟨w1,hw1⟩:∃ w1,w0.alloc (.cells #[.int .i64 st,.int .i64 own.oclient,.int .i64 own.client,.int .i64 (k:Int)] 58)=w1:=⟨_,rfl⟩
 have hb1:=bof hw1
 have HB1:=hgo HB0 hb1
 have HRA:=rgo HR0 hb1
 have HRB:=rgo HR1 hb1
 have HRH:=rgo HR2 hb1
 have HRZ:=rgo HR3 hb1
 have HRO:=hid (Q7 hw1)
 have hsz1:w0.heap.size<w1.heap.size:=HRO.out.lt
 obtain ⟨a0,a1,a2,a3⟩:=HR1.out.c4
 have HW0:=hid hw0
 have HW1:=hid hw1
 have HSZ:=hid hsz0
 clear hv hm hh hfit hhf htab hpow hw hfew hb0 hw0 hb1 hw1 hz hcn hsz0
 go_enter Tryz.func65,Tryz.ntmps65
 go_upto_region 1 with fail
 rw [HW0.out]
 go_upto_region 2 with fail
 rw [HW1.out]
 clear a0 a1 a2 a3
 obtain ⟨k0,k1,k2,k3,k4,k5,k6,k7,k8,k9⟩:=HRA.out.c10
 obtain ⟨a0,a1,a2,a3⟩:=HRB.out.c4
 obtain ⟨b0,b1,b2,b3⟩:=HRO.out.c4
 obtain ⟨h0,h1,h2,h3,h4,h5,h6,h7,h8,h9,h10,h11,h12,h13,h14,h15,h16,h17⟩:=HRH.out.c18
 go_wp2_with fail
 refine (HMB.out _ HB1.out).mono ?_
 rintro e w2 ⟨rfl,hb2⟩
 have HB2:=hgo HB1 hb2
 have HA2:=rgo HRA hb2
 have HC2:=rgo HRB hb2
 have HZ2:=rgo HRZ hb2
 have hsz2:=hb2.size
 clear hb2 k0 k1 k2 k3 k4 k5 k6 k7 k8 k9 a0 a1 a2 a3 b0 b1 b2 b3 h0 h1 h2 h3 h4 h5 h6 h7 h8 h9 h10 h11 h12 h13 h14 h15 h16 h17
 by_cases hz:z=0
 ·have HZZ:=hid hz
  subst hz
  have a0:w2.cell? ⟨w.heap.size+1,0,none⟩=some (.int .i64 own.state):=HC2.out.cell 0
  have za:w2.frozen? ⟨w.heap.size+1,0,none⟩=false:=HC2.out.frozen 0
  obtain ⟨w3,hw3⟩:∃ w3,w2.setCell ⟨w.heap.size+1,0,none⟩ (.int .i64 3)=w3:=⟨_,rfl⟩
  have HC3:=hid (show Row w3 (w.heap.size+1) 58 [.int .i64 3,.int .i64 own.client,.int .i64 own.oclient,.int .i64 own.oconn] by rw [← hw3];exact HC2.out.set 0 _)
  have HA3:=hid (show Row w3 w.heap.size 28 [.string s.name,.int .i64 s.height,.int .i64 s.time,.slice o1 s.clients.length c1,.slice o2 s.conns.length c2,.slice o3 s.chans.length c3,.slice o4 s.sent.length c4,.slice o5 s.got.length c5,.slice o6 s.acks.length c6,.slice o7 s.purses.length c7] by rw [← hw3];exact HA2.out.other _ (by simp))
  have HZ3:=hid (show Row w3 (w.heap.size+1+1+1) 28 [.string ⟨#[]⟩,.int .i64 0,.int .i64 0,.slice none 0 0,.slice none 0 0,.slice none 0 0,.slice none 0 0,.slice none 0 0,.slice none 0 0,.slice none 0 0] by rw [← hw3];exact HZ2.out.other _ (by simp))
  have HB3:=hid (show Below w.heap.size w w3 by rw [← hw3];exact HB2.out.setCell (show w.heap.size≤w.heap.size+1 by omega) _)
  have hsz3:w2.heap.size≤w3.heap.size:=by rw [← hw3];simp [World.setCell]
  have HW3:=hid hw3
  clear hw3
  go_upto_region 6 with fail
  rw [HW3.out]
  clear a0 za
  obtain ⟨k0,k1,k2,k3,k4,k5,k6,k7,k8,k9⟩:=HA3.out.c10
  go_wp2_with fail
  refine (HCP.out _ HB3.out).mono ?_
  rintro e w4 ⟨hb4,p1,d1,p2,d2,p3,d3,p4,d4,p5,d5,p6,d6,p7,d7,rfl,hown⟩
  have HB4:=hgo HB3 hb4
  have HA4:=rgo HA3 hb4
  have HC4:=rgo HC3 hb4
  have HZ4:=rgo HZ3 hb4
  have hsz4:=hb4.size
  have hbig:w.heap.size+4≤w3.heap.size:=by have:=HSZ.out;omega
  obtain ⟨w5,hw5,HRS5,HHZ5,HON5,HSW5⟩:=QJ HA4.out [.string s.name,.int .i64 s.height,.int .i64 s.time,.slice p1 s.clients.length d1,.slice p2 s.conns.length d2,.slice p3 s.chans.length d3,.slice p4 s.sent.length d4,.slice p5 s.got.length d5,.slice p6 s.acks.length d6,.slice p7 s.purses.length d7] (by simp [Value.oneCell'])
  have HO5:=hid (hown.on (w':=w5) (by rw [← hw5];exact Qd (Below.refl 0 w4) (Nat.zero_le _) _) (fun b _ hlt=>by rw [← hw5];exact setRow_other _ _ _ _ (by omega)))
  have HB5:=hid (show Below w.heap.size w w5 by rw [← hw5];exact Qd HB4.out (Nat.le_refl _) _)
  have HC5:=hid (show Row w5 (w.heap.size+1) 58 [.int .i64 3,.int .i64 own.client,.int .i64 own.oclient,.int .i64 own.oconn] by rw [← hw5];exact (setRow_other _ _ _ _ (by omega)).trans HC4.out)
  have HZ5:=hid (show Row w5 (w.heap.size+1+1+1) 28 [.string ⟨#[]⟩,.int .i64 0,.int .i64 0,.slice none 0 0,.slice none 0 0,.slice none 0 0,.slice none 0 0,.slice none 0 0,.slice none 0 0,.slice none 0 0] by rw [← hw5];exact (setRow_other _ _ _ _ (by omega)).trans HZ4.out)
  have hsz5:w4.heap.size≤w5.heap.size:=by rw [← hw5];simp
  clear k0 k1 k2 k3 k4 k5 k6 k7 k8 k9 hb4 hown hw5
  go_upto_region 7 with (refine Qf rfl (.tmp 5) (.tmp 35) rfl rfl rfl HHZ5.out HIZ.out rfl HON5.out HSW5.out ?_)
  have hlt':(k:Int)<(s.conns.length:Int):=by omega
  obtain ⟨x,hx⟩:∃ x,s.conns[k]?=some x:=⟨s.conns[k]'(by omega),List.getElem?_eq_getElem _⟩
  obtain ⟨g,rfl,hgb,hgl,hcc,hfz⟩:=Qw.at HO5.out.conns (r:=Qu x) (i:=k) (by rw [List.getElem?_map,hx];rfl)
  have f0:=hcc 0 _ rfl
  have z0:=hfz (k*4)
  have f1:=hcc 1 _ rfl
  have z1:=hfz (k*4+1)
  have f2:=hcc 2 _ rfl
  have z2:=hfz (k*4+2)
  have f3:=hcc 3 _ rfl
  have z3:=hfz (k*4+3)
  simp only [Nat.add_zero] at f0
  have c4:w5.cell? ⟨w.heap.size,4,none⟩=some (.slice (some ⟨g,0,none⟩) s.conns.length d2):=HRS5.out.cell 4
  obtain ⟨m0,m1,m2,m3⟩:=HC5.out.c4
  obtain ⟨w6,hw6⟩:∃ w6,w5.setCells g (k*4) [.int .i64 3,.int .i64 own.client,.int .i64 own.oclient,.int .i64 own.oconn]=w6:=⟨_,rfl⟩
  have hrow:Q3 58 Qu 4 w6 w3.heap.size (.slice (some ⟨g,0,none⟩) s.conns.length d2) (s.conns.set k ⟨3,own.client,own.oclient,own.oconn⟩):=by
   rw [← hw6]
   have:=Qw.put HO5.out.conns (i:=k) (r:=Qu ⟨3,own.client,own.oclient,own.oconn⟩) (by rw [List.length_map];omega) (Yx (l:=[⟨3,own.client,own.oclient,own.oconn⟩]) _ (by simp))
   rw [← List.map_set] at this
   exact this
  have HO6:=hid (HO5.out.putConns (w':=w6) (by rw [← hw6];exact J8 w5 g (k*4) _) hrow (fun b e=>.inl e))
  have ho6:∀ b,b≠g→w6.heap[b]?=w5.heap[b]?:=fun b hb=>by rw [← hw6];exact Yl g _ _ _ _ hb
  have HA6:=hid (show Row w6 w.heap.size 28 [.string s.name,.int .i64 s.height,.int .i64 s.time,.slice p1 s.clients.length d1,.slice (some ⟨g,0,none⟩) s.conns.length d2,.slice p3 s.chans.length d3,.slice p4 s.sent.length d4,.slice p5 s.got.length d5,.slice p6 s.acks.length d6,.slice p7 s.purses.length d7] from (ho6 _ (by omega)).trans HRS5.out)
  have HZ6:=hid (show Row w6 (w.heap.size+1+1+1) 28 [.string ⟨#[]⟩,.int .i64 0,.int .i64 0,.slice none 0 0,.slice none 0 0,.slice none 0 0,.slice none 0 0,.slice none 0 0,.slice none 0 0,.slice none 0 0] from (ho6 _ (by omega)).trans HZ5.out)
  have HB6:=hid (show Below w.heap.size w w6 by rw [← hw6];exact JH (by omega) _ _ _ HB5.out)
  have HW6:=hid hw6
  have HSX:=hid (show s.conns.length=(s.conns.set k ⟨3,own.client,own.oclient,own.oconn⟩).length by simp)
  clear hw6 hrow ho6 hcc hfz hx
  go_upto_region 8 with fail
  have hst6:((((w5.setCell ⟨g,k*4,none⟩ (.int .i64 3)).setCell ⟨g,k*4+1,none⟩ (.int .i64 own.client)).setCell ⟨g,k*4+2,none⟩ (.int .i64 own.oclient)).setCell ⟨g,k*4+3,none⟩ (.int .i64 own.oconn))=w6:=HW6.out
  rw [hst6]
  clear f0 f1 f2 f3 z0 z1 z2 z3 c4 m0 m1 m2 m3 hst6
  obtain ⟨w7,hw7,HRS7,HHZ7,HON7,HSW7⟩:=QJ HZ6.out [.string s.name,.int .i64 s.height,.int .i64 s.time,.slice p1 s.clients.length d1,.slice (some ⟨g,0,none⟩) s.conns.length d2,.slice p3 s.chans.length d3,.slice p4 s.sent.length d4,.slice p5 s.got.length d5,.slice p6 s.acks.length d6,.slice p7 s.purses.length d7] (by simp [Value.oneCell'])
  have HB7:=hid (show Below w.heap.size w w7 by rw [← hw7];exact Qd HB6.out (by omega) _)
  have HO7:=hid (HO6.out.on (w':=w7) (by rw [← hw7];exact Qd (Below.refl 0 w6) (Nat.zero_le _) _) (fun b _ hlt=>by rw [← hw7];exact setRow_other _ _ _ _ (by omega)))
  obtain ⟨q0,q1,q2,q3,q4,q5,q6,q7,q8,q9⟩:=HA6.out.c10
  clear hw7
  go_wp2_with (refine Qf rfl (.tmp 10) (.tmp 41) rfl rfl rfl HHZ7.out HIZ.out rfl HON7.out HSW7.out ?_)
  obtain ⟨y0,y1,y2,y3,y4,y5,y6,y7,y8,y9⟩:=HRS7.out.c10
  refine bodyPost_ret (v:=.tuple #[.agg #[.string s.name,.int .i64 s.height,.int .i64 s.time,.slice p1 s.clients.length d1,.slice (some ⟨g,0,none⟩) s.conns.length d2,.slice p3 s.chans.length d3,.slice p4 s.sent.length d4,.slice p5 s.got.length d5,.slice p6 s.acks.length d6,.slice p7 s.purses.length d7],.int .i64 0]) (by simp [results,Tryz.results65,go_sem,y0,y1,y2,y3,y4,y5,y6,y7,y8,y9]) rfl ⟨HB7.out,_,rfl,?_⟩
  unfold YZ
  rw [if_pos rfl,Int.toNat_natCast]
  exact (HO7.out.lower (by omega)).holds
 ·have e0:(z != 0)=true:=by simpa using hz
  have HP:=hid (show YZ s z (k:Int) ⟨3,own.client,own.oclient,own.oconn⟩=St.none from if_neg hz)
  clear hz
  obtain ⟨w3,hw3,HRS3,HHZ3,HON3,HSW3⟩:=QJ HZ2.out [.string ⟨#[]⟩,.int .i64 0,.int .i64 0,.slice none 0 0,.slice none 0 0,.slice none 0 0,.slice none 0 0,.slice none 0 0,.slice none 0 0,.slice none 0 0] (by simp [Value.oneCell'])
  have HB3:=hid (show Below w.heap.size w w3 by rw [← hw3];exact Qd HB2.out (by omega) _)
  clear hw3
  go_wp2_with (refine Qf rfl (.tmp 10) (.tmp 31) rfl rfl rfl HHZ3.out HIZ.out rfl HON3.out HSW3.out ?_)
  obtain ⟨y0,y1,y2,y3,y4,y5,y6,y7,y8,y9⟩:=HRS3.out.c10
  refine bodyPost_ret (v:=.tuple #[.agg #[.string ⟨#[]⟩,.int .i64 0,.int .i64 0,.slice none 0 0,.slice none 0 0,.slice none 0 0,.slice none 0 0,.slice none 0 0,.slice none 0 0,.slice none 0 0],.int .i64 z]) (by simp [results,Tryz.results65,go_sem,y0,y1,y2,y3,y4,y5,y6,y7,y8,y9]) rfl ⟨HB3.out,_,rfl,?_⟩
  rw [HP.out]
  exact Qp _ _ _
end Go.Proofs.YtooemgkjkngpcaaGreatDoor
