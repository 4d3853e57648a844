/-
  Whether something is shown of the other side: package conn's member, and the document's There.
-/
import Derived.Test.YtooemgkjkngpcaaGreatDoorshClRAsk
import Derived.Test.YtooemgkjkngpcaaGreatDoorshClShown
import Derived.Test.YtooemgkjkngpcaaGreatDoorshRef5Abs
import Derived.Test.YtooemgkjkngpcaaGreatDoorshStKey
import Derived.Test.YtooemgkjkngpcaaGreatDoorshCoLive
namespace Go.Proofs.YtooemgkjkngpcaaGreatDoor
open Go.RowKit

set_option maxRecDepth 100000 in
set_option maxHeartbeats 2000000 in
theorem connKey_any (k:Int) (hk:0≤k∧k≤1000000000000) (w:World) (htab:powAt w):Calls Tryz.prog 85 #[.int .i64 k] w fun e w'=>∃ v,e=.returned v∧OwnM w' w.heap.size v (keyL kwConn [k.toNat])∧Below w.heap.size w w':=by
  obtain ⟨w0,hw0⟩:∃ w0,w.alloc (.cells #[.int .i64 k] 3)=w0:=⟨_,rfl⟩
  have hb0:Below w.heap.size w w0:=by rw [← hw0];exact (Below.refl _ _).alloc (Nat.le_refl _) _
  have HB0:=hid hb0
  have HK:=hid (keyOf_any ⟨#[99,111,110,110]⟩ [k] w.heap.size 1 w0 (by decide) (by rw [← hw0];exact Row.new _ _ _) rfl (by decide) (fun n hn=>by simp at hn;omega) (htab.below hb0))
  have HW0:=hid hw0
  clear hb0 hw0 htab
  go_enter Tryz.func85,Tryz.ntmps85
  go_wp2_with fail
  rw [HW0.out]
  refine HK.out.mono ?_
  rintro e w1 ⟨v,rfl,ho,hb⟩
  have HO:=hid ho
  have HB:=hid hb
  clear ho hb
  go_wp2
  go_ret
  exact ⟨v,rfl,HO.out.mono HB0.out.size,HB0.out.trans (HB.out.mono HB0.out.size)⟩
set_option maxHeartbeats 4000000 in
theorem connVal_any (c:Cn) (h:wrongCn c=0) (w:World):Calls Tryz.prog 86 #[.agg #[.int .i64 c.state,.int .i64 c.client,.int .i64 c.oclient,.int .i64 c.oconn]] w fun e w'=>∃ v,e=.returned v∧OwnM w' w.heap.size v (connB c)∧Below w.heap.size w w':=by
  obtain ⟨w0,hw0⟩:∃ w0,w.alloc (.cells #[.int .i64 c.state,.int .i64 c.client,.int .i64 c.oclient,.int .i64 c.oconn] 58)=w0:=⟨_,rfl⟩
  have hb0:Below w.heap.size w w0:=by rw [← hw0];exact (Below.refl _ _).alloc (Nat.le_refl _) _
  have HB0:=hid hb0
  have hr0:=(show Row w0 w.heap.size 58 [.int .i64 c.state,.int .i64 c.client,.int .i64 c.oclient,.int .i64 c.oconn] by rw [← hw0];exact Row.new _ _ _)
  have k0:=hr0.cell 0
  have k1:=hr0.cell 1
  have k2:=hr0.cell 2
  have k3:=hr0.cell 3
  have hok:=wrongCn_ok h
  have hwr:IntKind.i64.wrap (c.oconn+1)=c.oconn+1:=by rw [IntKind.wrap_i64];omega
  obtain ⟨w1,hw1⟩:∃ w1,w0.alloc (.cells #[.int .i64 (c.state),.int .i64 (c.client),.int .i64 (c.oclient),.int .i64 (c.oconn+1)] 3)=w1:=⟨_,rfl⟩
  have hb1:Below w0.heap.size w0 w1:=by rw [← hw1];exact (Below.refl _ _).alloc (Nat.le_refl _) _
  have HB1:=hid (HB0.out.trans (hb1.mono HB0.out.size))
  have HC:=hid (numbers_any [c.state,c.client,c.oclient,c.oconn+1] w0.heap.size 4 w1 (by rw [← hw1];exact Row.new _ _ _) rfl (by decide) (fun x hx=>by
    simp only [List.mem_cons,List.not_mem_nil,or_false] at hx
    omega))
  have HW0:=hid hw0
  have HW1:=hid hw1
  clear hr0 hb0 hb1 hw0 hw1 h hok
  go_enter Tryz.func86,Tryz.ntmps86
  go_upto_region 1 with fail
  rw [HW0.out]
  go_wp2_with fail
  rw [HW1.out]
  refine HC.out.mono ?_
  rintro e w2 ⟨v,rfl,hown,hb2⟩
  have HB2:=hid (HB1.out.trans (hb2.mono HB1.out.size))
  have HO:=hid (hown.mono HB1.out.size)
  clear hb2 hown
  go_wp2
  go_ret
  exact ⟨_,rfl,HO.out,HB2.out⟩
end Go.Proofs.YtooemgkjkngpcaaGreatDoor
namespace Go.Proofs.YtooemgkjkngpcaaGreatDoor
open Go.RowKit

set_option maxRecDepth 100000 in
set_option maxHeartbeats 4000000 in
theorem refMemberC:MemberC 22:=by
  intro c now height key val p cv kv vv pv N w htab hN hcv hk hv hp hcf hkl hvl hpf
  have HSS:=hid (show ∀ wx,Below w.heap.size w wx→∀ (root:List (BitVec 8)) (rv:Value),Bytes wx wx.heap.size rv root→root.length≤140737488351232→_ from fun wx hx root rv hr hrl=>refShownC root p rv pv wx.heap.size wx (htab.below hx htab.lt) (Nat.le_refl _) hr ((hp.below (hx.mono hN)).mono (Nat.le_trans hN hx.size)) hpf hrl)
  have HP:=hid hp
  have HKK:=hid hk
  have HV:=hid hv
  obtain ⟨x1,x2,x3,rfl,h1,h2,h3⟩:=hp
  have HE1:=hid (show ∀ wx,Below w.heap.size w wx→_ from fun wx hx=>sameB_any p.key key x1 kv N N wx (h1.below (hx.mono hN)) (hk.below (hx.mono hN)) (by have:=hpf.1;omega) (by omega))
  have HE2:=hid (show ∀ wx,Below w.heap.size w wx→_ from fun wx hx=>sameB_any p.val val x2 vv N N wx (h2.below (hx.mono hN)) (hv.below (hx.mono hN)) (by have:=hpf.2.1;omega) (by omega))
  obtain ⟨q1,y1,rfl,-⟩:=h1.shape
  obtain ⟨q2,y2,rfl,-⟩:=h2.shape
  obtain ⟨q3,y3,rfl,-⟩:=h3.shape
  obtain ⟨o1,c1,rfl,-⟩:=hk.shape
  obtain ⟨o2,c2,rfl,-⟩:=hv.shape
  clear h1 h2 h3 hk hv hpf hkl hvl
  have HAS:=hid (show ∀ wx,Below w.heap.size w wx→_ from fun wx hx=>refAskedC c now cv N wx (hcv.below (hx.mono hN)) (Nat.le_trans hN hx.size) hcf)
  have HFI:=hid (show ∀ wx,Below w.heap.size w wx→_ from fun wx hx=>refAtC c height cv N wx (hcv.below (hx.mono hN)) (Nat.le_trans hN hx.size) hcf)
  have HCV:=hid hcv
  have HCF:=hid hcf
  obtain ⟨xv,rfl,hkn⟩:=hcv
  obtain ⟨oa,ca,rfl,hca⟩:=hkn.shape
  obtain ⟨w0,hw0⟩:∃ w0,(w.alloc (.cells #[.string c.chain,.int .i64 c.trust,.bool c.frozen,.slice oa c.known.length ca] 62)).alloc (.cells #[.int .i64 p.index,.int .i64 p.size,.slice q1 p.key.length y1,.slice q2 p.val.length y2,.slice q3 p.path.length y3] 42)=w0:=⟨_,rfl⟩
  have HB0:=hid (show Below w.heap.size w w0 by rw [← hw0];exact ((Below.refl _ _).alloc (Nat.le_refl _) _).alloc (by simp) _)
  have HR0:=hid (show Row w0 w.heap.size 62 [.string c.chain,.int .i64 c.trust,.bool c.frozen,.slice oa c.known.length ca] by rw [← hw0];exact (Row.new _ _ _).alloc _)
  have HP0:=hid (show Row w0 (w.heap.size+1) 42 [.int .i64 p.index,.int .i64 p.size,.slice q1 p.key.length y1,.slice q2 p.val.length y2,.slice q3 p.path.length y3] by rw [← hw0];exact Row.newAt _ _ _ _ (by simp))
  have HW0:=hid hw0
  obtain ⟨⟨a0,a1,a2,a3⟩,-⟩:=HR0.out.four
  clear hw0 hkn hcf hca htab
  go_enter Tryz.func22,Tryz.ntmps22
  go_wp2_with fail
  rw [HW0.out]
  refine (HAS.out _ HB0.out).mono ?_
  rintro e w1 ⟨rfl,hb1⟩
  have HB1:=hid (HB0.out.trans (hb1.mono HB0.out.size))
  have HR1:=hid (HR0.out.below hb1 HR0.out.lt)
  have HP1:=hid (HP0.out.below hb1 HP0.out.lt)
  clear hb1 a0 a1 a2 a3
  obtain ⟨⟨a0,a1,a2,a3⟩,-⟩:=HR1.out.four
  by_cases hask:askedN c now=0
  · rw [hask]
    have HASK:=hid hask
    have HAC:=hid (show ∀ wx,Below w.heap.size w wx→Calls Tryz.prog 69 #[.agg #[.string c.chain,.int .i64 c.trust,.bool c.frozen,.slice oa c.known.length ca],.int .i64 now] wx _ from fun wx hx=>refActiveC c now _ N wx (HCV.out.below (hx.mono hN)) (Nat.le_trans hN hx.size) (askedN_ok HASK.out).1 (askedN_ok HASK.out).2.1)
    clear hask
    go_wp2_with fail
    refine (HFI.out _ HB1.out).mono ?_
    rintro e w2 ⟨hb2,p1,d1,p2,d2,rfl,hx1,hx2⟩
    have HB2:=hid (HB1.out.trans (hb2.mono HB1.out.size))
    have HR2:=hid (HR1.out.below hb2 HR1.out.lt)
    have HP2:=hid (HP1.out.below hb2 HP1.out.lt)
    clear hb2 a0 a1 a2 a3
    obtain ⟨⟨a0,a1,a2,a3⟩,-⟩:=HR2.out.four
    have m1:w.heap.size<w2.heap.size:=HR2.out.lt
    have m2:w.heap.size≠w2.heap.size:=by omega
    cases hat:atK c.known height with
    | none =>
      have HAT:=hid hat
      clear hat hx1 hx2
      simp only [Option.isSome]
      generalize knAt c.known height=k at *
      go_wp2
      go_ret
      exact ⟨HB2.out.alloc HB2.out.size _,_,rfl,.inr (.inl ⟨HASK.out,HAT.out,rfl⟩)⟩
    | some k =>
      have HAT:=hid hat
      rw [knAt_some hat] at hx1
      rw [knAt_some hat]
      simp only [Option.isSome]
      obtain ⟨w3,hw3⟩:∃ w3,w2.alloc (.cells #[.int .i64 k.height,.int .i64 k.time,.slice p1 k.root.length d1,.slice p2 k.next.length d2] 125)=w3:=⟨_,rfl⟩
      have hb3:Below w2.heap.size w2 w3:=by rw [← hw3];exact (Below.refl _ _).alloc (Nat.le_refl _) _
      have HB3:=hid (HB2.out.trans (hb3.mono HB2.out.size))
      have HRK3:=hid (show Row w3 w2.heap.size 125 [.int .i64 k.height,.int .i64 k.time,.slice p1 k.root.length d1,.slice p2 k.next.length d2] by rw [← hw3];exact Row.new _ _ _)
      have HP3:=hid (HP2.out.below hb3 HP2.out.lt)
      have HX1:=hid ((hx1.below hb3).mono hb3.size)
      have HKF:=hid (HCF.out.2.2 k (atK_some hat).1)
      have HW3:=hid hw3
      clear hat hx1 hx2 hb3 hw3
      go_wp2_with fail
      rw [HW3.out]
      refine (HAC.out _ HB3.out).mono ?_
      rintro e w4 ⟨rfl,hb4⟩
      have HB4:=hid (HB3.out.trans (hb4.mono HB3.out.size))
      have HRK4:=hid (HRK3.out.below hb4 HRK3.out.lt)
      have HP4:=hid (HP3.out.below hb4 HP3.out.lt)
      have HX4:=hid ((HX1.out.below hb4).mono hb4.size)
      clear hb4 a0 a1 a2 a3 m1 m2
      obtain ⟨⟨a0,a1,a2,a3⟩,-⟩:=HRK4.out.four
      obtain ⟨b0,b1,b2,b3,b4⟩:=Row.five HP4.out
      cases hac:activeB c now with
      | false =>
        have HACT:=hid hac
        clear hac
        go_wp2
        go_ret
        exact ⟨HB4.out,_,rfl,.inr (.inr ⟨HASK.out,k,HAT.out,.inl ⟨HACT.out,rfl⟩⟩)⟩
      | true =>
        have HACT:=hid hac
        clear hac
        by_cases e1:p.key=key
        · rw [decide_eq_true e1] at HE1
          have HQ1:=hid e1
          clear e1
          go_wp2_with fail
          refine (HE1.out _ HB4.out).mono ?_
          rintro e w5 ⟨rfl,hdr⟩
          have hb5:Below w4.heap.size w4 w5:=by obtain ⟨q,hq⟩:=hdr;rw [hq];exact below_drewH _ _ _
          clear hdr
          have HB5:=hid (HB4.out.trans (hb5.mono HB4.out.size))
          have HRK5:=hid (HRK4.out.below hb5 HRK4.out.lt)
          have HP5:=hid (HP4.out.below hb5 HP4.out.lt)
          have HX5:=hid ((HX4.out.below hb5).mono hb5.size)
          clear hb5 a0 a1 a2 a3 b0 b1 b2 b3 b4
          obtain ⟨⟨a0,a1,a2,a3⟩,-⟩:=HRK5.out.four
          obtain ⟨b0,b1,b2,b3,b4⟩:=Row.five HP5.out
          by_cases e2:p.val=val
          · rw [decide_eq_true e2] at HE2
            have HQ2:=hid e2
            clear e2
            go_wp2_with fail
            refine (HE2.out _ HB5.out).mono ?_
            rintro e w6 ⟨rfl,hdr⟩
            have hb6:Below w5.heap.size w5 w6:=by obtain ⟨q,hq⟩:=hdr;rw [hq];exact below_drewH _ _ _
            clear hdr
            have HB6:=hid (HB5.out.trans (hb6.mono HB5.out.size))
            have HRK6:=hid (HRK5.out.below hb6 HRK5.out.lt)
            have HP6:=hid (HP5.out.below hb6 HP5.out.lt)
            have HX6:=hid ((HX5.out.below hb6).mono hb6.size)
            clear hb6 a0 a1 a2 a3 b0 b1 b2 b3 b4
            obtain ⟨⟨a0,a1,a2,a3⟩,-⟩:=HRK6.out.four
            obtain ⟨b0,b1,b2,b3,b4⟩:=Row.five HP6.out
            go_wp2_with fail
            refine (HSS.out w6 HB6.out k.root _ HX6.out HKF.out.1).mono ?_
            rintro e w9 ⟨hb9,bb,rfl,hbb⟩
            have HB9:=hid (HB6.out.trans (hb9.mono HB6.out.size))
            have HBB:=hid hbb
            clear hb9 hbb
            cases bb with
            | true =>
              go_wp2
              go_ret
              exact ⟨HB9.out,_,rfl,.inr (.inr ⟨HASK.out,k,HAT.out,.inr ⟨HACT.out,.inl ⟨⟨HQ1.out,HQ2.out,HBB.out.1 (by simp)⟩,rfl⟩⟩⟩)⟩
            | false =>
              go_wp2
              go_ret
              exact ⟨HB9.out,_,rfl,.inr (.inr ⟨HASK.out,k,HAT.out,.inr ⟨HACT.out,.inr ⟨fun h=>absurd (HBB.out.2 h.2.2) (by simp),rfl⟩⟩⟩)⟩
          · rw [decide_eq_false e2] at HE2
            have HQ2:=hid e2
            clear e2
            go_wp2_with fail
            refine (HE2.out _ HB5.out).mono ?_
            rintro e w6 ⟨rfl,hdr⟩
            have hb6:Below w5.heap.size w5 w6:=by obtain ⟨q,hq⟩:=hdr;rw [hq];exact below_drewH _ _ _
            clear hdr
            have HB6:=hid (HB5.out.trans (hb6.mono HB5.out.size))
            have HRK6:=hid (HRK5.out.below hb6 HRK5.out.lt)
            have HP6:=hid (HP5.out.below hb6 HP5.out.lt)
            have HX6:=hid ((HX5.out.below hb6).mono hb6.size)
            clear hb6 a0 a1 a2 a3 b0 b1 b2 b3 b4
            obtain ⟨⟨a0,a1,a2,a3⟩,-⟩:=HRK6.out.four
            obtain ⟨b0,b1,b2,b3,b4⟩:=Row.five HP6.out
            go_wp2
            go_ret
            exact ⟨HB6.out,_,rfl,.inr (.inr ⟨HASK.out,k,HAT.out,.inr ⟨HACT.out,.inr ⟨fun h=>HQ2.out h.2.1,rfl⟩⟩⟩)⟩
        · rw [decide_eq_false e1] at HE1
          have HQ1:=hid e1
          clear e1
          go_wp2_with fail
          refine (HE1.out _ HB4.out).mono ?_
          rintro e w5 ⟨rfl,hdr⟩
          have hb5:Below w4.heap.size w4 w5:=by obtain ⟨q,hq⟩:=hdr;rw [hq];exact below_drewH _ _ _
          clear hdr
          have HB5:=hid (HB4.out.trans (hb5.mono HB4.out.size))
          have HRK5:=hid (HRK4.out.below hb5 HRK4.out.lt)
          have HP5:=hid (HP4.out.below hb5 HP4.out.lt)
          have HX5:=hid ((HX4.out.below hb5).mono hb5.size)
          clear hb5 a0 a1 a2 a3 b0 b1 b2 b3 b4
          obtain ⟨⟨a0,a1,a2,a3⟩,-⟩:=HRK5.out.four
          obtain ⟨b0,b1,b2,b3,b4⟩:=Row.five HP5.out
          go_wp2
          go_ret
          exact ⟨HB5.out,_,rfl,.inr (.inr ⟨HASK.out,k,HAT.out,.inr ⟨HACT.out,.inr ⟨fun h=>HQ1.out h.1,rfl⟩⟩⟩)⟩
  · have HASK:=hid hask
    have e1:(askedN c now != 0)=true:=by simpa using hask
    clear hask
    generalize hz:askedN c now=z at *
    have HZ:=hid hz
    clear hz
    go_wp2
    go_ret
    exact ⟨HB1.out,_,rfl,.inl ⟨by rw [HZ.out];exact HASK.out,HZ.out.symm⟩⟩
end Go.Proofs.YtooemgkjkngpcaaGreatDoor
namespace Go.Proofs.YtooemgkjkngpcaaGreatDoor
open Go.RowKit

theorem conn_key_len (q:Int) (hq:0≤q∧q≤1000000000000):(keyL kwConn [q.toNat]).length≤140737488351232:=by
  have h:=digN_len 12 q.toNat (by omega)
  simp [keyL,kwConn]
  omega
theorem conn_val_len (o:Cn) (ho:wrongCn o=0):(connB o).length≤140737488351232:=by
  have hok:=wrongCn_ok ho
  have:=(nums_wr [o.state,o.client,o.oclient,o.oconn+1] (by simp) (fun n hn=>by simp at hn;omega)).2
  unfold connB
  omega
set_option maxRecDepth 100000 in
set_option maxHeartbeats 4000000 in
theorem memberR {y0 y3 y4 y6 y7 z10 z11 z12 z13 z14 z15 z16 z17 z18 z19 z20 z21 z22 z23 z24 z25 z26:Value} {gs go gh N:Nat} (s:St) (x:Cl) (k n b f c1 ma:Nat) (ka o2 o3 o4 o5 o6 o7:Option Addr) (c2 c3 c4 c5 c6 c7:Nat) (h:Sh) (q z:Int) (o:Cn) (q1 q2 q3 r1 r2 r3 r4 r5 r6:Option Addr) (e1 e2 e3 s1 s2 s3 s4 s5 s6:Nat) {w:World} (hN:N≤w.heap.size) (hrs:Hid (Row w gs 28 [.string s.name,.int .i64 s.height,.int .i64 s.time,.slice (some ⟨b,f,none⟩) n c1,.slice o2 s.conns.length c2,.slice o3 s.chans.length c3,.slice o4 s.sent.length c4,.slice o5 s.got.length c5,.slice o6 s.acks.length c6,.slice o7 s.purses.length c7])) (_hlt:(k:Int)<(n:Int)) (hb1:b<w.heap.size) (hca:Hid (w.cell? ⟨b,f+k*4,none⟩=some (.string x.chain)∧w.cell? ⟨b,f+k*4+1,none⟩=some (.int .i64 x.trust)∧w.cell? ⟨b,f+k*4+2,none⟩=some (.bool x.frozen)∧w.cell? ⟨b,f+k*4+3,none⟩=some (.slice ka x.known.length ma))) (hcv:Hid (ClV w N (.agg #[.string x.chain,.int .i64 x.trust,.bool x.frozen,.slice ka x.known.length ma]) x)) (hrh:Hid (Row w gh 46 [.int .i64 h.height,.int .i64 h.prf.index,.int .i64 h.prf.size,.slice q1 h.prf.key.length e1,.slice q2 h.prf.val.length e2,.slice q3 h.prf.path.length e3,.bool h.gap.hasL,.bool h.gap.hasR,.int .i64 h.gap.left.index,.int .i64 h.gap.left.size,.slice r1 h.gap.left.key.length s1,.slice r2 h.gap.left.val.length s2,.slice r3 h.gap.left.path.length s3,.int .i64 h.gap.right.index,.int .i64 h.gap.right.size,.slice r4 h.gap.right.key.length s4,.slice r5 h.gap.right.val.length s5,.slice r6 h.gap.right.path.length s6])) (hpv:Hid (PrfV w N (.agg #[.int .i64 h.prf.index,.int .i64 h.prf.size,.slice q1 h.prf.key.length e1,.slice q2 h.prf.val.length e2,.slice q3 h.prf.path.length e3]) h.prf)) (htab:Hid (tableAt w)) (hcf:Hid x.fits) (hpf:Hid h.prf.fits) (hpow:Hid (powAt w)) (hro:Hid (Row w go 58 [.int .i64 o.state,.int .i64 o.client,.int .i64 o.oclient,.int .i64 o.oconn])) (hq:0≤q∧q≤1000000000000) (ho:Hid (wrongCn o=0)) (hz:Hid (ShownN x s.time h.height (fun r=>h.prf.key=keyL kwConn [q.toNat]∧h.prf.val=connB o∧shownB r h.prf) z)) (hkl:(keyL kwConn [q.toNat]).length≤140737488351232) (hvl:(connB o).length≤140737488351232) (Q:Exit→Act→World→Prop)
    (hQ:Hid (∀ (σ:Nat→Value) (w':World),Below w.heap.size w w'→/-16-/ σ 16=.int .i64 z→Q .normal ⟨#[y0,.int .i64 (k:Int),.int .i64 q,y3,y4,.pointer (some ⟨gs,0,none⟩),y6,y7,.pointer (some ⟨go,0,none⟩),.pointer (some ⟨gh,0,none⟩),σ 16,σ 0,σ 1,σ 2,σ 3,σ 4,σ 5,σ 6,σ 7,σ 8,σ 9,σ 10,σ 11,σ 12,σ 13,σ 14,σ 15],[]⟩ w')) :
    Code.wp Tryz.prog (.region 1 ((Tryz.f63.body.bind (regOf 1)).getD #[]) true) Q ⟨#[y0,.int .i64 (k:Int),.int .i64 q,y3,y4,.pointer (some ⟨gs,0,none⟩),y6,y7,.pointer (some ⟨go,0,none⟩),.pointer (some ⟨gh,0,none⟩),z10,z11,z12,z13,z14,z15,z16,z17,z18,z19,z20,z21,z22,z23,z24,z25,z26],[]⟩ w:=by
  conv=>arg 2;arg 2;whnf
  conv=>arg 4;dsimp only
  refine region_grows (by kernel_rfl) (fun σ=>#[y0,.int .i64 (k:Int),.int .i64 q,y3,y4,.pointer (some ⟨gs,0,none⟩),y6,y7,.pointer (some ⟨go,0,none⟩),.pointer (some ⟨gh,0,none⟩),σ 16,σ 0,σ 1,σ 2,σ 3,σ 4,σ 5,σ 6,σ 7,σ 8,σ 9,σ 10,σ 11,σ 12,σ 13,σ 14,σ 15]) (fun i=>([z11,z12,z13,z14,z15,z16,z17,z18,z19,z20,z21,z22,z23,z24,z25,z26,z10]:List Value).getD i undef) rfl (fun i X W=>match i with
    | 0=>X=.pointer (some ⟨gs,3,none⟩)
    | 1=>X=.slice (some ⟨b,f,none⟩) n c1
    | 2=>X=.int .i64 (k:Int)
    | 3=>X=.pointer (some ⟨b,f+k*4,none⟩)
    | 4=>X=.agg #[.string x.chain,.int .i64 x.trust,.bool x.frozen,.slice ka x.known.length ma]
    | 5=>X=.pointer (some ⟨gs,2,none⟩)
    | 6=>X=.int .i64 s.time
    | 7=>X=.pointer (some ⟨gh,0,none⟩)
    | 8=>X=.int .i64 h.height
    | 9=>X=.int .i64 q
    | 10=>OwnM W w.heap.size X (keyL kwConn [q.toNat])
    | 11=>X=.agg #[.int .i64 o.state,.int .i64 o.client,.int .i64 o.oclient,.int .i64 o.oconn]
    | 12=>OwnM W w.heap.size X (connB o)
    | 13=>X=.pointer (some ⟨gh,1,none⟩)
    | 14=>X=.agg #[.int .i64 h.prf.index,.int .i64 h.prf.size,.slice q1 h.prf.key.length e1,.slice q2 h.prf.val.length e2,.slice q3 h.prf.path.length e3]
    | 15=>X=.int .i64 z
    | 16=>X=.int .i64 z
    | _=>True) ?_ (by kernel_rfl) ?_ ?_
  · intro i X W W' HB H
    match i,H with
    | 0,H=>exact H
    | 1,H=>exact H
    | 2,H=>exact H
    | 3,H=>exact H
    | 4,H=>exact H
    | 5,H=>exact H
    | 6,H=>exact H
    | 7,H=>exact H
    | 8,H=>exact H
    | 9,H=>exact H
    | 10,H=>exact (H.below HB)
    | 11,H=>exact H
    | 12,H=>exact (H.below HB)
    | 13,H=>exact H
    | 14,H=>exact H
    | 15,H=>exact H
    | 16,H=>exact H
    | _+17,_=>exact trivial
  · refine ⟨?_,?_,?_,?_,?_,?_,?_,?_,?_,?_,?_,?_,?_,?_,?_,?_,?_,trivial⟩
    · -- 0: Op.fieldAddr 28 t5 3
      intro σ W HJ hdep
      simp [Region.binds] at hdep
      have HJ:=hid HJ
      refine wpOp_plain rfl rfl ?_
      go_simp
      exact Left.mk0 (.pointer (some ⟨gs,3,none⟩)) (by first | rfl | simp [updF, *]) HJ.out rfl
    · -- 1: Op.load 22 t11
      intro σ W HJ hdep
      simp [Region.binds] at hdep
      have HJ:=hid HJ
      have kc:=(hrs.out.below HJ.out hrs.out.lt).cell 3
      simp at kc
      refine wpOp_plain rfl rfl ?_
      go_simp
      exact Left.mk0 (.slice (some ⟨b,f,none⟩) n c1) (by first | rfl | simp [updF, *]) HJ.out rfl
    · -- 2: Op.move t1
      intro σ W HJ hdep
      simp [Region.binds] at hdep
      have HJ:=hid HJ
      refine wpOp_plain rfl rfl ?_
      go_simp
      exact Left.mk0 (.int .i64 (k:Int)) (by first | rfl | simp [updF, *]) HJ.out rfl
    · -- 3: Op.indexAddr 22 t12 t13
      intro σ W HJ hdep
      simp [Region.binds] at hdep
      have HJ:=hid HJ
      refine wpOp_plain rfl rfl ?_
      go_simp
      exact Left.mk0 (.pointer (some ⟨b,f+k*4,none⟩)) (by first | rfl | simp [updF, *]) HJ.out rfl
    · -- 4: Op.load 62 t14
      intro σ W HJ hdep
      simp [Region.binds] at hdep
      have HJ:=hid HJ
      have x0:=(HJ.out.cell (p:=⟨b,f+k*4,none⟩) hb1).trans hca.out.1
      have x1:=(HJ.out.cell (p:=⟨b,f+k*4+1,none⟩) hb1).trans hca.out.2.1
      have x2:=(HJ.out.cell (p:=⟨b,f+k*4+2,none⟩) hb1).trans hca.out.2.2.1
      have x3:=(HJ.out.cell (p:=⟨b,f+k*4+3,none⟩) hb1).trans hca.out.2.2.2
      refine wpOp_plain rfl rfl ?_
      go_simp
      exact Left.mk0 (.agg #[.string x.chain,.int .i64 x.trust,.bool x.frozen,.slice ka x.known.length ma]) (by first | rfl | simp [updF, *]) HJ.out rfl
    · -- 5: Op.fieldAddr 28 t5 2
      intro σ W HJ hdep
      simp [Region.binds] at hdep
      have HJ:=hid HJ
      refine wpOp_plain rfl rfl ?_
      go_simp
      exact Left.mk0 (.pointer (some ⟨gs,2,none⟩)) (by first | rfl | simp [updF, *]) HJ.out rfl
    · -- 6: Op.load 3 t16
      intro σ W HJ hdep
      simp [Region.binds] at hdep
      have HJ:=hid HJ
      have kc:=(hrs.out.below HJ.out hrs.out.lt).cell 2
      simp at kc
      refine wpOp_plain rfl rfl ?_
      go_simp
      exact Left.mk0 (.int .i64 s.time) (by first | rfl | simp [updF, *]) HJ.out rfl
    · -- 7: Op.fieldAddr 46 t9 0
      intro σ W HJ hdep
      simp [Region.binds] at hdep
      have HJ:=hid HJ
      refine wpOp_plain rfl rfl ?_
      go_simp
      exact Left.mk0 (.pointer (some ⟨gh,0,none⟩)) (by first | rfl | simp [updF, *]) HJ.out rfl
    · -- 8: Op.load 3 t18
      intro σ W HJ hdep
      simp [Region.binds] at hdep
      have HJ:=hid HJ
      have kc:=(hrh.out.below HJ.out hrh.out.lt).cell 0
      simp at kc
      refine wpOp_plain rfl rfl ?_
      go_simp
      exact Left.mk0 (.int .i64 h.height) (by first | rfl | simp [updF, *]) HJ.out rfl
    · -- 9: Op.move t2
      intro σ W HJ hdep
      simp [Region.binds] at hdep
      have HJ:=hid HJ
      refine wpOp_plain rfl rfl ?_
      go_simp
      exact Left.mk0 (.int .i64 q) (by first | rfl | simp [updF, *]) HJ.out rfl
    · -- 10: Op.call { value (Operand.func 85), args := #[t20], argTypes 
      intro σ W HJ hdep
      simp [Region.binds] at hdep
      have HJ:=hid HJ
      have HC:=hid (connKey_any q hq W (hpow.out.below HJ.out))
      refine wpOp_plain rfl rfl ?_
      go_simp
      refine HC.out.mono ?_
      rintro e w2 ⟨v,rfl,hown,hb2⟩
      exact Left.mk v (by first | rfl | simp [updF, *]) hb2 HJ.out (hown.mono HJ.out.size)
    · -- 11: Op.load 58 t8
      intro σ W HJ hdep
      simp [Region.binds] at hdep
      have HJ:=hid HJ
      have k0:=(hro.out.below HJ.out hro.out.lt).cell 0
      have k1:=(hro.out.below HJ.out hro.out.lt).cell 1
      have k2:=(hro.out.below HJ.out hro.out.lt).cell 2
      have k3:=(hro.out.below HJ.out hro.out.lt).cell 3
      simp at k0
      simp at k1
      simp at k2
      simp at k3
      refine wpOp_plain rfl rfl ?_
      go_simp
      exact Left.mk0 (.agg #[.int .i64 o.state,.int .i64 o.client,.int .i64 o.oclient,.int .i64 o.oconn]) (by first | rfl | simp [updF, *]) HJ.out rfl
    · -- 12: Op.call { value (Operand.func 86), args := #[t22], argTypes 
      intro σ W HJ hdep
      simp [Region.binds] at hdep
      have HJ:=hid HJ
      have HC:=hid (connVal_any o ho.out W)
      refine wpOp_plain rfl rfl ?_
      go_simp
      refine HC.out.mono ?_
      rintro e w2 ⟨v,rfl,hown,hb2⟩
      exact Left.mk v (by first | rfl | simp [updF, *]) hb2 HJ.out (hown.mono HJ.out.size)
    · -- 13: Op.fieldAddr 46 t9 1
      intro σ W HJ hdep
      simp [Region.binds] at hdep
      have HJ:=hid HJ
      refine wpOp_plain rfl rfl ?_
      go_simp
      exact Left.mk0 (.pointer (some ⟨gh,1,none⟩)) (by first | rfl | simp [updF, *]) HJ.out rfl
    · -- 14: Op.load 42 t24
      intro σ W HJ hdep
      simp [Region.binds] at hdep
      have HJ:=hid HJ
      have k1:=(hrh.out.below HJ.out hrh.out.lt).cell 1
      have k2:=(hrh.out.below HJ.out hrh.out.lt).cell 2
      have k3:=(hrh.out.below HJ.out hrh.out.lt).cell 3
      have k4:=(hrh.out.below HJ.out hrh.out.lt).cell 4
      have k5:=(hrh.out.below HJ.out hrh.out.lt).cell 5
      simp at k1
      simp at k2
      simp at k3
      simp at k4
      simp at k5
      refine wpOp_plain rfl rfl ?_
      go_simp
      exact Left.mk0 (.agg #[.int .i64 h.prf.index,.int .i64 h.prf.size,.slice q1 h.prf.key.length e1,.slice q2 h.prf.val.length e2,.slice q3 h.prf.path.length e3]) (by first | rfl | simp [updF, *]) HJ.out rfl
    · -- 15: Op.call { value (Operand.func 101), args := #[t15, t17, t19,
      intro σ W HJ hdep
      simp [Region.binds] at hdep
      have HJ:=hid HJ
      have hkk:Bytes W W.heap.size (σ 10) (keyL kwConn [q.toNat]):=by first | exact hdep.2.2.2.1.bytes | exact hdep.1.bytes | exact hdep.2.1.bytes | exact hdep.2.2.1.bytes
      have hvv:Bytes W W.heap.size (σ 12) (connB o):=by first | exact hdep.2.2.2.2.1.bytes | exact hdep.2.1.bytes | exact hdep.2.2.2.1.bytes
      have d4:=hdep.1
      have d6:=hdep.2.1
      have d8:=hdep.2.2.1
      have d14:=hdep.2.2.2.2.2
      have HC:=hid (MemberC.z memberC x s.time h.height (keyL kwConn [q.toNat]) (connB o) h.prf (.agg #[.string x.chain,.int .i64 x.trust,.bool x.frozen,.slice ka x.known.length ma]) (σ 10) (σ 12) (.agg #[.int .i64 h.prf.index,.int .i64 h.prf.size,.slice q1 h.prf.key.length e1,.slice q2 h.prf.val.length e2,.slice q3 h.prf.path.length e3]) W.heap.size W (htab.out.past HJ.out) (Nat.le_refl _) ((hcv.out.below (HJ.out.mono hN)).mono (Nat.le_trans hN HJ.out.size)) hkk hvv ((hpv.out.below (HJ.out.mono hN)).mono (Nat.le_trans hN HJ.out.size)) hcf.out hkl hvl hpf.out hz.out)
      clear hdep hkk hvv
      refine wpOp_plain rfl rfl ?_
      go_simp
      refine (HC.out).mono ?_
      rintro e w2 ⟨rfl,hb2⟩
      exact Left.mk (.int .i64 z) (by first | rfl | simp [updF, *]) hb2 HJ.out rfl
    · -- 16: Op.assign t26
      intro σ W HJ hdep
      simp [Region.binds] at hdep
      have HJ:=hid HJ
      refine wpOp_plain rfl rfl ?_
      go_simp
      exact Left.mk0 (.int .i64 z) (by first | rfl | simp [updF, *]) HJ.out rfl
  · intro σ w' hb hg
    exact hQ.out σ w' hb (by first | exact ⟨hg 16 (by decide)⟩ | exact hg 16 (by decide))
set_option maxRecDepth 100000 in
set_option maxHeartbeats 4000000 in
/-- what member answers -/
theorem mem_any (s:St) (v hv2:Value) (N:Nat) (w:World) (c q z:Int) (o:Cn) (h:Sh) (hv:StV w N v s) (hh:ShV w N hv2 h) (hN:N≤w.heap.size) (hfit:s.fits) (hhf:h.fits) (htab:tableAt w) (hpow:powAt w) (hc:0≤c∧c<(s.clients.length:Int)) (hq:0≤q∧q≤1000000000000) (ho:wrongCn o=0) (hz:MemberAt s c h (keyL kwConn [q.toNat]) (connB o) z) :
    Calls Tryz.prog 63 #[v,.int .i64 c,.int .i64 q,.agg #[.int .i64 o.state,.int .i64 o.client,.int .i64 o.oclient,.int .i64 o.oconn],hv2] w fun e w'=>e=.returned (.int .i64 z)∧Below w.heap.size w w':=by
  obtain ⟨o1,c1,o2,c2,o3,c3,o4,c4,o5,c5,o6,c6,o7,c7,rfl,hm⟩:=hv.open
  obtain ⟨q1,e1,q2,e2,q3,e3,r1,s1,r2,s2,r3,s3,r4,s4,r5,s5,r6,s6,rfl,hpv⟩:=hh.open
  obtain ⟨k,rfl⟩:∃ k:Nat,c=(k:Int):=⟨c.toNat,by omega⟩
  have hlt:k<s.clients.length:=by omega
  have hlt':(k:Int)<(s.clients.length:Int):=by omega
  obtain ⟨x,hx⟩:∃ x,s.clients[k]?=some x:=⟨_,List.getElem?_eq_getElem hlt⟩
  have HZ:=hid (show ShownN x s.time h.height _ z by have:=hz;unfold MemberAt at this;rw [clAt_some hx] at this;exact this)
  obtain ⟨w0,hw0⟩:∃ w0,((w.alloc (.cells #[.string s.name,.int .i64 s.height,.int .i64 s.time,.slice o1 s.clients.length c1,.slice o2 s.conns.length c2,.slice o3 s.chans.length c3,.slice o4 s.sent.length c4,.slice o5 s.got.length c5,.slice o6 s.acks.length c6,.slice o7 s.purses.length c7] 28)).alloc (.cells #[.int .i64 o.state,.int .i64 o.client,.int .i64 o.oclient,.int .i64 o.oconn] 58)).alloc (.cells #[.int .i64 h.height,.int .i64 h.prf.index,.int .i64 h.prf.size,.slice q1 h.prf.key.length e1,.slice q2 h.prf.val.length e2,.slice q3 h.prf.path.length e3,.bool h.gap.hasL,.bool h.gap.hasR,.int .i64 h.gap.left.index,.int .i64 h.gap.left.size,.slice r1 h.gap.left.key.length s1,.slice r2 h.gap.left.val.length s2,.slice r3 h.gap.left.path.length s3,.int .i64 h.gap.right.index,.int .i64 h.gap.right.size,.slice r4 h.gap.right.key.length s4,.slice r5 h.gap.right.val.length s5,.slice r6 h.gap.right.path.length s6] 46)=w0:=⟨_,rfl⟩
  have hb0:Below w.heap.size w w0:=by rw [← hw0];exact (((Below.refl _ _).alloc (Nat.le_refl _) _).alloc (by simp) _).alloc (by simp;omega) _
  have HB0:=hid hb0
  have HR0:=hid (show Row w0 (w.heap.size) 28 [.string s.name,.int .i64 s.height,.int .i64 s.time,.slice o1 s.clients.length c1,.slice o2 s.conns.length c2,.slice o3 s.chans.length c3,.slice o4 s.sent.length c4,.slice o5 s.got.length c5,.slice o6 s.acks.length c6,.slice o7 s.purses.length c7] by rw [← hw0];exact (((Row.new _ _ _).alloc _).alloc _))
  have HR1:=hid (show Row w0 (w.heap.size+1) 58 [.int .i64 o.state,.int .i64 o.client,.int .i64 o.oclient,.int .i64 o.oconn] by rw [← hw0];exact ((Row.newAt _ _ _ _ (by simp)).alloc _))
  have HR2:=hid (show Row w0 (w.heap.size+2) 46 [.int .i64 h.height,.int .i64 h.prf.index,.int .i64 h.prf.size,.slice q1 h.prf.key.length e1,.slice q2 h.prf.val.length e2,.slice q3 h.prf.path.length e3,.bool h.gap.hasL,.bool h.gap.hasR,.int .i64 h.gap.left.index,.int .i64 h.gap.left.size,.slice r1 h.gap.left.key.length s1,.slice r2 h.gap.left.val.length s2,.slice r3 h.gap.left.path.length s3,.int .i64 h.gap.right.index,.int .i64 h.gap.right.size,.slice r4 h.gap.right.key.length s4,.slice r5 h.gap.right.val.length s5,.slice r6 h.gap.right.path.length s6] by rw [← hw0];exact (Row.newAt _ _ _ _ (by simp)))
  obtain ⟨b,f,rfl,gx⟩:=(hm.below (hb0.mono hN)).clients.spot (by omega)
  obtain ⟨hbN,r,hr,cx⟩:=gx k x hx
  obtain ⟨kc,rfl,hkc⟩:=hr
  obtain ⟨ka,ma,rfl,-⟩:=hkc.shape
  have x0:=cx 0 _ rfl
  have x1:=cx 1 _ rfl
  have x2:=cx 2 _ rfl
  have x3:=cx 3 _ rfl
  simp only [Nat.add_zero] at x0
  have HCA:=hid (show w0.cell? ⟨b,f+k*4,none⟩=some (.string x.chain)∧w0.cell? ⟨b,f+k*4+1,none⟩=some (.int .i64 x.trust)∧w0.cell? ⟨b,f+k*4+2,none⟩=some (.bool x.frozen)∧w0.cell? ⟨b,f+k*4+3,none⟩=some (.slice ka x.known.length ma) from ⟨x0,x1,x2,x3⟩)
  have HCV:=hid (show ClV w0 N (.agg #[.string x.chain,.int .i64 x.trust,.bool x.frozen,.slice ka x.known.length ma]) x from ⟨_,rfl,hkc⟩)
  have HXF:=hid (hfit.2.1.2 x (List.mem_of_getElem? hx))
  have HPV:=hid (hpv.below (hb0.mono hN))
  have HPF:=hid hhf.1
  have HTAB:=hid (htab.past hb0)
  have hbl:b<w0.heap.size:=Nat.lt_of_lt_of_le hbN (Nat.le_trans hN hb0.size)
  have hN0:N≤w0.heap.size:=Nat.le_trans hN hb0.size
  have HPOW:=hid (hpow.below hb0)
  have HO:=hid ho
  have hkl:=conn_key_len q hq
  have hvl:=conn_val_len o ho
  have HW0:=hid hw0
  clear hv hm hw0 gx cx hx hkc x0 x1 x2 x3 hpv hh htab hfit hhf hz hpow ho hb0
  go_enter Tryz.func63,Tryz.ntmps63
  go_upto_region 1 with fail
  rw [HW0.out]
  refine memberR s x k s.clients.length b f c1 ma ka o2 o3 o4 o5 o6 o7 c2 c3 c4 c5 c6 c7 h q z o q1 q2 q3 r1 r2 r3 r4 r5 r6 e1 e2 e3 s1 s2 s3 s4 s5 s6 hN0 HR0 hlt' hbl HCA HCV HR2 HPV HTAB HXF HPF HPOW HR1 hq HO HZ hkl hvl _ (hid ?_)
  intro σ w1 hb1 ea
  have HB1:=hid (HB0.out.trans (hb1.mono HB0.out.size))
  rw [ea]
  clear hb1 ea
  go_wp2
  go_ret
  exact ⟨rfl,HB1.out⟩
end Go.Proofs.YtooemgkjkngpcaaGreatDoor
