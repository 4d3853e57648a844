/-
  PacketNumbers: numbers rise by one.
-/
import Derived.Test.YtclhcjiblfokaaaGreatDoorpnPkNumR
namespace Go.Proofs.YtclhcjiblfokaaaGreatDoor
open Go.RowKit

theorem wrap_one {q : Int} (h1 : 0 ≤ q) (h2 : q < 1000000000000) : IntKind.i64.wrap (q + 1) = q + 1 := by
  simp [IntKind.wrap, IntKind.bits, IntKind.signed]
  omega
theorem sent_two {t : St} {i : Int} {j : Nat} {x : Ch} {d : List (BitVec 8)} {tmo : Int} (hj : i = (j : Int)) (hx : t.chans[j]? = some x.sent1) (h : sendN t i d tmo = 0) (hf : t.fits) : (sendPk t i d tmo).seq = x.send + 1 ∧ t.sent.length ≤ (sentS t (sendPk t i d tmo)).sent.length := by
  obtain ⟨-, -, -, -, -, -, -, -, -, hl⟩ := sent_num h hf
  refine ⟨?_, hl⟩
  show (chAt t i).send = _
  rw [hj, chAt_some hx]
  rfl
set_option maxRecDepth 100000 in
set_option maxHeartbeats 16000000 in
theorem packetNumbers_any (s : St) (v d1 d2 pv av hv2 : Value) (one two : List (BitVec 8)) (p : Pk) (ack : List (BitVec 8)) (i tmo : Int) (h : Sh) (N : Nat) (w : World) (hpow : powAt w) (htab : tableAt w) (hN : N ≤ w.heap.size) (hv : StV w N v s) (hd1 : Bytes w N d1 one) (hd2 : Bytes w N d2 two) (hp : PkV w N pv p) (ha : Bytes w N av ack) (hh : ShV w N hv2 h) (hfit : s.fits) (hl1 : one.length ≤ 140737488351232) (hl2 : two.length ≤ 140737488351232) (hal : ack.length ≤ 140737488351232) (hhf : h.fits) :
    Calls Tryz.prog 5 #[v, .int .i64 i, d1, d2, .int .i64 tmo, pv, av, hv2] w fun e w' => e = .returned (.bool true) ∧ Below w.heap.size w w' := by
  have HVS := hid (fun W (hx : Below w.heap.size w W) => (hv.below (hx.mono hN)).mono (Nat.le_trans hN hx.size))
  have HRC := hid (fun W v t z (hx : Below w.heap.size w W) (hv : StV W W.heap.size v t) (hf : t.fits) (hz : askRecv t p h z) => precvC t v pv av hv2 p ack h W.heap.size W z hv ((hp.below (hx.mono hN)).mono (Nat.le_trans hN hx.size)) ((ha.below (hx.mono hN)).mono (Nat.le_trans hN hx.size)) ((hh.below (hx.mono hN)).mono (Nat.le_trans hN hx.size)) (Nat.le_refl _) hf hhf hal (htab.past hx) (hpow.below hx) hz)
  have HAL := hid (fun W (hx : Below w.heap.size w W) => alive11_any W (htab.past hx))
  have HSA := hid (fun W v t (hx : Below w.heap.size w W) (hv : StV W W.heap.size v t) (hf : t.fits) => psendC t v d1 one W.heap.size W i tmo hv ((hd1.below (hx.mono hN)).mono (Nat.le_trans hN hx.size)) (Nat.le_refl _) hf hl1 (htab.past hx))
  have HSB := hid (fun W v t (hx : Below w.heap.size w W) (hv : StV W W.heap.size v t) (hf : t.fits) => psendC t v d2 two W.heap.size W i tmo hv ((hd2.below (hx.mono hN)).mono (Nat.le_trans hN hx.size)) (Nat.le_refl _) hf hl2 (htab.past hx))
  obtain ⟨zr, hzr⟩ := askRecv_some s p h
  have HZR := hid hzr
  have HFIT := hid hfit
  have HGR := hid (fun (hz : recvN s p ack.length zr = 0) => recv_num (recvN_zero hz))
  have HGS := hid (fun (hz : sendN s i one tmo = 0) => sent_num hz hfit)
  obtain ⟨o1, c1, o2, c2, o3, c3, o4, c4, o5, c5, o6, c6, o7, c7, rfl, hm⟩ := hv.open
  have HCH := hid (fun j x (hx : s.chans[j]? = some x) => hm.chans.chan rfl hx)
  obtain ⟨odd, cdd, rfl, hdd⟩ := hp.open
  obtain ⟨oa, ca, rfl, -⟩ := ha.shape
  obtain ⟨oe, ce, rfl, -⟩ := hd1.shape
  obtain ⟨og, cg, rfl, -⟩ := hd2.shape
  obtain ⟨q1, e1, q2, e2, q3, e3, r1, s1, r2, s2, r3, s3, r4, s4, r5, s5, r6, s6, rfl, -⟩ := hh.open
  clear hv hp ha hh hm hdd hfit hhf htab hpow hzr hal hd1 hd2 hl1 hl2
  go_enter Tryz.func5, Tryz.ntmps5
  go_upto_region 1 with fail
  refine fbox3 ?_
  intro w0 F0 hs0
  go_wp2_with fail
  refine (HAL.out w0 F0.b).mono ?_
  rintro e w1 ⟨rfl, hb1⟩
  have F1 := F0.go hb1
  clear hb1 hs0 F0 HAL
  go_wp2_with (refine F1.load 0 rfl rfl rfl rfl structState ?_)
  refine (HSA.out w1 _ s F1.b (HVS.out w1 F1.b) HFIT.out).mono ?_
  rintro e waa ⟨hb, va, pa, rfl, hh, hpp⟩
  obtain ⟨q0a, q1a, q2a, q3a, q4a, q5a, oa, ca, q7a, q8a, q9a, rfl, hon⟩ := hh.now.sent10
  obtain ⟨oda, cda, rfl, -⟩ := hpp.now.open
  have FAa := F1.go hb
  have HHa := hid hh
  have HONa := hid hon
  clear hb hh hon hpp
  go_upto_region 4 with (first | (refine ((FAa.addAt (g := waa.heap.size) (t := 28) (cs := [.string ⟨#[]⟩, .int .i64 0, .int .i64 0, .slice none 0 0, .slice none 0 0, .slice none 0 0, .slice none 0 0, .slice none 0 0, .slice none 0 0, .slice none 0 0]) rfl).addAt (g := waa.heap.size + 1) (t := 31) (cs := [.int .i64 0, .int .i64 0, .int .i64 0, .slice none 0 0, .int .i64 0]) (by simp)).store 3 rfl rfl rfl rfl rfl structState rfl HONa.out ?_; intro wba FBa OBa) | (refine FBa.store 4 rfl rfl rfl rfl rfl structPacket rfl (by simp [Value.oneCell']) ?_; intro wa Fa OCa))
  have HVa := hid (HHa.out.below (two_new OBa OCa)).now
  clear HHa HONa FAa FBa OBa OCa
  by_cases hz : sendN s i one tmo = 0
  · obtain ⟨j, x, hj, hx, hca, hsn, hft, -, hx1, -⟩ := HGS.out hz
    rw [show sendS s i one tmo = (sentS s (sendPk s i one tmo)) from if_pos hz] at HVa Fa
    have hq : (sendP s i one tmo).seq = x.send := by rw [show sendP s i one tmo = sendPk s i one tmo from if_pos hz]; show (chAt s i).send = _; rw [hca]
    obtain ⟨bA, fA, hob, hbb, -, -, -, -, x4, -⟩ := HCH.out j x hx
    subst hob
    rw [hz]
    have hlt : (j : Int) < (s.chans.length : Int) := by have := (List.getElem?_eq_some_iff.1 hx).1; omega
    rw [hq] at Fa
    have HS2 := hid (fun (hz2 : sendN (sentS s (sendPk s i one tmo)) i two tmo = 0) => sent_two hj hx1 hz2 hft)
    have HX4 := hid x4
    have HBB := hid hbb
    have HFT := hid hft
    have HSN := hid hsn
    have HJ := hid hj
    clear hz hj hx hca hsn hft hx1 hq x4 hbb
    go_wp2_with (refine Fa.load 3 rfl rfl rfl rfl structState ?_)
    refine (HSB.out wa _ (sentS s (sendPk s i one tmo)) Fa.b HVa.out HFT.out).mono ?_
    rintro e wab ⟨hb, va, pa, rfl, hh, hpp⟩
    obtain ⟨q0b, q1b, q2b, q3b, q4b, q5b, ob, cb, q7b, q8b, q9b, rfl, hon⟩ := hh.now.sent10
    obtain ⟨odb, cdb, rfl, -⟩ := hpp.now.open
    have FAb := Fa.go hb
    have HHb := hid hh
    have HONb := hid hon
    clear hb hh hon hpp
    go_upto_region 6 with (first | (refine ((FAb.addAt (g := wab.heap.size) (t := 28) (cs := [.string ⟨#[]⟩, .int .i64 0, .int .i64 0, .slice none 0 0, .slice none 0 0, .slice none 0 0, .slice none 0 0, .slice none 0 0, .slice none 0 0, .slice none 0 0]) rfl).addAt (g := wab.heap.size + 1) (t := 31) (cs := [.int .i64 0, .int .i64 0, .int .i64 0, .slice none 0 0, .int .i64 0]) (by simp)).store 5 rfl rfl rfl rfl rfl structState rfl HONb.out ?_; intro wbb FBb OBb) | (refine FBb.store 6 rfl rfl rfl rfl rfl structPacket rfl (by simp [Value.oneCell']) ?_; intro wb Fb OCb))
    have HVb := hid (HHb.out.below (two_new OBb OCb)).now
    clear HHb HONb FAb FBb OBb OCb
    have hx4 := (Fb.b.cell (Nat.lt_of_lt_of_le HBB.out hN)).trans HX4.out
    by_cases hz2 : sendN (sentS s (sendPk s i one tmo)) i two tmo = 0
    · obtain ⟨hq2, hl2⟩ := HS2.out hz2
      rw [show sendP (sentS s (sendPk s i one tmo)) i two tmo = sendPk (sentS s (sendPk s i one tmo)) i two tmo from if_pos hz2, hq2] at Fb
      rw [show sendS (sentS s (sendPk s i one tmo)) i two tmo = sentS (sentS s (sendPk s i one tmo)) (sendPk (sentS s (sendPk s i one tmo)) i two tmo) from if_pos hz2] at Fb
      rw [hz2, HJ.out]
      clear hz2 hq2 HS2 HFT HVa HVb
      refine numR6b (hid Fb.r0) (hid Fb.r4) (hid Fb.r3) (hid Fb.r5) (hid Fb.r6) hlt (by have := HBB.out; have := Fb.b.size; omega) (hid hx4) (by have := HSN.out; exact wrap_one this.1 this.2) (by have := hl2; omega) _ (hid ?_)
      intro σ w6 hb6 e6
      have F6 := Fb.go hb6
      rw [e6]
      clear e6 hb6 hlt hl2 hx4 HSN HJ HX4
      go_wp2_with (first | refine F6.load 0 rfl rfl rfl rfl structState ?_ | refine F6.load 1 rfl rfl rfl rfl structPacket ?_ | refine F6.load 2 rfl rfl rfl rfl structShown ?_)
      refine (HRC.out w6 _ s zr F6.b (HVS.out w6 F6.b) HFIT.out HZR.out).mono ?_
      rintro e war ⟨hb, va, rfl, hh⟩
      have FAr := F6.go hb
      have HHr := hid hh
      clear hb hh
      by_cases hz : recvN s p ack.length zr = 0
      · obtain ⟨j, x, hj, hx, hrv, h1, h2, hlen⟩ := HGR.out hz
        have HHT := hid (show HoldsS _ _ war va (gotS s p ack) from (show recvS s p ack zr = gotS s p ack from if_pos hz) ▸ HHr.out)
        obtain ⟨b, f, hob, hbb, x0, x1, x2, x3, x4, x5, x6⟩ := HCH.out j x hx
        obtain ⟨rfl, rfl⟩ : bA = b ∧ fA = f := by simpa using hob
        rw [hz]
        rw [hj] at FAr
        have hlt : (j : Int) < (s.chans.length : Int) := by have := (List.getElem?_eq_some_iff.1 hx).1; omega
        have HX := hid (And.intro x0 (And.intro x1 (And.intro x2 (And.intro x3 (And.intro x4 (And.intro x5 x6))))))
        have HBB := hid hbb
        have HRV := hid hrv
        have HLN := hid hlen
        clear x0 x1 x2 x3 x4 x5 x6 hbb hz hrv hlen HHr hx
        cases ho : x.ordered with
        | true =>
          obtain ⟨hsq, hg⟩ := h1 ho
          rw [hsq] at FAr
          rw [ho] at HX
          clear h1 h2 hsq
          obtain ⟨a0, a1, a2, a3, a4, b', f', c', a6, a7, a8, a9, rfl, hon, -⟩ := HHT.out.now.chans10 hg
          have HON := hid hon
          clear hon
          go_upto_region 9 with (refine FAr.storeNew rfl rfl rfl rfl structState rfl HON.out ?_; intro wr Fr hbr)
          have HVr := hid (HHT.out.below hbr).now
          have HBx := hid (Fr.b)
          clear hbr FAr HHT HON
          have k5 := Fr.r0.k10.2.2.2.2.2.1
          have m1 := Fr.r1.k5.2.1
          obtain ⟨x0, x1, x2, x3, x4, x5, x6⟩ := HX.out
          replace x0 := (Fr.b.cell (Nat.lt_of_lt_of_le HBB.out hN)).trans x0
          replace x1 := (Fr.b.cell (Nat.lt_of_lt_of_le HBB.out hN)).trans x1
          replace x2 := (Fr.b.cell (Nat.lt_of_lt_of_le HBB.out hN)).trans x2
          replace x3 := (Fr.b.cell (Nat.lt_of_lt_of_le HBB.out hN)).trans x3
          replace x4 := (Fr.b.cell (Nat.lt_of_lt_of_le HBB.out hN)).trans x4
          replace x5 := (Fr.b.cell (Nat.lt_of_lt_of_le HBB.out hN)).trans x5
          replace x6 := (Fr.b.cell (Nat.lt_of_lt_of_le HBB.out hN)).trans x6
          go_upto_region 12 with fail
          refine Fr.box ?_
          intro wcr Fcr hsc hbc
          clear x0 x1 x2 x3 x4 x5 x6 k5 m1
          have HVc := hid ((HVr.out.below hbc).mono hbc.size)
          obtain ⟨y0, y1, y2, y3, y4, b2, f2, c2, y6, y7, y8, y9, ev, -, hb2, z0, z1, z2, z3, z4, z5, z6⟩ := HVc.out.chans10 hg
          simp only [Value.agg.injEq, Array.mk.injEq, List.cons.injEq, Value.slice.injEq, Option.some.injEq, Addr.mk.injEq, and_true, true_and] at ev
          obtain ⟨rfl, rfl, rfl, rfl, rfl, ⟨⟨rfl, rfl⟩, rfl⟩, rfl, rfl, rfl, rfl⟩ := ev
          have n1 := Fcr.r8.k7.2.1
          have hlt2 : (j : Int) < ((gotS s p ack).chans.length : Int) := by rw [HLN.out]; exact hlt
          clear HVc HVr hbc hsc
          go_upto_region 14 with fail
          clear n1
          refine numR14 (hid Fcr.r7) (hid Fcr.r1) (hid Fcr.r8) hlt2 hb2 (hid z5) (by have := HRV.out; exact wrap_one this.1 this.2) _ (hid ?_)
          intro σ w9 hb9 e9
          have F9 := Fcr.go hb9
          rw [e9]
          clear e9 hb9 hlt hlt2 z0 z1 z2 z3 z4 z5 z6
          go_wp2
          go_ret
          exact ⟨rfl, F9.b⟩
        | false =>
          have hg := h2 ho
          rw [ho] at HX
          clear h1 h2
          obtain ⟨a0, a1, a2, a3, a4, b', f', c', a6, a7, a8, a9, rfl, hon, -⟩ := HHT.out.now.chans10 hg
          have HON := hid hon
          clear hon
          go_upto_region 9 with (refine FAr.storeNew rfl rfl rfl rfl structState rfl HON.out ?_; intro wr Fr hbr)
          have HVr := hid (HHT.out.below hbr).now
          have HBx := hid (Fr.b)
          clear hbr FAr HHT HON
          have k5 := Fr.r0.k10.2.2.2.2.2.1
          have m1 := Fr.r1.k5.2.1
          obtain ⟨x0, x1, x2, x3, x4, x5, x6⟩ := HX.out
          replace x0 := (Fr.b.cell (Nat.lt_of_lt_of_le HBB.out hN)).trans x0
          replace x1 := (Fr.b.cell (Nat.lt_of_lt_of_le HBB.out hN)).trans x1
          replace x2 := (Fr.b.cell (Nat.lt_of_lt_of_le HBB.out hN)).trans x2
          replace x3 := (Fr.b.cell (Nat.lt_of_lt_of_le HBB.out hN)).trans x3
          replace x4 := (Fr.b.cell (Nat.lt_of_lt_of_le HBB.out hN)).trans x4
          replace x5 := (Fr.b.cell (Nat.lt_of_lt_of_le HBB.out hN)).trans x5
          replace x6 := (Fr.b.cell (Nat.lt_of_lt_of_le HBB.out hN)).trans x6
          go_upto_region 12 with fail
          refine Fr.box ?_
          intro wcr Fcr hsc hbc
          clear x0 x1 x2 x3 x4 x5 x6 k5 m1
          have HVc := hid ((HVr.out.below hbc).mono hbc.size)
          obtain ⟨y0, y1, y2, y3, y4, b2, f2, c2, y6, y7, y8, y9, ev, -, hb2, z0, z1, z2, z3, z4, z5, z6⟩ := HVc.out.chans10 hg
          simp only [Value.agg.injEq, Array.mk.injEq, List.cons.injEq, Value.slice.injEq, Option.some.injEq, Addr.mk.injEq, and_true, true_and] at ev
          obtain ⟨rfl, rfl, rfl, rfl, rfl, ⟨⟨rfl, rfl⟩, rfl⟩, rfl, rfl, rfl, rfl⟩ := ev
          have n1 := Fcr.r8.k7.2.1
          have hlt2 : (j : Int) < ((gotS s p ack).chans.length : Int) := by rw [HLN.out]; exact hlt
          clear HVc HVr hbc hsc
          go_upto_region 13 with fail
          clear n1
          rw [ho] at z1
          refine numR13 (hid Fcr.r7) (hid Fcr.r1) (hid Fcr.r8) hlt2 hb2 (hid ⟨z0, z1, z2, z3, z4, z5, z6⟩) _ (hid ?_)
          intro σ w9 hb9 e9
          have F9 := Fcr.go hb9
          rw [e9]
          clear e9 hb9 hlt hlt2 z0 z1 z2 z3 z4 z5 z6
          go_wp2
          go_ret
          exact ⟨rfl, F9.b⟩
      · have e0 : (recvN s p ack.length zr != 0) = true := by simpa using hz
        clear hz
        obtain ⟨z0r, z1r, z2r, z3r, z4r, z5r, z6r, z7r, z8r, z9r, rfl, hon⟩ := HHr.out.now.ten
        have HON := hid hon
        clear hon HHr
        go_upto_region 9 with (refine FAr.storeNew rfl rfl rfl rfl structState rfl HON.out ?_; intro wr Fr hbr)
        go_wp2
        go_ret
        exact ⟨rfl, Fr.b⟩
    · have e0 : (sendN (sentS s (sendPk s i one tmo)) i two tmo == 0) = false := by simpa using hz2
      rw [HJ.out] at e0
      rw [HJ.out]
      clear hz2 HS2 HFT HVa HVb
      refine numR6a (hid Fb.r0) (hid Fb.r4) hlt (by have := HBB.out; have := Fb.b.size; omega) (hid hx4) e0 _ (hid ?_)
      intro σ w6 hb6 e6
      have F6 := Fb.go hb6
      rw [e6]
      clear e6 hb6 hlt hx4 HSN HJ HX4 e0
      go_wp2_with (first | refine F6.load 0 rfl rfl rfl rfl structState ?_ | refine F6.load 1 rfl rfl rfl rfl structPacket ?_ | refine F6.load 2 rfl rfl rfl rfl structShown ?_)
      refine (HRC.out w6 _ s zr F6.b (HVS.out w6 F6.b) HFIT.out HZR.out).mono ?_
      rintro e war ⟨hb, va, rfl, hh⟩
      have FAr := F6.go hb
      have HHr := hid hh
      clear hb hh
      by_cases hz : recvN s p ack.length zr = 0
      · obtain ⟨j, x, hj, hx, hrv, h1, h2, hlen⟩ := HGR.out hz
        have HHT := hid (show HoldsS _ _ war va (gotS s p ack) from (show recvS s p ack zr = gotS s p ack from if_pos hz) ▸ HHr.out)
        obtain ⟨b, f, hob, hbb, x0, x1, x2, x3, x4, x5, x6⟩ := HCH.out j x hx
        obtain ⟨rfl, rfl⟩ : bA = b ∧ fA = f := by simpa using hob
        rw [hz]
        rw [hj] at FAr
        have hlt : (j : Int) < (s.chans.length : Int) := by have := (List.getElem?_eq_some_iff.1 hx).1; omega
        have HX := hid (And.intro x0 (And.intro x1 (And.intro x2 (And.intro x3 (And.intro x4 (And.intro x5 x6))))))
        have HBB := hid hbb
        have HRV := hid hrv
        have HLN := hid hlen
        clear x0 x1 x2 x3 x4 x5 x6 hbb hz hrv hlen HHr hx
        cases ho : x.ordered with
        | true =>
          obtain ⟨hsq, hg⟩ := h1 ho
          rw [hsq] at FAr
          rw [ho] at HX
          clear h1 h2 hsq
          obtain ⟨a0, a1, a2, a3, a4, b', f', c', a6, a7, a8, a9, rfl, hon, -⟩ := HHT.out.now.chans10 hg
          have HON := hid hon
          clear hon
          go_upto_region 9 with (refine FAr.storeNew rfl rfl rfl rfl structState rfl HON.out ?_; intro wr Fr hbr)
          have HVr := hid (HHT.out.below hbr).now
          have HBx := hid (Fr.b)
          clear hbr FAr HHT HON
          have k5 := Fr.r0.k10.2.2.2.2.2.1
          have m1 := Fr.r1.k5.2.1
          obtain ⟨x0, x1, x2, x3, x4, x5, x6⟩ := HX.out
          replace x0 := (Fr.b.cell (Nat.lt_of_lt_of_le HBB.out hN)).trans x0
          replace x1 := (Fr.b.cell (Nat.lt_of_lt_of_le HBB.out hN)).trans x1
          replace x2 := (Fr.b.cell (Nat.lt_of_lt_of_le HBB.out hN)).trans x2
          replace x3 := (Fr.b.cell (Nat.lt_of_lt_of_le HBB.out hN)).trans x3
          replace x4 := (Fr.b.cell (Nat.lt_of_lt_of_le HBB.out hN)).trans x4
          replace x5 := (Fr.b.cell (Nat.lt_of_lt_of_le HBB.out hN)).trans x5
          replace x6 := (Fr.b.cell (Nat.lt_of_lt_of_le HBB.out hN)).trans x6
          go_upto_region 12 with fail
          refine Fr.box ?_
          intro wcr Fcr hsc hbc
          clear x0 x1 x2 x3 x4 x5 x6 k5 m1
          have HVc := hid ((HVr.out.below hbc).mono hbc.size)
          obtain ⟨y0, y1, y2, y3, y4, b2, f2, c2, y6, y7, y8, y9, ev, -, hb2, z0, z1, z2, z3, z4, z5, z6⟩ := HVc.out.chans10 hg
          simp only [Value.agg.injEq, Array.mk.injEq, List.cons.injEq, Value.slice.injEq, Option.some.injEq, Addr.mk.injEq, and_true, true_and] at ev
          obtain ⟨rfl, rfl, rfl, rfl, rfl, ⟨⟨rfl, rfl⟩, rfl⟩, rfl, rfl, rfl, rfl⟩ := ev
          have n1 := Fcr.r8.k7.2.1
          have hlt2 : (j : Int) < ((gotS s p ack).chans.length : Int) := by rw [HLN.out]; exact hlt
          clear HVc HVr hbc hsc
          go_upto_region 14 with fail
          clear n1
          refine numR14 (hid Fcr.r7) (hid Fcr.r1) (hid Fcr.r8) hlt2 hb2 (hid z5) (by have := HRV.out; exact wrap_one this.1 this.2) _ (hid ?_)
          intro σ w9 hb9 e9
          have F9 := Fcr.go hb9
          rw [e9]
          clear e9 hb9 hlt hlt2 z0 z1 z2 z3 z4 z5 z6
          go_wp2
          go_ret
          exact ⟨rfl, F9.b⟩
        | false =>
          have hg := h2 ho
          rw [ho] at HX
          clear h1 h2
          obtain ⟨a0, a1, a2, a3, a4, b', f', c', a6, a7, a8, a9, rfl, hon, -⟩ := HHT.out.now.chans10 hg
          have HON := hid hon
          clear hon
          go_upto_region 9 with (refine FAr.storeNew rfl rfl rfl rfl structState rfl HON.out ?_; intro wr Fr hbr)
          have HVr := hid (HHT.out.below hbr).now
          have HBx := hid (Fr.b)
          clear hbr FAr HHT HON
          have k5 := Fr.r0.k10.2.2.2.2.2.1
          have m1 := Fr.r1.k5.2.1
          obtain ⟨x0, x1, x2, x3, x4, x5, x6⟩ := HX.out
          replace x0 := (Fr.b.cell (Nat.lt_of_lt_of_le HBB.out hN)).trans x0
          replace x1 := (Fr.b.cell (Nat.lt_of_lt_of_le HBB.out hN)).trans x1
          replace x2 := (Fr.b.cell (Nat.lt_of_lt_of_le HBB.out hN)).trans x2
          replace x3 := (Fr.b.cell (Nat.lt_of_lt_of_le HBB.out hN)).trans x3
          replace x4 := (Fr.b.cell (Nat.lt_of_lt_of_le HBB.out hN)).trans x4
          replace x5 := (Fr.b.cell (Nat.lt_of_lt_of_le HBB.out hN)).trans x5
          replace x6 := (Fr.b.cell (Nat.lt_of_lt_of_le HBB.out hN)).trans x6
          go_upto_region 12 with fail
          refine Fr.box ?_
          intro wcr Fcr hsc hbc
          clear x0 x1 x2 x3 x4 x5 x6 k5 m1
          have HVc := hid ((HVr.out.below hbc).mono hbc.size)
          obtain ⟨y0, y1, y2, y3, y4, b2, f2, c2, y6, y7, y8, y9, ev, -, hb2, z0, z1, z2, z3, z4, z5, z6⟩ := HVc.out.chans10 hg
          simp only [Value.agg.injEq, Array.mk.injEq, List.cons.injEq, Value.slice.injEq, Option.some.injEq, Addr.mk.injEq, and_true, true_and] at ev
          obtain ⟨rfl, rfl, rfl, rfl, rfl, ⟨⟨rfl, rfl⟩, rfl⟩, rfl, rfl, rfl, rfl⟩ := ev
          have n1 := Fcr.r8.k7.2.1
          have hlt2 : (j : Int) < ((gotS s p ack).chans.length : Int) := by rw [HLN.out]; exact hlt
          clear HVc HVr hbc hsc
          go_upto_region 13 with fail
          clear n1
          rw [ho] at z1
          refine numR13 (hid Fcr.r7) (hid Fcr.r1) (hid Fcr.r8) hlt2 hb2 (hid ⟨z0, z1, z2, z3, z4, z5, z6⟩) _ (hid ?_)
          intro σ w9 hb9 e9
          have F9 := Fcr.go hb9
          rw [e9]
          clear e9 hb9 hlt hlt2 z0 z1 z2 z3 z4 z5 z6
          go_wp2
          go_ret
          exact ⟨rfl, F9.b⟩
      · have e0 : (recvN s p ack.length zr != 0) = true := by simpa using hz
        clear hz
        obtain ⟨z0r, z1r, z2r, z3r, z4r, z5r, z6r, z7r, z8r, z9r, rfl, hon⟩ := HHr.out.now.ten
        have HON := hid hon
        clear hon HHr
        go_upto_region 9 with (refine FAr.storeNew rfl rfl rfl rfl structState rfl HON.out ?_; intro wr Fr hbr)
        go_wp2
        go_ret
        exact ⟨rfl, Fr.b⟩
  · have e0 : (sendN s i one tmo == 0) = false := by simpa using hz
    clear hz HVa
    go_wp2_with (first | refine Fa.load 0 rfl rfl rfl rfl structState ?_ | refine Fa.load 1 rfl rfl rfl rfl structPacket ?_ | refine Fa.load 2 rfl rfl rfl rfl structShown ?_)
    refine (HRC.out wa _ s zr Fa.b (HVS.out wa Fa.b) HFIT.out HZR.out).mono ?_
    rintro e war ⟨hb, va, rfl, hh⟩
    have FAr := Fa.go hb
    have HHr := hid hh
    clear hb hh
    by_cases hz : recvN s p ack.length zr = 0
    · obtain ⟨j, x, hj, hx, hrv, h1, h2, hlen⟩ := HGR.out hz
      have HHT := hid (show HoldsS _ _ war va (gotS s p ack) from (show recvS s p ack zr = gotS s p ack from if_pos hz) ▸ HHr.out)
      obtain ⟨b, f, hob, hbb, x0, x1, x2, x3, x4, x5, x6⟩ := HCH.out j x hx
      subst hob
      rw [hz]
      rw [hj] at FAr
      have hlt : (j : Int) < (s.chans.length : Int) := by have := (List.getElem?_eq_some_iff.1 hx).1; omega
      have HX := hid (And.intro x0 (And.intro x1 (And.intro x2 (And.intro x3 (And.intro x4 (And.intro x5 x6))))))
      have HBB := hid hbb
      have HRV := hid hrv
      have HLN := hid hlen
      clear x0 x1 x2 x3 x4 x5 x6 hbb hz hrv hlen HHr hx
      cases ho : x.ordered with
      | true =>
        obtain ⟨hsq, hg⟩ := h1 ho
        rw [hsq] at FAr
        rw [ho] at HX
        clear h1 h2 hsq
        obtain ⟨a0, a1, a2, a3, a4, b', f', c', a6, a7, a8, a9, rfl, hon, -⟩ := HHT.out.now.chans10 hg
        have HON := hid hon
        clear hon
        go_upto_region 9 with (refine FAr.storeNew rfl rfl rfl rfl structState rfl HON.out ?_; intro wr Fr hbr)
        have HVr := hid (HHT.out.below hbr).now
        have HBx := hid (Fr.b)
        clear hbr FAr HHT HON
        have k5 := Fr.r0.k10.2.2.2.2.2.1
        have m1 := Fr.r1.k5.2.1
        obtain ⟨x0, x1, x2, x3, x4, x5, x6⟩ := HX.out
        replace x0 := (Fr.b.cell (Nat.lt_of_lt_of_le HBB.out hN)).trans x0
        replace x1 := (Fr.b.cell (Nat.lt_of_lt_of_le HBB.out hN)).trans x1
        replace x2 := (Fr.b.cell (Nat.lt_of_lt_of_le HBB.out hN)).trans x2
        replace x3 := (Fr.b.cell (Nat.lt_of_lt_of_le HBB.out hN)).trans x3
        replace x4 := (Fr.b.cell (Nat.lt_of_lt_of_le HBB.out hN)).trans x4
        replace x5 := (Fr.b.cell (Nat.lt_of_lt_of_le HBB.out hN)).trans x5
        replace x6 := (Fr.b.cell (Nat.lt_of_lt_of_le HBB.out hN)).trans x6
        go_upto_region 12 with fail
        refine Fr.box ?_
        intro wcr Fcr hsc hbc
        clear x0 x1 x2 x3 x4 x5 x6 k5 m1
        have HVc := hid ((HVr.out.below hbc).mono hbc.size)
        obtain ⟨y0, y1, y2, y3, y4, b2, f2, c2, y6, y7, y8, y9, ev, -, hb2, z0, z1, z2, z3, z4, z5, z6⟩ := HVc.out.chans10 hg
        simp only [Value.agg.injEq, Array.mk.injEq, List.cons.injEq, Value.slice.injEq, Option.some.injEq, Addr.mk.injEq, and_true, true_and] at ev
        obtain ⟨rfl, rfl, rfl, rfl, rfl, ⟨⟨rfl, rfl⟩, rfl⟩, rfl, rfl, rfl, rfl⟩ := ev
        have n1 := Fcr.r6.k7.2.1
        have hlt2 : (j : Int) < ((gotS s p ack).chans.length : Int) := by rw [HLN.out]; exact hlt
        clear HVc HVr hbc hsc
        go_upto_region 14 with fail
        clear n1
        refine numR14 (hid Fcr.r5) (hid Fcr.r1) (hid Fcr.r6) hlt2 hb2 (hid z5) (by have := HRV.out; exact wrap_one this.1 this.2) _ (hid ?_)
        intro σ w9 hb9 e9
        have F9 := Fcr.go hb9
        rw [e9]
        clear e9 hb9 hlt hlt2 z0 z1 z2 z3 z4 z5 z6
        go_wp2
        go_ret
        exact ⟨rfl, F9.b⟩
      | false =>
        have hg := h2 ho
        rw [ho] at HX
        clear h1 h2
        obtain ⟨a0, a1, a2, a3, a4, b', f', c', a6, a7, a8, a9, rfl, hon, -⟩ := HHT.out.now.chans10 hg
        have HON := hid hon
        clear hon
        go_upto_region 9 with (refine FAr.storeNew rfl rfl rfl rfl structState rfl HON.out ?_; intro wr Fr hbr)
        have HVr := hid (HHT.out.below hbr).now
        have HBx := hid (Fr.b)
        clear hbr FAr HHT HON
        have k5 := Fr.r0.k10.2.2.2.2.2.1
        have m1 := Fr.r1.k5.2.1
        obtain ⟨x0, x1, x2, x3, x4, x5, x6⟩ := HX.out
        replace x0 := (Fr.b.cell (Nat.lt_of_lt_of_le HBB.out hN)).trans x0
        replace x1 := (Fr.b.cell (Nat.lt_of_lt_of_le HBB.out hN)).trans x1
        replace x2 := (Fr.b.cell (Nat.lt_of_lt_of_le HBB.out hN)).trans x2
        replace x3 := (Fr.b.cell (Nat.lt_of_lt_of_le HBB.out hN)).trans x3
        replace x4 := (Fr.b.cell (Nat.lt_of_lt_of_le HBB.out hN)).trans x4
        replace x5 := (Fr.b.cell (Nat.lt_of_lt_of_le HBB.out hN)).trans x5
        replace x6 := (Fr.b.cell (Nat.lt_of_lt_of_le HBB.out hN)).trans x6
        go_upto_region 12 with fail
        refine Fr.box ?_
        intro wcr Fcr hsc hbc
        clear x0 x1 x2 x3 x4 x5 x6 k5 m1
        have HVc := hid ((HVr.out.below hbc).mono hbc.size)
        obtain ⟨y0, y1, y2, y3, y4, b2, f2, c2, y6, y7, y8, y9, ev, -, hb2, z0, z1, z2, z3, z4, z5, z6⟩ := HVc.out.chans10 hg
        simp only [Value.agg.injEq, Array.mk.injEq, List.cons.injEq, Value.slice.injEq, Option.some.injEq, Addr.mk.injEq, and_true, true_and] at ev
        obtain ⟨rfl, rfl, rfl, rfl, rfl, ⟨⟨rfl, rfl⟩, rfl⟩, rfl, rfl, rfl, rfl⟩ := ev
        have n1 := Fcr.r6.k7.2.1
        have hlt2 : (j : Int) < ((gotS s p ack).chans.length : Int) := by rw [HLN.out]; exact hlt
        clear HVc HVr hbc hsc
        go_upto_region 13 with fail
        clear n1
        rw [ho] at z1
        refine numR13 (hid Fcr.r5) (hid Fcr.r1) (hid Fcr.r6) hlt2 hb2 (hid ⟨z0, z1, z2, z3, z4, z5, z6⟩) _ (hid ?_)
        intro σ w9 hb9 e9
        have F9 := Fcr.go hb9
        rw [e9]
        clear e9 hb9 hlt hlt2 z0 z1 z2 z3 z4 z5 z6
        go_wp2
        go_ret
        exact ⟨rfl, F9.b⟩
    · have e0 : (recvN s p ack.length zr != 0) = true := by simpa using hz
      clear hz
      obtain ⟨z0r, z1r, z2r, z3r, z4r, z5r, z6r, z7r, z8r, z9r, rfl, hon⟩ := HHr.out.now.ten
      have HON := hid hon
      clear hon HHr
      go_upto_region 9 with (refine FAr.storeNew rfl rfl rfl rfl structState rfl HON.out ?_; intro wr Fr hbr)
      go_wp2
      go_ret
      exact ⟨rfl, Fr.b⟩
end Go.Proofs.YtclhcjiblfokaaaGreatDoor
