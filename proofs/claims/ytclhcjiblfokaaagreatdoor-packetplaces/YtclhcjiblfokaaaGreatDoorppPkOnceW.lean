/-
  PacketOnce: what was received is refused, what was settled is not there any more.
-/
import Derived.Test.YtclhcjiblfokaaaGreatDoorppCoLive
import Derived.Test.YtclhcjiblfokaaaGreatDoorppStWrong
import Derived.Test.YtclhcjiblfokaaaGreatDoorppCoAdd
import Derived.Test.YtclhcjiblfokaaaGreatDoorppPkSend
import Derived.Test.YtclhcjiblfokaaaGreatDoorppPkMath
import Derived.Test.YtclhcjiblfokaaaGreatDoorppChFol
import Derived.Test.YtclhcjiblfokaaaGreatDoorppPkAck
import Derived.Test.YtclhcjiblfokaaaGreatDoorppPkRecv
import Derived.Test.YtclhcjiblfokaaaGreatDoorppSt9RKit
namespace Go.Proofs.YtclhcjiblfokaaaGreatDoor
open Go.RowKit

set_option maxRecDepth 100000 in
set_option maxHeartbeats 4000000 in
theorem platC : LateC 18 := by
  intro s v pv hv2 p next h N w z hv hp hh hN hfit hhf htab hpow hz
  have HE := hid (show lateN s p next h.height z = if sndrN s p ≠ 0 then sndrN s p else lateC (chAt s p.src) p next h.height z from rfl)
  have HSN := hid (fun W (hx : Below w.heap.size w W) => sndr_any s p v pv N W (hv.below (hx.mono hN)) (hp.below (hx.mono hN)) (Nat.le_trans hN hx.size) hfit (htab.past hx))
  have HDO := hid (fun W ev (c : Ch) (f : Cl) (hx : Below w.heap.size w W) (he : EndV W N ev c f) (hff : f.fits) (hw : wrongPk p = 0) hz => late_any s c f p next h v ev pv hv2 N W z (hv.below (hx.mono hN)) he (hp.below (hx.mono hN)) (hh.below (hx.mono hN)) (Nat.le_trans hN hx.size) hff hhf (htab.past hx) (hpow.below hx) hw hz)
  have HSE := hid (fun W (m : Mk) (hx : Below w.heap.size w W) (h0 : wrongS s = 0) hm => settled_any s p m v pv N W (hv.below (hx.mono hN)) (hp.below (hx.mono hN)) (Nat.le_trans hN hx.size) hfit h0 hm)
  obtain ⟨o1, c1, o2, c2, o3, c3, o4, c4, o5, c5, o6, c6, o7, c7, rfl, hm⟩ := hv.open
  obtain ⟨odd, cdd, rfl, hdd⟩ := hp.open
  obtain ⟨q1, e1, q2, e2, q3, e3, r1, s1, r2, s2, r3, s3, r4, s4, r5, s5, r6, s6, rfl, -⟩ := hh.open
  have HCF := hid hfit.2.1.2
  have HZZ := hid hz
  clear hv hp hh hm hdd hfit hhf htab hpow hz
  go_enter Tryz.func18, Tryz.ntmps18
  go_upto_region 1 with fail
  refine fbox4 ?_
  intro w0 F0 hs0
  go_wp2_with (first | refine F0.load 0 rfl rfl rfl rfl structState ?_ | refine F0.load 1 rfl rfl rfl rfl structPacket ?_)
  refine (HSN.out w0 F0.b).mono ?_
  rintro e w1 ⟨hb1, ev, rfl, her⟩
  have F1 := F0.go hb1
  have HS1 := hid (show w.heap.size + 4 ≤ w1.heap.size by have := hb1.size; omega)
  obtain ⟨y0, y1, y2, y3, y4, y5, y6, y7, y8, y9, y10, hev, hone⟩ := her.cells
  subst hev
  have HER := hid her
  have HON := hid hone
  clear her hone hb1 F0 hs0 HSN
  go_upto_region 2 with (refine F1.storeNew rfl rfl rfl rfl structEnd rfl HON.out ?_; intro w2 F2 hb2)
  have HER2 := hid (HER.out.below (hb2.mono (Nat.le_trans hN F1.b.size)))
  clear HER HON hb2 F1
  by_cases hz : sndrN s p = 0
  · have HE2 := hid (HE.out.trans (if_neg (by simp [hz])))
    obtain ⟨hwp, hce, -, mk, hmk, -⟩ := sndrN_ok hz
    obtain ⟨j, k, m, c, d, f, hij, hj, hca, hck, hd, hdm, hf, hfo, hwc, hwf, -⟩ := cendL_fol hce
    obtain ⟨ka, ma, hev, hfv⟩ := HER2.out.1 hz
    rw [hca, hfo] at hev
    rw [hfo] at hfv
    rw [hca] at HE2
    have HWS := hid (cendL_ok hce).1
    simp only [Value.agg.injEq, Array.mk.injEq, List.cons.injEq, and_true] at hev
    obtain ⟨rfl, rfl, rfl, rfl, rfl, rfl, rfl, rfl, rfl, rfl, rfl⟩ := hev
    rw [hz]
    have HFV := hid hfv
    have HJ := hid hj
    have HIJ := hid hij
    have HCA := hid hca
    have HWC := hid (wrongCh_ok hwc)
    have HWP := hid hwp
    have HMK := hid hmk
    have HAS := hid (show if c.ordered = true then ShownN f s.time h.height (fun r => h.prf.key = keyL kwNext [p.dst.toNat] ∧ h.prf.val = numsB [next] ∧ shownB r h.prf) z else ShownN f s.time h.height (fun r => absentB r (keyL kwGot [p.dst.toNat, p.seq.toNat]) h.gap) z by have := HZZ.out; unfold askLate at this; rw [hca, hfo] at this; exact this)
    have HFF := hid (HCF.out f (List.mem_of_getElem? hf))
    clear hz hij hj hca hck hd hdm hf hfo hwc hwf hfv HER2 HE hwp hce HZZ HCF hmk
    go_wp2_with (first | refine F2.load 0 rfl rfl rfl rfl structState ?_ | refine F2.load 4 rfl rfl rfl rfl structEnd ?_ | refine F2.load 1 rfl rfl rfl rfl structPacket ?_ | refine F2.load 2 rfl rfl rfl rfl structShown ?_)
    refine (HDO.out w2 _ c f F2.b ⟨ka, ma, rfl, HFV.out⟩ HFF.out HWP.out HAS.out).mono ?_
    rintro e w3 ⟨rfl, hb3⟩
    have F3 := F2.go hb3
    have hsz3 := hb3.size
    have hlt2 := F2.lts
    clear hb3 HDO HFV HAS HFF
    by_cases hz : lateC c p next h.height z = 0
    · have HZN := hid (HE2.out.trans hz)
      have HCZ := hid hz
      rw [hz]
      clear hz HE2
      go_wp2_with (first | refine F3.load 0 rfl rfl rfl rfl structState ?_ | refine F3.load 1 rfl rfl rfl rfl structPacket ?_)
      refine (HSE.out w3 mk F3.b HWS.out HMK.out).mono ?_
      rintro e w5 ⟨hb5, p1, d1, p2, d2, p3, d3, p4, n4, d4, p5, d5, p6, d6, p7, d7, rfl, hown⟩
      have F5 := F3.go hb5
      have hg0 := F2.r0.lt
      have hg3 := F2.r3.lt
      have hsz5 := hb5.size
      have HO5 := hid hown
      clear hown hb5 HSE
      go_upto_region 8 with (refine F5.store 0 rfl rfl rfl rfl rfl structState rfl (by simp [Value.oneCell']) ?_; intro w6 F6 O6)
      have HO6 := hid (HO5.out.only O6 (by omega))
      have hsz6 := O6.size
      clear O6 F5 HO5 F3
      have hlt0 : ∀ g ∈ [w.heap.size, w.heap.size + 1, w.heap.size + 1 + 1, w.heap.size + 1 + 1 + 1, w1.heap.size], g < w3.heap.size := fun g hg => Nat.lt_of_lt_of_le (hlt2 g hg) (by omega)
      have ko := F6.r4.k11.2.1
      have k5 := F6.r0.k10.2.2.2.2.2.1
      have m0 := F6.r1.k5.1
      cases ho : c.ordered with
      | true =>
        rw [ho] at ko
        have HOR := hid ho
        clear ho
        obtain ⟨g, hpg, hgb, hgl, hcc, hfz⟩ := RowT.at HO6.out.chans (r := chCells c) (i := j) (by rw [List.getElem?_map, HJ.out]; rfl)
        subst hpg
        have f6 := hcc 0 _ rfl
        have z6 := hfz (j * 7)
        simp only [Nat.add_zero] at f6
        have hij := HIJ.out
        rw [hij] at m0
        have hlt : (j : Int) < (s.chans.length : Int) := by have := (List.getElem?_eq_some_iff.1 HJ.out).1; omega
        have hput := RowT.putCell HO6.out.chans (i := j) (j := 0) (x := .int .i64 4) (r := chCells c) (by rw [List.getElem?_map, HJ.out]; rfl) (by decide) rfl
        have hput' : OwnC 53 chCells 7 (w6.setCell ⟨g, j * 7, none⟩ (.int .i64 4)) w3.heap.size (.slice (some ⟨g, 0, none⟩) s.chans.length d3) (s.chans.set j c.shut) := by
          have e : (s.chans.map chCells).set j ((chCells c).set 0 (.int .i64 4)) = (s.chans.set j c.shut).map chCells := by rw [List.map_set]; rfl
          rw [e] at hput
          exact hput
        have hgr : w6.grownBy (w6.setCell ⟨g, j * 7, none⟩ (.int .i64 4)) (some g) := grown_putCells w6 g (j * 7) [.int .i64 4]
        have HO7 := hid (HO6.out.putChans hgr hput' (fun b e => .inl e) (fun b e => .inr (RowT.own hput' b e).1))
        have hne : ∀ q ∈ [w.heap.size, w.heap.size + 1, w.heap.size + 1 + 1, w.heap.size + 1 + 1 + 1, w1.heap.size], q < g := fun q hq => Nat.lt_of_lt_of_le (hlt0 q hq) hgb
        have F7 := F6.past (w2 := w6.setCell ⟨g, j * 7, none⟩ (.int .i64 4)) ((Below.refl g _).setCell (Nat.le_refl g) _) (by have := hne _ (.head _); omega) hne
        obtain ⟨w7, hw7⟩ : ∃ w7, w6.setCell ⟨g, j * 7, none⟩ (.int .i64 4) = w7 := ⟨_, rfl⟩
        rw [hw7] at HO7 F7
        have HW7 := hid hw7
        clear hw7 hput hput' hcc hfz HO6 hgr hij
        go_upto_region 10 with fail
        refine at_world HW7.out ?_
        clear f6 z6 k5 m0 F6 ko
        go_wp2_with (first | refine F7.load 0 rfl rfl rfl rfl structState ?_ | (refine F7.store 3 rfl rfl rfl rfl rfl structState rfl (by simp [Value.oneCell']) ?_; intro w8 F8 O8))
        refine ret_ct Tryz.results18 rfl F8.r3 structState rfl ⟨F8.b, _, by rw [HZN.out]; rfl, ?_⟩
        have hgs : lateS s p next h.height z = { ({ s with sent := withoutM s.sent p.src p.seq } : St) with chans := s.chans.set j c.shut } := by
          unfold lateS
          rw [if_pos HZN.out]
          unfold goneS setCh
          rw [HCA.out, if_pos HOR.out, HIJ.out]
          rfl
        rw [hgs]
        exact (HO7.out.only O8 (by omega)).holds (fun b hb => hb.imp id (fun h => by omega))
      | false =>
        rw [ho] at ko
        have HOR := hid ho
        clear ho
        go_upto_region 10 with fail
        clear k5 m0 ko
        go_wp2_with (first | refine F6.load 0 rfl rfl rfl rfl structState ?_ | (refine F6.store 3 rfl rfl rfl rfl rfl structState rfl (by simp [Value.oneCell']) ?_; intro w8 F8 O8))
        refine ret_ct Tryz.results18 rfl F8.r3 structState rfl ⟨F8.b, _, by rw [HZN.out]; rfl, ?_⟩
        have hgs : lateS s p next h.height z = { s with sent := withoutM s.sent p.src p.seq } := by
          unfold lateS
          rw [if_pos HZN.out]
          unfold goneS
          rw [HCA.out, if_neg (by simp [HOR.out])]
        rw [hgs]
        exact (HO6.out.only O8 (by omega)).holds (fun b hb => hb.imp id (fun h => by omega))
    · have HL := hid HE2.out
      have HNZ := hid (show lateN s p next h.height z ≠ 0 by rw [HE2.out]; exact hz)
      have e0 : (lateC c p next h.height z != 0) = true := by simpa using hz
      clear hz
      go_wp2_with (refine F3.store 3 rfl rfl rfl rfl rfl structState rfl (by simp [Value.oneCell']) ?_; intro wz FZ OZ)
      refine ret_ct Tryz.results18 rfl FZ.r3 structState rfl ⟨FZ.b, _, by rw [HL.out]; rfl, ?_⟩
      rw [show lateS s p next h.height z = St.none from if_neg HNZ.out]
      exact holdsS_none _ _ _
  · have HL := hid (HE.out.trans (if_pos hz))
    have HNZ := hid (show lateN s p next h.height z ≠ 0 by rw [HL.out]; exact hz)
    have e0 : (sndrN s p != 0) = true := by simpa using hz
    clear hz
    go_wp2_with (refine F2.store 3 rfl rfl rfl rfl rfl structState rfl (by simp [Value.oneCell']) ?_; intro wz FZ OZ)
    refine ret_ct Tryz.results18 rfl FZ.r3 structState rfl ⟨FZ.b, _, by rw [HL.out]; rfl, ?_⟩
    rw [show lateS s p next h.height z = St.none from if_neg HNZ.out]
    exact holdsS_none _ _ _
end Go.Proofs.YtclhcjiblfokaaaGreatDoor
namespace Go.Proofs.YtclhcjiblfokaaaGreatDoor
open Go.RowKit

theorem conns_fits {s : St} {l : List Cn} (hf : s.fits) (hl : l.length < 2305843009213693952) : ({ s with conns := l } : St).fits := ⟨hf.1, hf.2.1, hl, hf.2.2.2⟩
end Go.Proofs.YtclhcjiblfokaaaGreatDoor
namespace Go.Proofs.YtclhcjiblfokaaaGreatDoor
open Go.RowKit

def kn9 : Kn := ⟨1, 1, List.replicate 32 0, List.replicate 32 0⟩
def cl9 : Cl := ⟨⟨#[98]⟩, 9, false, [kn9]⟩
def one9 : St := ⟨⟨#[97]⟩, 1, 1, [cl9], [], [], [], [], [], []⟩
theorem cl9_right : wrongCl cl9 = 0 := (wrongCl_iff cl9).2 ⟨by decide, by decide, by decide, fun k hk => by
  obtain rfl : k = kn9 := by simpa [cl9] using hk
  decide, by simp [cl9, Rising]⟩
theorem one9_right : wrongS one9 = 0 := by
  unfold wrongS
  rw [if_neg (by decide), if_neg (by decide), if_neg (by decide)]
  refine (orN_iff _).2 ?_
  simp only [List.mem_cons, List.not_mem_nil, or_false, forall_eq_or_imp, forall_eq]
  exact ⟨(firstW_iff _ _).2 (fun c hc => by obtain rfl : c = cl9 := (by simpa [one9] using hc); exact cl9_right), rfl, rfl, rfl, rfl, rfl, rfl⟩
theorem one9_fits : one9.fits := ⟨by show (1 : Nat) ≤ _; omega, ⟨by show (1 : Nat) < _; omega, fun c hc => by
  obtain rfl : c = cl9 := by simpa [one9] using hc
  exact ⟨by show (1 : Nat) ≤ _; omega, by show (1 : Nat) < _; omega, fun k hk => by
    obtain rfl : k = kn9 := by simpa [cl9] using hk
    exact ⟨by simp [kn9], by simp [kn9]⟩⟩⟩, by show (0 : Nat) < _; omega, by show (0 : Nat) < _; omega, ⟨by show (0 : Nat) < _; omega, fun _ h => by cases h⟩, ⟨by show (0 : Nat) < _; omega, fun _ h => by cases h⟩, ⟨by show (0 : Nat) < _; omega, fun _ h => by cases h⟩, by show (0 : Nat) < _; omega, fun _ h => by cases h⟩
set_option maxRecDepth 100000 in
set_option maxHeartbeats 4000000 in
theorem one9_any (w : World) : Calls Tryz.prog 112 #[] w fun e w' => Below w.heap.size w w' ∧ ∃ v, e = .returned v ∧ HoldsS 0 w.heap.size w' v one9 := by
  have hmk : ∀ w : World, (Instr.makeSlice 29 (.int .i64 32) (.int .i64 32)).run Tryz.prog w = .ok (.slice (some ⟨w.heap.size, 0, none⟩) 32 32) (w.alloc (.cells ((List.replicate 32 (0 : BitVec 8)).map V).toArray 5)) := fun _ => by kernel_rfl
  obtain ⟨w0, hw0⟩ : ∃ w0, w.alloc (.cells #[.string ⟨#[]⟩, .int .i64 0, .int .i64 0, .slice none 0 0, .slice none 0 0, .slice none 0 0, .slice none 0 0, .slice none 0 0, .slice none 0 0, .slice none 0 0] 28) = w0 := ⟨_, rfl⟩
  have hsz0 : w0.heap.size = w.heap.size + 1 := by rw [← hw0]; simp
  have hr0 : Row w0 w.heap.size 28 [.string ⟨#[]⟩, .int .i64 0, .int .i64 0, .slice none 0 0, .slice none 0 0, .slice none 0 0, .slice none 0 0, .slice none 0 0, .slice none 0 0, .slice none 0 0] := by rw [← hw0]; exact Row.new _ _ _
  obtain ⟨w1, hw1⟩ : ∃ w1, w0.alloc (.cells ((List.replicate 32 (0 : BitVec 8)).map V).toArray 5) = w1 := ⟨_, rfl⟩
  have hb1 : Below w0.heap.size w0 w1 := by rw [← hw1]; exact (Below.refl _ _).alloc (Nat.le_refl _) _
  have hmk0 := hmk w0
  rw [hw1, hsz0] at hmk0
  have hbw : Below w.heap.size w w1 := by rw [← hw1, ← hw0]; exact ((Below.refl _ _).alloc (Nat.le_refl _) _).alloc (by simp) _
  have hr1 := hr0.below hb1 hr0.lt
  have how : OwnB w1 (w.heap.size + 1) (.slice (some ⟨w.heap.size + 1, 0, none⟩) 32 32) (List.replicate 32 0) :=
    ⟨by simp, .inr ⟨w.heap.size + 1, 32, ((List.replicate 32 (0 : BitVec 8)).map V).toArray, rfl, Nat.le_refl _, by rw [← hw1, ← hsz0]; exact heap_alloc_new _ _, by simp, by unfold maxLen; omega, by simp, by simp⟩⟩
  obtain ⟨w2, hw2⟩ : ∃ w2, (w1.alloc (.cells #[.int .i64 1, .int .i64 1, .slice (some ⟨w.heap.size + 1, 0, none⟩) 32 32, .slice (some ⟨w.heap.size + 1, 0, none⟩) 32 32] 93)).alloc (.cells #[.string ⟨#[98]⟩, .int .i64 9, .bool false, .slice (some ⟨w1.heap.size, 0, none⟩) 1 1] 79) = w2 := ⟨_, rfl⟩
  have hb2 : Below w1.heap.size w1 w2 := by rw [← hw2]; exact ((Below.refl _ _).alloc (Nat.le_refl _) _).alloc (by simp) _
  have hk2 : Row w2 w1.heap.size 93 [.int .i64 1, .int .i64 1, .slice (some ⟨w.heap.size + 1, 0, none⟩) 32 32, .slice (some ⟨w.heap.size + 1, 0, none⟩) 32 32] := by rw [← hw2]; exact (Row.new _ _ _).alloc _
  have hc2 : Row w2 (w1.heap.size + 1) 79 [.string ⟨#[98]⟩, .int .i64 9, .bool false, .slice (some ⟨w1.heap.size, 0, none⟩) 1 1] := by rw [← hw2]; exact Row.newAt _ _ _ _ (by simp)
  have hby := (how.bytes.below hb2).mono hb2.size
  have hks : Knowns w2 w2.heap.size (.slice (some ⟨w1.heap.size, 0, none⟩) 1 1) [kn9] := ⟨[⟨kn9, .slice (some ⟨w.heap.size + 1, 0, none⟩) 32 32, .slice (some ⟨w.heap.size + 1, 0, none⟩) 32 32⟩], rfl, (one_rec hk2).mono (by have := hk2.lt; omega), fun q hq => by obtain rfl := List.mem_singleton.1 hq; exact ⟨hby, hby⟩⟩
  have hcs : Many ClR 4 w2 w2.heap.size (.slice (some ⟨w1.heap.size + 1, 0, none⟩) 1 1) [cl9] := ⟨[[.string ⟨#[98]⟩, .int .i64 9, .bool false, .slice (some ⟨w1.heap.size, 0, none⟩) 1 1]], rfl, (one_rec hc2).mono (by have := hc2.lt; omega), fun i r x hr hx => by
    have hi : i = 0 := by have := (List.getElem?_eq_some_iff.1 hr).1; simp at this; exact this
    subst hi
    obtain rfl : [.string ⟨#[98]⟩, .int .i64 9, .bool false, .slice (some ⟨w1.heap.size, 0, none⟩) 1 1] = r := by simpa using hr
    obtain rfl : cl9 = x := by simpa using hx
    exact ⟨_, rfl, hks⟩⟩
  have HR2 := hid (hr1.below hb2 hr1.lt)
  have HSV := hid (show HoldsS 0 (w.heap.size + 1) w2 (.agg #[.string ⟨#[97]⟩, .int .i64 1, .int .i64 1, .slice (some ⟨w1.heap.size + 1, 0, none⟩) 1 1, .slice none 0 0, .slice none 0 0, .slice none 0 0, .slice none 0 0, .slice none 0 0, .slice none 0 0]) one9 from
    ⟨fun b hb => hb.2, fun w3 h3 hk3 => by
      have hag : ∀ b, w.heap.size + 1 ≤ b → b < w2.heap.size → w3.heap[b]? = w2.heap[b]? := fun b h1 h2 => hk3 b ⟨.inr h1, h2⟩
      have hlt1 := hk2.lt
      have hlt2 := hc2.lt
      have h10 : w.heap.size + 1 < w1.heap.size := by rw [← hw1]; simp; omega
      have hk3' : Row w3 w1.heap.size 93 [.int .i64 1, .int .i64 1, .slice (some ⟨w.heap.size + 1, 0, none⟩) 32 32, .slice (some ⟨w.heap.size + 1, 0, none⟩) 32 32] := (hag _ (by omega) hlt1).trans hk2
      have hc3' : Row w3 (w1.heap.size + 1) 79 [.string ⟨#[98]⟩, .int .i64 9, .bool false, .slice (some ⟨w1.heap.size, 0, none⟩) 1 1] := (hag _ (by omega) hlt2).trans hc2
      have hb3' : OwnB w3 (w.heap.size + 1) (.slice (some ⟨w.heap.size + 1, 0, none⟩) 32 32) (List.replicate 32 0) := ownsRow_at (show w2.ownsRow _ _ _ _ _ _ from ownsRow_belowR how hb2) (fun g hg => by obtain rfl : w.heap.size + 1 = g := (by simpa [Value.ownBlock] using hg); exact hag _ (by omega) (by omega))
      have hsz3 := h3.size
      have hks3 : Knowns w3 w3.heap.size (.slice (some ⟨w1.heap.size, 0, none⟩) 1 1) [kn9] := ⟨[⟨kn9, .slice (some ⟨w.heap.size + 1, 0, none⟩) 32 32, .slice (some ⟨w.heap.size + 1, 0, none⟩) 32 32⟩], rfl, (one_rec hk3').mono (by omega), fun q hq => by obtain rfl := List.mem_singleton.1 hq; exact ⟨hb3'.bytes, hb3'.bytes⟩⟩
      have hcs3 : Many ClR 4 w3 w3.heap.size (.slice (some ⟨w1.heap.size + 1, 0, none⟩) 1 1) [cl9] := ⟨[[.string ⟨#[98]⟩, .int .i64 9, .bool false, .slice (some ⟨w1.heap.size, 0, none⟩) 1 1]], rfl, (one_rec hc3').mono (by omega), fun i r x hr hx => by
        have hi : i = 0 := by have := (List.getElem?_eq_some_iff.1 hr).1; simp at this; exact this
        subst hi
        obtain rfl : [.string ⟨#[98]⟩, .int .i64 9, .bool false, .slice (some ⟨w1.heap.size, 0, none⟩) 1 1] = r := by simpa using hr
        obtain rfl : cl9 = x := by simpa using hx
        exact ⟨_, rfl, hks3⟩⟩
      exact ⟨_, _, _, _, _, _, _, rfl, hcs3, Many.nil _ _ _ _, Many.nil _ _ _ _, Many.nil _ _ _ _, Many.nil _ _ _ _, Many.nil _ _ _ _, Many.nil _ _ _ _⟩⟩)
  have HB2 := hid (hbw.trans (hb2.mono hbw.size))
  have HIZ := hid (show (Tryz.prog.info? 28).map (·.size) = some 10 by kernel_rfl)
  obtain ⟨w3, hw3⟩ : ∃ w3, w2.setRow (w.heap.size) #[.string ⟨#[97]⟩, .int .i64 1, .int .i64 1, .slice (some ⟨w1.heap.size + 1, 0, none⟩) 1 1, .slice none 0 0, .slice none 0 0, .slice none 0 0, .slice none 0 0, .slice none 0 0, .slice none 0 0] = w3 := ⟨_, rfl⟩
  have HRS3 := hid (show Row w3 (w.heap.size) 28 [.string ⟨#[97]⟩, .int .i64 1, .int .i64 1, .slice (some ⟨w1.heap.size + 1, 0, none⟩) 1 1, .slice none 0 0, .slice none 0 0, .slice none 0 0, .slice none 0 0, .slice none 0 0, .slice none 0 0] by rw [← hw3]; exact Row.setRow HR2.out _)
  have HHZ3 := hid (show w2.heap[w.heap.size]? = some (.cells #[.string ⟨#[]⟩, .int .i64 0, .int .i64 0, .slice none 0 0, .slice none 0 0, .slice none 0 0, .slice none 0 0, .slice none 0 0, .slice none 0 0, .slice none 0 0] 28 (0, 0)) from HR2.out)
  have HON3 := hid (show (#[.string ⟨#[97]⟩, .int .i64 1, .int .i64 1, .slice (some ⟨w1.heap.size + 1, 0, none⟩) 1 1, .slice none 0 0, .slice none 0 0, .slice none 0 0, .slice none 0 0, .slice none 0 0, .slice none 0 0] : Array Value).all (·.oneCell') = true by simp [Value.oneCell'])
  have HSW3 := hid hw3
  have HB3 := hid (show Below w.heap.size w w3 by rw [← hw3]; exact setRow_below HB2.out (Nat.le_refl _) _)
  have HS3 := hid (show HoldsS 0 w.heap.size w3 (.agg #[.string ⟨#[97]⟩, .int .i64 1, .int .i64 1, .slice (some ⟨w1.heap.size + 1, 0, none⟩) 1 1, .slice none 0 0, .slice none 0 0, .slice none 0 0, .slice none 0 0, .slice none 0 0, .slice none 0 0]) one9 by rw [← hw3]; exact (HSV.out.row (Nat.zero_le _) (by omega) _).lower (by omega))
  have HW0 := hid hw0
  have HW2 := hid hw2
  clear hw0 hw1 hb1 hr0 hsz0 hmk hbw hr1 how hw2 hb2 hk2 hc2 hby hks hcs hw3
  go_enter Tryz.func112, Tryz.ntmps112
  go_wp2_with fail
  rw [HW0.out, hmk0]
  go_wp2_with (first | (refine wpList_store_row rfl 28 (.tmp 0) (.tmp 9) rfl (w.heap.size) #[.string ⟨#[97]⟩, .int .i64 1, .int .i64 1, .slice (some ⟨w1.heap.size + 1, 0, none⟩) 1 1, .slice none 0 0, .slice none 0 0, .slice none 0 0, .slice none 0 0, .slice none 0 0, .slice none 0 0] rfl rfl 28 #[.string ⟨#[]⟩, .int .i64 0, .int .i64 0, .slice none 0 0, .slice none 0 0, .slice none 0 0, .slice none 0 0, .slice none 0 0, .slice none 0 0, .slice none 0 0] (by rw [HW2.out]; exact HHZ3.out) HIZ.out rfl HON3.out ?_; rw [HW2.out, HSW3.out]))
  have y0 := HRS3.out.cell 0
  simp at y0
  have y1 := HRS3.out.cell 1
  simp at y1
  have y2 := HRS3.out.cell 2
  simp at y2
  have y3 := HRS3.out.cell 3
  simp at y3
  have y4 := HRS3.out.cell 4
  simp at y4
  have y5 := HRS3.out.cell 5
  simp at y5
  have y6 := HRS3.out.cell 6
  simp at y6
  have y7 := HRS3.out.cell 7
  simp at y7
  have y8 := HRS3.out.cell 8
  simp at y8
  have y9 := HRS3.out.cell 9
  simp at y9
  exact bodyPost_ret (v := .agg #[.string ⟨#[97]⟩, .int .i64 1, .int .i64 1, .slice (some ⟨w1.heap.size + 1, 0, none⟩) 1 1, .slice none 0 0, .slice none 0 0, .slice none 0 0, .slice none 0 0, .slice none 0 0, .slice none 0 0]) (by simp [results, Tryz.results112, go_sem, y0, y1, y2, y3, y4, y5, y6, y7, y8, y9]) rfl ⟨HB3.out, _, rfl, HS3.out⟩
def linkS : St := { one9 with conns := [⟨3, 0, 0, 0⟩], chans := [⟨3, false, 0, 0, 1, 1, 1⟩] }
theorem linkS_right : wrongS linkS = 0 := wrongS_moreCh (s := { one9 with conns := [⟨3, 0, 0, 0⟩] }) (wrongS_more one9_right (by decide) (fun c hc => by obtain rfl : c = ⟨3, 0, 0, 0⟩ := (by simpa using hc); decide)) (by decide) (fun c hc => by obtain rfl : c = ⟨3, false, 0, 0, 1, 1, 1⟩ := (by simpa using hc); decide)
theorem linkS_fits : linkS.fits := chans_fits (s := { one9 with conns := [⟨3, 0, 0, 0⟩] }) (conns_fits one9_fits (by decide)) (by decide)
theorem linkS_end : cendL linkS 0 [3] = 0 := by
  unfold cendL
  rw [if_neg (by simp [linkS_right])]
  decide
theorem linkS_send : sendN linkS 0 [120] 5 = 0 := by
  unfold sendN
  rw [if_neg (by simp [linkS_end])]
  decide
set_option maxRecDepth 100000 in
set_option maxHeartbeats 4000000 in
theorem linked_any (w : World) : Calls Tryz.prog 56 #[] w fun e w' => Below w.heap.size w w' ∧ ∃ v, e = .returned v ∧ StV w' w'.heap.size v linkS := by
  go_enter Tryz.func56, Tryz.ntmps56
  go_upto_region 1 with fail
  refine fbox1 ?_
  intro w0 F0 hs0
  go_wp2_with fail
  refine (one9_any w0).mono ?_
  rintro e w1 ⟨hb1, v, rfl, hv⟩
  have F1 := F0.go hb1
  obtain ⟨o1, c1, o2, c2, o3, c3, o4, c4, o5, c5, o6, c6, o7, c7, rfl, -⟩ := hv.now.open
  have HH := hid (show Held (fun b => w0.heap.size ≤ b ∧ b < w1.heap.size) w1 (fun w2 => StV w2 w2.heap.size (.agg #[.string one9.name, .int .i64 one9.height, .int .i64 one9.time, .slice o1 one9.clients.length c1, .slice o2 one9.conns.length c2, .slice o3 one9.chans.length c3, .slice o4 one9.sent.length c4, .slice o5 one9.got.length c5, .slice o6 one9.acks.length c6, .slice o7 one9.purses.length c7]) one9) from Held.wide hv (fun b hF => ⟨by omega, hF.2⟩) (fun b hF => hF.2))
  have hsz1 := hb1.size
  clear hb1 F0 hv
  go_upto_region 2 with (refine F1.storeNew rfl rfl rfl rfl structState rfl (by simp [Value.oneCell']) ?_; intro w2 F2 hb2)
  have HH2 := hid (HH.out.below hb2)
  have hsz2 : w1.heap.size < w2.heap.size := F2.r1.lt
  have k4 := F2.r1.k10.2.2.2.2.1
  have z4 := F2.r1.frozen 4
  have hne : w1.heap.size ≠ w2.heap.size := by omega
  clear hb2 HH F1
  go_upto_region 3 with fail
  have O3 := (Only.refl w1.heap.size w2).cell 4 (.slice (some ⟨w2.heap.size, 0, none⟩) 1 1)
  have A3 := F2.set1 1 4 (.slice (some ⟨w2.heap.size, 0, none⟩) 1 1) rfl
  have F3 := A3.addAt (g := w2.heap.size) (t := 89) (cs := [.int .i64 3, .int .i64 0, .int .i64 0, .int .i64 0]) O3.size.symm
  have HH3 := hid (show Held (fun b => w0.heap.size ≤ b ∧ b < w1.heap.size) ((w2.setCell ⟨w1.heap.size, 4, none⟩ (.slice (some ⟨w2.heap.size, 0, none⟩) 1 1)).alloc (.cells ([.int .i64 3, .int .i64 0, .int .i64 0, .int .i64 0] : List Value).toArray 89)) _ from (HH2.out.on O3.below (fun b hF => O3.same b (by omega))).below ((Below.refl _ _).alloc (Nat.le_refl _) (.cells ([.int .i64 3, .int .i64 0, .int .i64 0, .int .i64 0] : List Value).toArray 89)))
  have hsz3 : w2.heap.size + 1 ≤ ((w2.setCell ⟨w1.heap.size, 4, none⟩ (.slice (some ⟨w2.heap.size, 0, none⟩) 1 1)).alloc (.cells ([.int .i64 3, .int .i64 0, .int .i64 0, .int .i64 0] : List Value).toArray 89)).heap.size := by simp [World.setCell]
  obtain ⟨w3, hw3⟩ : ∃ w3, (w2.setCell ⟨w1.heap.size, 4, none⟩ (.slice (some ⟨w2.heap.size, 0, none⟩) 1 1)).alloc (.cells ([.int .i64 3, .int .i64 0, .int .i64 0, .int .i64 0] : List Value).toArray 89) = w3 := ⟨_, rfl⟩
  rw [hw3] at F3 HH3 hsz3
  refine at_world hw3 ?_
  clear hw3 A3 O3 HH2 F2 k4 z4 hne
  have k5 := F3.r1.k10.2.2.2.2.2.1
  have z5 := F3.r1.frozen 5
  have hne : w1.heap.size ≠ w3.heap.size := by omega
  have hlt : w1.heap.size < w3.heap.size := by omega
  go_upto_region 4 with fail
  have O4 := (Only.refl w1.heap.size w3).cell 5 (.slice (some ⟨w3.heap.size, 0, none⟩) 1 1)
  have A4 := F3.set1 1 5 (.slice (some ⟨w3.heap.size, 0, none⟩) 1 1) rfl
  have F4 := A4.addAt (g := w3.heap.size) (t := 53) (cs := [.int .i64 3, .bool false, .int .i64 0, .int .i64 0, .int .i64 1, .int .i64 1, .int .i64 1]) O4.size.symm
  have HH4 := hid (show Held (fun b => w0.heap.size ≤ b ∧ b < w1.heap.size) ((w3.setCell ⟨w1.heap.size, 5, none⟩ (.slice (some ⟨w3.heap.size, 0, none⟩) 1 1)).alloc (.cells ([.int .i64 3, .bool false, .int .i64 0, .int .i64 0, .int .i64 1, .int .i64 1, .int .i64 1] : List Value).toArray 53)) _ from (HH3.out.on O4.below (fun b hF => O4.same b (by omega))).below ((Below.refl _ _).alloc (Nat.le_refl _) (.cells ([.int .i64 3, .bool false, .int .i64 0, .int .i64 0, .int .i64 1, .int .i64 1, .int .i64 1] : List Value).toArray 53)))
  have hsz4 : w3.heap.size + 1 ≤ ((w3.setCell ⟨w1.heap.size, 5, none⟩ (.slice (some ⟨w3.heap.size, 0, none⟩) 1 1)).alloc (.cells ([.int .i64 3, .bool false, .int .i64 0, .int .i64 0, .int .i64 1, .int .i64 1, .int .i64 1] : List Value).toArray 53)).heap.size := by simp [World.setCell]
  obtain ⟨w4, hw4⟩ : ∃ w4, (w3.setCell ⟨w1.heap.size, 5, none⟩ (.slice (some ⟨w3.heap.size, 0, none⟩) 1 1)).alloc (.cells ([.int .i64 3, .bool false, .int .i64 0, .int .i64 0, .int .i64 1, .int .i64 1, .int .i64 1] : List Value).toArray 53) = w4 := ⟨_, rfl⟩
  rw [hw4] at F4 HH4 hsz4
  refine at_world hw4 ?_
  clear hw4 A4 O4 HH3 F3 k5 z5 hne hlt
  go_wp2_with (first | refine F4.load 1 rfl rfl rfl rfl structState ?_ | (refine F4.store 0 rfl rfl rfl rfl rfl structState rfl (by simp [Value.oneCell']) ?_; intro w5 F5 O5))
  have HH5 := hid (HH4.out.on O5.below (fun b hF => O5.same b (by omega)))
  refine ret_c Tryz.results56 rfl F5.r0 structState rfl ⟨F5.b, _, rfl, ?_⟩
  obtain ⟨v1, v2, v3, v4, v5, v6, v7, ev, hm⟩ := HH5.out.now
  simp only [Value.agg.injEq, Array.mk.injEq, List.cons.injEq, and_true, true_and] at ev
  obtain ⟨rfl, rfl, rfl, rfl, rfl, rfl, rfl⟩ := ev
  have g2 := F5.r2.lt
  have g3 := F5.r3.lt
  refine ⟨_, _, _, _, _, _, _, rfl, hm.clients, ⟨[cnCells ⟨3, 0, 0, 0⟩], rfl, (one_rec (k := 4) F5.r2).mono (by omega), fun i r x hr hx => ?_⟩, ⟨[chCells ⟨3, false, 0, 0, 1, 1, 1⟩], rfl, (one_rec (k := 7) F5.r3).mono (by omega), fun i r x hr hx => ?_⟩, hm.sent, hm.got, hm.acks, hm.purses⟩
  · have hi : i = 0 := by have := (List.getElem?_eq_some_iff.1 hr).1; simp at this; exact this
    subst hi
    obtain rfl : cnCells ⟨3, 0, 0, 0⟩ = r := by simpa using hr
    obtain rfl : (⟨3, 0, 0, 0⟩ : Cn) = x := by simpa [linkS] using hx
    rfl
  · have hi : i = 0 := by have := (List.getElem?_eq_some_iff.1 hr).1; simp at this; exact this
    subst hi
    obtain rfl : chCells ⟨3, false, 0, 0, 1, 1, 1⟩ = r := by simpa using hr
    obtain rfl : (⟨3, false, 0, 0, 1, 1, 1⟩ : Ch) = x := by simpa [linkS] using hx
    rfl
set_option maxRecDepth 100000 in
set_option maxHeartbeats 4000000 in
theorem alive11_any (w : World) (htab : tableAt w) : Calls Tryz.prog 19 #[] w fun e w' => e = .returned (.bool true) ∧ Below w.heap.size w w' := by
  have HT := hid htab
  clear htab
  go_enter Tryz.func19, Tryz.ntmps19
  go_wp2_with fail
  refine (linked_any w).mono ?_
  rintro e w1 ⟨hb1, v, rfl, hv⟩
  have HB1 := hid hb1
  obtain ⟨o1, c1, o2, c2, o3, c3, o4, c4, o5, c5, o6, c6, o7, c7, rfl, -⟩ := hv.open
  have HV := hid hv
  clear hb1 hv
  have hcv := conv_constB
  have hb2 : Below w1.heap.size w1 (w1.alloc (.cells #[.int .u8 120] 5 (1, 2))) := (Below.refl _ _).alloc (Nat.le_refl _) _
  have hc2 : (w1.alloc (.cells #[.int .u8 120] 5 (1, 2))).cell? ⟨w1.heap.size, 0, none⟩ = some (.int .u8 120) := by
    have := heap_alloc_new w1 (.cells #[.int .u8 120] 5 (1, 2))
    unfold World.cell?
    simp only [this]
    rfl
  have hl2 : w1.heap.size < (w1.alloc (.cells #[.int .u8 120] 5 (1, 2))).heap.size := by simp
  have HB2 := hid hb2
  have HC2 := hid hc2
  have HL2 := hid hl2
  clear hb2 hc2 hl2
  go_wp2_with fail
  have hb2 := HB2.out
  have hc2 := HC2.out
  have hl2 := HL2.out
  clear HB2 HC2 HL2 hcv
  generalize w1.alloc (.cells #[.int .u8 120] 5 (1, 2)) = w2 at *
  have hB2 := HB1.out.trans (hb2.mono HB1.out.size)
  refine (psendC linkS _ _ [120] w2.heap.size w2 0 5 ((HV.out.below hb2).mono hb2.size) (.inr (.inr ⟨w1.heap.size, 0, 1, rfl, by simp, fun i hi => ⟨hl2, ?_⟩⟩)) (Nat.le_refl _) linkS_fits (by simp) (HT.out.past hB2)).mono ?_
  · obtain rfl : i = 0 := by simpa using hi
    rw [show (0 + 0 : Nat) = 0 from rfl, hc2]
    rfl
  rintro e w3 ⟨hb3, v', pv, rfl, hs', hp'⟩
  rw [linkS_send]
  have e1 : sendS linkS 0 [120] 5 = sentS linkS ⟨0, 0, 1, [120], 5⟩ := if_pos linkS_send
  have e2 : sendP linkS 0 [120] 5 = ⟨0, 0, 1, [120], 5⟩ := if_pos linkS_send
  rw [e1] at hs'
  rw [e2] at hp'
  obtain ⟨a1, n1, a2, n2, a3, n3, a4, n4, a5, n5, a6, n6, a7, n7, rfl, hm⟩ := hs'.now.open
  obtain ⟨od, cd, rfl, -⟩ := hp'.now.open
  have HB3 := hid (hB2.trans (hb3.mono hB2.size))
  have hx : (sentS linkS ⟨0, 0, 1, [120], 5⟩).chans[0]? = some ⟨3, false, 0, 0, 2, 1, 1⟩ := rfl
  obtain ⟨b, g, hob, hbb, -, -, -, -, x4, -⟩ := hm.chans.chan rfl hx
  have hl : (sentS linkS ⟨0, 0, 1, [120], 5⟩).sent.length = 1 := rfl
  have hc : (sentS linkS ⟨0, 0, 1, [120], 5⟩).chans.length = 1 := rfl
  rw [hl, hc]
  subst hob
  have HX4 := hid x4
  have F3 := Fr.nil w3
  clear hs' hp' hm e1 e2 hx hl hc x4 hc2 hl2 hb2 hb3
  generalize (sentS linkS ⟨0, 0, 1, [120], 5⟩).name = q0 at *
  generalize (sentS linkS ⟨0, 0, 1, [120], 5⟩).height = q1 at *
  generalize (sentS linkS ⟨0, 0, 1, [120], 5⟩).time = q2 at *
  generalize (sentS linkS ⟨0, 0, 1, [120], 5⟩).clients.length = q3 at *
  generalize (sentS linkS ⟨0, 0, 1, [120], 5⟩).conns.length = q4 at *
  generalize (sentS linkS ⟨0, 0, 1, [120], 5⟩).got.length = q5 at *
  generalize (sentS linkS ⟨0, 0, 1, [120], 5⟩).acks.length = q6 at *
  generalize (sentS linkS ⟨0, 0, 1, [120], 5⟩).purses.length = q7 at *
  go_upto_region 2 with (first | (refine ((F3.addAt (g := w3.heap.size) (t := 28) (cs := [.string ⟨#[]⟩, .int .i64 0, .int .i64 0, .slice none 0 0, .slice none 0 0, .slice none 0 0, .slice none 0 0, .slice none 0 0, .slice none 0 0, .slice none 0 0]) rfl).addAt (g := w3.heap.size + 1) (t := 31) (cs := [.int .i64 0, .int .i64 0, .int .i64 0, .slice none 0 0, .int .i64 0]) (by simp)).store 0 rfl rfl rfl rfl rfl structState rfl (by simp [Value.oneCell']) ?_; intro w4 F4 O4) | (refine F4.store 1 rfl rfl rfl rfl rfl structPacket rfl (by simp [Value.oneCell']) ?_; intro w5 F5 O5))
  have k6 := F5.r0.k10.2.2.2.2.2.2.1
  have k5 := F5.r0.k10.2.2.2.2.2.1
  have m2 := F5.r1.k5.2.2.1
  have x4 := (F5.b.cell (p := ⟨b, g + 0 * 7 + 4, none⟩) hbb).trans HX4.out
  simp only [Nat.zero_mul, Nat.add_zero] at x4
  have HBF := hid (HB3.out.trans (F5.b.mono HB3.out.size))
  go_wp2
  go_ret
  exact ⟨rfl, HBF.out⟩
end Go.Proofs.YtclhcjiblfokaaaGreatDoor
namespace Go.Proofs.YtclhcjiblfokaaaGreatDoor
open Go.RowKit

theorem wrongS_parts {s : St} (h : wrongS s = 0) : marksN s.sent = 0 ∧ marksN s.got = 0 ∧ marksN s.acks = 0 ∧ (s.chans.length ≤ 8 ∧ s.sent.length ≤ 50 ∧ s.got.length ≤ 50 ∧ s.acks.length ≤ 50) := by
  obtain ⟨h1, h2, h3, h4⟩ := wrongS_name h
  have h5 := of_decide_eq_false (show decide _ = false from h3)
  have h' := (orN_iff _).1 h4
  simp only [List.mem_cons, List.not_mem_nil, or_false, forall_eq_or_imp, forall_eq] at h'
  exact ⟨h'.2.2.2.1, h'.2.2.2.2.1, h'.2.2.2.2.2.1, by omega⟩
theorem wrongS_all {s : St} {l : List Ch} {a b c : List Mk} (h : wrongS s = 0) (hl : l.length ≤ 8) (hc : ∀ c ∈ l, wrongCh c = 0) (ha : marksN a = 0 ∧ a.length ≤ 50) (hb : marksN b = 0 ∧ b.length ≤ 50) (hk : marksN c = 0 ∧ c.length ≤ 50) : wrongS { s with chans := l, sent := a, got := b, acks := c } = 0 := by
  obtain ⟨h1, h2, h3, h4⟩ := wrongS_name h
  have h5 := of_decide_eq_false (show decide _ = false from h3)
  unfold wrongS
  rw [if_neg (by simp [h1]), if_neg (by simp [h2.1, h2.2]), if_neg (by simp [manyB]; omega)]
  have h' := (orN_iff _).1 h4
  simp only [List.mem_cons, List.not_mem_nil, or_false, forall_eq_or_imp, forall_eq] at h'
  refine (orN_iff _).2 ?_
  simp only [List.mem_cons, List.not_mem_nil, or_false, forall_eq_or_imp, forall_eq]
  exact ⟨h'.1, h'.2.1, (firstW_iff _ _).2 hc, ha.1, hb.1, hk.1, h'.2.2.2.2.2.2⟩
theorem marks_fit {l : List Mk} (h : marksN l = 0) : ∀ m ∈ l, m.fits := fun m hm => by
  have := (wrongMk_ok ((marksN_ok h).1 m hm)).2.2
  unfold Mk.fits
  omega
theorem fits_all {s : St} {l : List Ch} {a b c : List Mk} (hf : s.fits) (hl : l.length ≤ 8) (ha : marksN a = 0 ∧ a.length ≤ 50) (hb : marksN b = 0 ∧ b.length ≤ 50) (hk : marksN c = 0 ∧ c.length ≤ 50) : ({ s with chans := l, sent := a, got := b, acks := c } : St).fits :=
  ⟨hf.1, hf.2.1, hf.2.2.1, (show l.length < 2305843009213693952 by omega), ⟨(show a.length < 2305843009213693952 by omega), marks_fit ha.1⟩, ⟨(show b.length < 2305843009213693952 by omega), marks_fit hb.1⟩, ⟨(show c.length < 2305843009213693952 by omega), marks_fit hk.1⟩, hf.2.2.2.2.2.2.2⟩
theorem wrongMk_of {ch seq : Int} {d : List (BitVec 8)} (h1 : 0 ≤ ch ∧ ch ≤ 1000000000000) (h2 : 1 ≤ seq ∧ seq ≤ 1000000000000) (h3 : d.length = 32) : wrongMk ⟨ch, seq, d⟩ = 0 := by
  unfold wrongMk
  rw [if_neg (by simp [fromB]; omega), if_neg (by simpa using h3)]
theorem set_right {s : St} {j : Nat} {c : Ch} (h : wrongS s = 0) (hc : wrongCh c = 0) : (s.chans.set j c).length ≤ 8 ∧ ∀ x ∈ s.chans.set j c, wrongCh x = 0 :=
  ⟨by rw [List.length_set]; exact (wrongS_parts h).2.2.2.1, fun x hx => by
    rcases List.mem_or_eq_of_mem_set hx with hx | rfl
    · exact (wrongS_right h).chans x hx
    · exact hc⟩
/-- what an end is asked hangs on this alone -/
theorem cendL_same {s t : St} {i : Int} {l : List Int} {j : Nat} {c d : Ch} (hi : i = (j : Int)) (ht : wrongS t = 0) (hd : t.chans[j]? = some d) (h1 : d.state ∈ l) (h2 : d.conn = c.conn) (h3 : t.conns = s.conns ∧ t.clients = s.clients ∧ t.time = s.time) (ho : overN s c.conn = 0) : cendL t i l = 0 := by
  subst hi
  have hl : j < t.chans.length := (List.getElem?_eq_some_iff.1 hd).1
  unfold cendL
  rw [if_neg (by simp [ht]), if_neg (by omega), chAt_some hd, if_pos h1, h2]
  unfold overN cnAt liveN clAt at *
  rw [h3.1, h3.2.1, h3.2.2]
  exact ho
theorem chAt_set {s : St} {j : Nat} {c d : Ch} (hc : s.chans[j]? = some c) : (s.chans.set j d)[j]? = some d := List.getElem?_set_self (List.getElem?_eq_some_iff.1 hc).1
theorem rcvrN_ok' {s : St} {p : Pk} {n : Nat} (h : rcvrN s p n = 0) : wrongPk p = 0 ∧ cendL s p.dst [3] = 0 ∧ (s.got.length < 50 ∧ s.acks.length < 50) ∧ n ≤ 150 ∧ (chAt s p.dst).recv < 1000000000000 ∧ turnB s (chAt s p.dst) p = false ∧ (chAt s p.dst).ochan = p.src ∧ s.height < p.tmo := by
  unfold rcvrN at h
  split at h
  · rename_i h1; exact absurd h h1
  rename_i h1
  split at h
  · rename_i h2; exact absurd h h2
  rename_i h2
  split at h
  · cases h
  rename_i h3
  split at h
  · cases h
  rename_i h4
  split at h
  · cases h
  rename_i h5
  split at h
  · cases h
  rename_i h6
  exact ⟨by simpa using h1, by simpa using h2, by omega, by omega, by omega, by simpa using h5, by simpa using h3, by omega⟩
theorem rcvrN_turn {s : St} {p : Pk} {n : Nat} (h : rcvrN s p n = 0) : turnB s (chAt s p.dst) p = false := (rcvrN_ok' h).2.2.2.2.2.1
theorem sndrN_ok' {s : St} {p : Pk} (h : sndrN s p = 0) : wrongPk p = 0 ∧ cendL s p.src [3, 4] = 0 ∧ (chAt s p.src).ochan = p.dst ∧ ∃ m, hasM s.sent p.src p.seq = some m ∧ m.dig = digPk p := by
  unfold sndrN at h
  split at h
  · rename_i h1; exact absurd h h1
  rename_i h1
  split at h
  · rename_i h2; exact absurd h h2
  rename_i h2
  split at h
  · cases h
  rename_i h3
  cases hm : hasM s.sent p.src p.seq with
  | none => rw [hm] at h; cases h
  | some m =>
    rw [hm] at h
    simp only at h
    split at h
    · cases h
    rename_i h4
    exact ⟨by simpa using h1, by simpa using h2, by simpa using h3, m, rfl, by simpa using h4⟩
/-- what comes of receiving -/
theorem got_right {s : St} {p : Pk} {ack : List (BitVec 8)} (hr : rcvrN s p ack.length = 0) (hf : s.fits) : wrongS (gotS s p ack) = 0 ∧ (gotS s p ack).fits ∧ ∀ n, rcvrN (gotS s p ack) p n = 12 := by
  obtain ⟨hwp, hce, hm, -, hrl, -, hoc, hht⟩ := rcvrN_ok' hr
  have hpo := wrongPk_ok hwp
  obtain ⟨j, k, m, c, d, f, hij, hj, hca, hck, hd, hdm, hff, hfo, hwc, hwf, -⟩ := cendL_fol hce
  obtain ⟨hw, -, hst, hov⟩ := cendL_ok hce
  rw [hca] at hrl hoc hst hov
  have hco := wrongCh_ok hwc
  have hpt := wrongS_parts hw
  have hlg := withM_len s.got ⟨p.dst, p.seq, digPk p⟩ (marksN_ok hpt.2.1).2
  have hla := withM_len s.acks ⟨p.dst, p.seq, sha ack⟩ (marksN_ok hpt.2.2.1).2
  have hAk : marksN (withM s.acks ⟨p.dst, p.seq, sha ack⟩) = 0 ∧ (withM s.acks ⟨p.dst, p.seq, sha ack⟩).length ≤ 50 := ⟨withM_right hpt.2.2.1 (wrongMk_of hpo.2.1 hpo.2.2.1 (sha_length _)), by omega⟩
  have hS : marksN s.sent = 0 ∧ s.sent.length ≤ 50 := ⟨hpt.1, hpt.2.2.2.2.1⟩
  cases ho : c.ordered with
  | true =>
    have e : gotS s p ack = { s with chans := s.chans.set j c.recv1, sent := s.sent, got := s.got, acks := withM s.acks ⟨p.dst, p.seq, sha ack⟩ } := by
      unfold gotS setCh
      rw [hca, if_pos ho, hij]
      rfl
    have hcc : wrongCh c.recv1 = 0 := wrongCh_of hco.1 hco.2.1 hco.2.2.1 (by simp only [Ch.recv1]; omega)
    obtain ⟨g1, g2⟩ := set_right (j := j) hw hcc
    have hwt := wrongS_all hw g1 g2 hS ⟨hpt.2.1, hpt.2.2.2.2.2.1⟩ hAk
    refine ⟨by rw [e]; exact hwt, by rw [e]; exact fits_all hf g1 hS ⟨hpt.2.1, hpt.2.2.2.2.2.1⟩ hAk, fun n => ?_⟩
    rw [e]
    have hd2 := chAt_set (d := c.recv1) hj
    have hce2 := cendL_same (t := { s with chans := s.chans.set j c.recv1, sent := s.sent, got := s.got, acks := withM s.acks ⟨p.dst, p.seq, sha ack⟩ }) (l := [3]) hij hwt hd2 hst rfl ⟨rfl, rfl, rfl⟩ hov
    have hcd : chAt { s with chans := s.chans.set j c.recv1, sent := s.sent, got := s.got, acks := withM s.acks ⟨p.dst, p.seq, sha ack⟩ } p.dst = c.recv1 := by rw [hij]; exact chAt_some hd2
    have htn : p.seq = c.recv := by
      have := rcvrN_turn hr
      rw [hca] at this
      unfold turnB at this
      rw [if_pos ho] at this
      simpa using this
    unfold rcvrN
    rw [if_neg (by simp [hwp]), if_neg (by simp [hce2]), hcd, if_neg (by simp [Ch.recv1, hoc]), if_neg (by simp only; omega), if_pos]
    unfold turnB
    rw [if_pos (by simp [Ch.recv1, ho])]
    simp [Ch.recv1, htn]
    omega
  | false =>
    have e : gotS s p ack = { s with chans := s.chans, sent := s.sent, got := withM s.got ⟨p.dst, p.seq, digPk p⟩, acks := withM s.acks ⟨p.dst, p.seq, sha ack⟩ } := by
      unfold gotS
      rw [hca, if_neg (by simp [ho])]
    have hG : marksN (withM s.got ⟨p.dst, p.seq, digPk p⟩) = 0 ∧ (withM s.got ⟨p.dst, p.seq, digPk p⟩).length ≤ 50 := ⟨withM_right hpt.2.1 (wrongMk_of hpo.2.1 hpo.2.2.1 (sha_length _)), by omega⟩
    have hwt := wrongS_all hw hpt.2.2.2.1 (wrongS_right hw).chans hS hG hAk
    refine ⟨by rw [e]; exact hwt, by rw [e]; exact fits_all hf hpt.2.2.2.1 hS hG hAk, fun n => ?_⟩
    rw [e]
    have hce2 := cendL_same (t := { s with chans := s.chans, sent := s.sent, got := withM s.got ⟨p.dst, p.seq, digPk p⟩, acks := withM s.acks ⟨p.dst, p.seq, sha ack⟩ }) (l := [3]) hij hwt hj hst rfl ⟨rfl, rfl, rfl⟩ hov
    have hcd : chAt { s with chans := s.chans, sent := s.sent, got := withM s.got ⟨p.dst, p.seq, digPk p⟩, acks := withM s.acks ⟨p.dst, p.seq, sha ack⟩ } p.dst = c := by rw [hij]; exact chAt_some hj
    unfold rcvrN
    rw [if_neg (by simp [hwp]), if_neg (by simp [hce2]), hcd, if_neg (by simp [hoc]), if_neg (by simp only; omega), if_pos]
    unfold turnB
    rw [if_neg (by simp [ho])]
    have := withM_has s.got ⟨p.dst, p.seq, digPk p⟩
    simp only at this
    simp [this]
/-- what comes of settling -/
theorem gone_right {s : St} {p : Pk} {c' : Ch} (hr : sndrN s p = 0) (hf : s.fits) (h1 : (chAt s p.src).ordered = true → wrongCh c' = 0 ∧ c'.conn = (chAt s p.src).conn ∧ c'.ochan = (chAt s p.src).ochan ∧ c'.state ∈ ([3, 4] : List Int)) : wrongS (goneS s p c') = 0 ∧ (goneS s p c').fits ∧ sndrN (goneS s p c') p = 6 := by
  obtain ⟨hwp, hce, hoc, mk, hmk, -⟩ := sndrN_ok' hr
  have hpo := wrongPk_ok hwp
  obtain ⟨j, k, m, c, d, f, hij, hj, hca, hck, hd, hdm, hff, hfo, hwc, hwf, -⟩ := cendL_fol hce
  obtain ⟨hw, -, hst, hov⟩ := cendL_ok hce
  rw [hca] at hoc hst hov h1
  have hpt := wrongS_parts hw
  have hlw := withoutM_len s.sent p.src p.seq
  have hS : marksN (withoutM s.sent p.src p.seq) = 0 ∧ (withoutM s.sent p.src p.seq).length ≤ 50 := ⟨withoutM_right hpt.1, by omega⟩
  have hG : marksN s.got = 0 ∧ s.got.length ≤ 50 := ⟨hpt.2.1, hpt.2.2.2.2.2.1⟩
  have hK : marksN s.acks = 0 ∧ s.acks.length ≤ 50 := ⟨hpt.2.2.1, hpt.2.2.2.2.2.2⟩
  have fin : ∀ (l : List Ch) (x : Ch), goneS s p c' = { s with chans := l, sent := withoutM s.sent p.src p.seq, got := s.got, acks := s.acks } → l.length ≤ 8 → (∀ c ∈ l, wrongCh c = 0) → l[j]? = some x → x.state ∈ ([3, 4] : List Int) → x.conn = c.conn → x.ochan = c.ochan → wrongS (goneS s p c') = 0 ∧ (goneS s p c').fits ∧ sndrN (goneS s p c') p = 6 := by
    intro l x e g1 g2 g3 g4 g5 g6
    have hwt := wrongS_all hw g1 g2 hS hG hK
    refine ⟨by rw [e]; exact hwt, by rw [e]; exact fits_all hf g1 hS hG hK, ?_⟩
    rw [e]
    have hce2 := cendL_same (t := { s with chans := l, sent := withoutM s.sent p.src p.seq, got := s.got, acks := s.acks }) (l := [3, 4]) hij hwt g3 g4 g5 ⟨rfl, rfl, rfl⟩ hov
    have hcd : chAt { s with chans := l, sent := withoutM s.sent p.src p.seq, got := s.got, acks := s.acks } p.src = x := by rw [hij]; exact chAt_some g3
    unfold sndrN
    rw [if_neg (by simp [hwp]), if_neg (by simp [hce2]), hcd, if_neg (by simp [g6, hoc]), withoutM_has]
  cases ho : c.ordered with
  | true =>
    obtain ⟨q1, q2, q3, q4⟩ := h1 ho
    obtain ⟨g1, g2⟩ := set_right (j := j) hw q1
    refine fin (s.chans.set j c') c' ?_ g1 g2 (chAt_set hj) q4 q2 q3
    unfold goneS setCh
    rw [hca, if_pos ho, hij]
    rfl
  | false =>
    refine fin s.chans c ?_ hpt.2.2.2.1 (wrongS_right hw).chans hj hst rfl rfl
    unfold goneS
    rw [hca, if_neg (by simp [ho])]
end Go.Proofs.YtclhcjiblfokaaaGreatDoor
namespace Go.Proofs.YtclhcjiblfokaaaGreatDoor
open Go.RowKit

theorem askRecv_some (s : St) (p : Pk) (h : Sh) : ∃ z, askRecv s p h z := ShownN.some _ _ _ _
theorem askDone_some (s : St) (p : Pk) (ack : List (BitVec 8)) (h : Sh) : ∃ z, askDone s p ack h z := ShownN.some _ _ _ _
theorem askLate_some (s : St) (p : Pk) (next : Int) (h : Sh) : ∃ z, askLate s p next h z := by
  unfold askLate
  split
  · exact ShownN.some _ _ _ _
  · exact ShownN.some _ _ _ _
theorem doneN_zero {c : Ch} {p : Pk} {n : Nat} {z : Int} (h : doneN c p n z = 0) : c.ordered = true → c.ack < 1000000000000 := by
  intro ho
  unfold doneN at h
  split at h
  · cases h
  split at h
  · cases h
  split at h
  · cases h
  rename_i h3
  have : ¬ (1000000000000 ≤ c.ack) := fun h => h3 ⟨ho, h⟩
  omega
theorem packN_zero {s : St} {p : Pk} {n : Nat} {z : Int} (h : packN s p n z = 0) : sndrN s p = 0 ∧ doneN (chAt s p.src) p n z = 0 := by
  unfold packN at h
  split at h
  · rename_i h1; exact absurd h h1
  · rename_i h1; exact ⟨by simpa using h1, h⟩
theorem lateN_zero {s : St} {p : Pk} {next hh z : Int} (h : lateN s p next hh z = 0) : sndrN s p = 0 := by
  unfold lateN at h
  split at h
  · rename_i h1; exact absurd h h1
  · rename_i h1; simpa using h1
theorem recvN_zero {s : St} {p : Pk} {n : Nat} {z : Int} (h : recvN s p n z = 0) : rcvrN s p n = 0 := by
  unfold recvN at h
  split at h
  · rename_i h1; exact absurd h h1
  · rename_i h1; simpa using h1
theorem src_right {s : St} {p : Pk} (h : sndrN s p = 0) : wrongCh (chAt s p.src) = 0 ∧ (chAt s p.src).state ∈ ([3, 4] : List Int) := by
  obtain ⟨-, hce, -⟩ := sndrN_ok' h
  obtain ⟨j, k, m, c, d, f, hij, hj, hca, -, -, -, -, -, hwc, -⟩ := cendL_fol hce
  obtain ⟨-, -, hst, -⟩ := cendL_ok hce
  exact ⟨by rw [hca]; exact hwc, hst⟩
theorem ack_right {s : St} {p : Pk} {n : Nat} {z : Int} (h : packN s p n z = 0) (hf : s.fits) : wrongS (goneS s p (chAt s p.src).ack1) = 0 ∧ (goneS s p (chAt s p.src).ack1).fits ∧ sndrN (goneS s p (chAt s p.src).ack1) p = 6 := by
  obtain ⟨h1, h2⟩ := packN_zero h
  obtain ⟨hw, hst⟩ := src_right h1
  have hco := wrongCh_ok hw
  exact gone_right h1 hf fun ho => ⟨wrongCh_of hco.1 hco.2.1 hco.2.2.1 (by have := doneN_zero h2 ho; simp only [Ch.ack1]; omega), rfl, rfl, hst⟩
theorem shut_right {s : St} {p : Pk} {next hh z : Int} (h : lateN s p next hh z = 0) (hf : s.fits) : wrongS (goneS s p (chAt s p.src).shut) = 0 ∧ (goneS s p (chAt s p.src).shut).fits ∧ sndrN (goneS s p (chAt s p.src).shut) p = 6 := by
  have h1 := lateN_zero h
  obtain ⟨hw, hst⟩ := src_right h1
  have hco := wrongCh_ok hw
  exact gone_right h1 hf fun ho => ⟨wrongCh_of (by simp [Ch.shut]) hco.2.1 hco.2.2.1 hco.2.2.2, rfl, rfl, by simp [Ch.shut]⟩
end Go.Proofs.YtclhcjiblfokaaaGreatDoor
