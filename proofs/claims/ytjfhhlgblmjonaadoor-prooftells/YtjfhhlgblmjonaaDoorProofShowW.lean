/-
  What package proof's Show answers: a book's proof of a key that stands in it; or what is wrong.
-/
import Derived.Test.YtjfhhlgblmjonaaDoorProofAtW
import Derived.Test.YtjfhhlgblmjonaaDoorBookWrong
import Derived.Test.YtjfhhlgblmjonaaDoorBookFind
import Derived.Test.YtjfhhlgblmjonaaDoorProofFace
namespace Go.Proofs.YtjfhhlgblmjonaaDoor
open Go.RowKit

set_option maxRecDepth 100000 in
set_option maxHeartbeats 2000000 in
theorem showC : ShowC 4 := by
  intro l k sv kv N w hT hN hb hk hlen hfit hkl
  obtain ⟨oa, ca, rfl, hca⟩ := hb.shape
  obtain ⟨ob, cb, rfl, hcb⟩ := hk.shape
  obtain ⟨w0, hw0⟩ : ∃ w0, w.alloc (.cells #[.int .i64 0, .int .i64 0, .slice none 0 0, .slice none 0 0, .slice none 0 0] 26) = w0 := ⟨_, rfl⟩
  have hsz0 : w0.heap.size = w.heap.size + 1 := by rw [← hw0]; simp
  have hb0 : Below w.heap.size w w0 := by rw [← hw0]; exact (Below.refl _ _).alloc (Nat.le_refl _) _
  have hrow0 : Row w0 w.heap.size 26 [.int .i64 0, .int .i64 0, .slice none 0 0, .slice none 0 0, .slice none 0 0] := by rw [← hw0]; exact Row.new _ _ _
  have HWR := hid (wrongC l _ N w0 (hb.below (hb0.mono hN)) (by omega) hlen hfit)
  have HB := hid hb
  have HK := hid hk
  have HB0 := hid hb0
  have HR0 := hid hrow0
  have HT := hid hT
  obtain ⟨c, hc⟩ : ∃ c, (wrongL l).1 = c := ⟨_, rfl⟩
  obtain ⟨i, hi⟩ : ∃ i, (wrongL l).2 = i := ⟨_, rfl⟩
  rw [hc, hi] at HWR
  have HC := hid hc
  unfold faultV at HWR
  have HLEN := hid hlen
  clear hb hk hb0 hrow0 hc hi hT hfit hlen hkl
  go_enter Tryd.func4, Tryd.ntmps4
  go_wp2_with fail
  refine HWR.out.mono ?_
  rintro e w1 ⟨hb1, rfl⟩
  have hsz1 := hb1.size
  obtain ⟨w2, hw2⟩ : ∃ w2, w1.alloc (.cells #[.int .i64 c, .int .i64 (i : Int)] 40) = w2 := ⟨_, rfl⟩
  have hsz2 : w2.heap.size = w1.heap.size + 1 := by rw [← hw2]; simp
  have hb12 : Below w1.heap.size w1 w2 := by rw [← hw2]; exact (Below.refl _ _).alloc (Nat.le_refl _) _
  have hb02 : Below w0.heap.size w0 w2 := hb1.trans (hb12.mono (by omega))
  have HB2 := hid hb02
  have HBW2 := hid (HB0.out.trans (hb02.mono (by omega)))
  have HR2 := hid (HR0.out.below hb02 (by omega))
  have hrf : Row w2 w1.heap.size 40 [.int .i64 c, .int .i64 (i : Int)] := by rw [← hw2]; exact Row.new _ _ _
  have f0 := hrf.cell 0
  have HRF := hid hrf
  clear hb1 hb12 hb02 HWR hrf hw0
  by_cases hc0 : c = 0
  · subst hc0
    obtain ⟨hs, hft, hl2⟩ := wrongL_sorted l HC.out
    have HFD := hid (find_any l k _ _ N w2 (by omega) (HB.out.below (HBW2.out.mono hN)) (HK.out.below (HBW2.out.mono hN)) hs (by omega))
    have HFT := hid hft
    have HL2 := hid hl2
    clear hs hft hl2
    go_wp2_with fail
    refine HFD.out.mono ?_
    rintro e w3 ⟨hb3, j, fd, hat, rfl⟩
    have hsz3 := hb3.size
    have HB3 := hid (HBW2.out.trans (hb3.mono (by omega)))
    have HR3 := hid (HR2.out.below hb3 (by omega))
    clear hb3 HFD f0 hw2
    cases fd with
    | false =>
      have HAT := hid hat
      clear hat
      obtain ⟨w4, hw4, hr4, hb4, hk4, hz4⟩ := five_set HR3.out (.int .i64 0) (.int .i64 0) (.slice none 0 0) (.slice none 0 0) (.slice none 0 0)
      have y0 := HR3.out.cell 0
      have y1 := HR3.out.cell 1
      have y2 := HR3.out.cell 2
      have y3 := HR3.out.cell 3
      have y4 := HR3.out.cell 4
      have z0 := HR3.out.frozen 0
      have z1 := HR3.out.frozen 1
      have z2 := HR3.out.frozen 2
      have z3 := HR3.out.frozen 3
      have z4 := HR3.out.frozen 4
      have u0 := hr4.cell 0
      have u1 := hr4.cell 1
      have u2 := hr4.cell 2
      have u3 := hr4.cell 3
      have u4 := hr4.cell 4
      have HB4 := hid (HB3.out.trans hb4)
      clear hr4 hb4 hk4 hz4
      go_wp2_with fail
      refine bodyPost_ret (v := .tuple #[.agg #[.int .i64 0, .int .i64 0, .slice none 0 0, .slice none 0 0, .slice none 0 0], .int .i64 6]) (by simp [results, Tryd.results4, go_sem, u0, u1, u2, u3, u4]) rfl ⟨HB4.out, _, _, _, 6, Prf.none, rfl, .inl ⟨rfl, rfl⟩, .inl ⟨rfl, rfl⟩, .inl ⟨rfl, rfl⟩, .inr ⟨HC.out, j, .inl ⟨HAT.out, rfl, rfl⟩⟩⟩
    | true =>
      obtain ⟨q, hq, _⟩ := hat.found
      have HAT := hid hat
      have HQ := hid hq
      have HPA := hid (proofAt_any l j q _ N w3 (HT.out.past HB3.out) (by omega) (HB.out.below (HB3.out.mono hN)) hq HFT.out HL2.out)
      clear hat hq
      generalize hL : l.length = L at *
      have HLL := hid hL
      clear hL
      go_wp2_with fail
      refine HPA.out.mono ?_
      rintro e w5 ⟨hb5, o1, n1, c1, o2, n2, c2, o3, n3, c3, rfl, hk5, hv5, hp5⟩
      have HR5 := hid (HR3.out.below hb5 (by omega))
      have HB5 := hid (HB3.out.trans (hb5.mono (by omega)))
      have hz5 := hb5.size
      obtain ⟨w6, hw6, hr6, hb6, hk6, hz6⟩ := five_set HR5.out (.int .i64 (j : Int)) (.int .i64 (L : Int)) (.slice o1 n1 c1) (.slice o2 n2 c2) (.slice o3 n3 c3)
      have y0 := HR5.out.cell 0
      have y1 := HR5.out.cell 1
      have y2 := HR5.out.cell 2
      have y3 := HR5.out.cell 3
      have y4 := HR5.out.cell 4
      have z0 := HR5.out.frozen 0
      have z1 := HR5.out.frozen 1
      have z2 := HR5.out.frozen 2
      have z3 := HR5.out.frozen 3
      have z4 := HR5.out.frozen 4
      have u0 := hr6.cell 0
      have u1 := hr6.cell 1
      have u2 := hr6.cell 2
      have u3 := hr6.cell 3
      have u4 := hr6.cell 4
      have HB6 := hid (HB5.out.trans hb6)
      have HK6 := hid (show OwnB w6 _ _ _ from hk6.owns hk5 (by decide))
      have HV6 := hid (show OwnB w6 _ _ _ from hk6.owns hv5 (by decide))
      have HP6 := hid (hp5.keep hk6 (by decide) (by decide))
      clear hb5 hk5 hv5 hp5 hr6 hb6 hk6 hz6 HPA
      go_wp2_with fail
      refine bodyPost_ret (v := .tuple #[.agg #[.int .i64 (j : Int), .int .i64 (L : Int), .slice o1 n1 c1, .slice o2 n2 c2, .slice o3 n3 c3], .int .i64 0]) (by simp [results, Tryd.results4, go_sem, u0, u1, u2, u3, u4]) rfl ⟨HB6.out, _, _, _, 0, proofAt l j q, by unfold proofAt; rw [HLL.out], HK6.out.bytes, HV6.out.bytes, HP6.out.lists, .inr ⟨HC.out, j, .inr ⟨HAT.out, rfl, q, HQ.out, rfl⟩⟩⟩
  · have e1 : (c != 0) = true := by simpa using hc0
    obtain ⟨w4, hw4, hr4, hb4, hk4, hz4⟩ := five_set HR2.out (.int .i64 0) (.int .i64 0) (.slice none 0 0) (.slice none 0 0) (.slice none 0 0)
    have y0 := HR2.out.cell 0
    have y1 := HR2.out.cell 1
    have y2 := HR2.out.cell 2
    have y3 := HR2.out.cell 3
    have y4 := HR2.out.cell 4
    have z0 := HR2.out.frozen 0
    have z1 := HR2.out.frozen 1
    have z2 := HR2.out.frozen 2
    have z3 := HR2.out.frozen 3
    have z4 := HR2.out.frozen 4
    have u0 := hr4.cell 0
    have u1 := hr4.cell 1
    have u2 := hr4.cell 2
    have u3 := hr4.cell 3
    have u4 := hr4.cell 4
    have f4 := (hk4.row HRF.out (by decide)).cell 0
    have HB4 := hid (HBW2.out.trans hb4)
    clear hr4 hb4 hk4 hz4
    go_wp2_with fail
    go_region
    go_wp2_with fail
    refine bodyPost_ret (v := .tuple #[.agg #[.int .i64 0, .int .i64 0, .slice none 0 0, .slice none 0 0, .slice none 0 0], .int .i64 c]) (by simp [results, Tryd.results4, go_sem, u0, u1, u2, u3, u4]) rfl ⟨HB4.out.drew, _, _, _, c, Prf.none, rfl, .inl ⟨rfl, rfl⟩, .inl ⟨rfl, rfl⟩, .inl ⟨rfl, rfl⟩, .inl ⟨by rw [HC.out]; exact hc0, HC.out.symm, rfl⟩⟩
end Go.Proofs.YtjfhhlgblmjonaaDoor
