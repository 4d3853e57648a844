/-
  alive answers true, given what package book's functions answer, and turns nothing that was there.
-/
import Derived.Test.YtgpainbnldghkaaDoorBookTellsW
import Derived.Test.YtgpainbnldghkaaDoorConstB
namespace Go.Proofs.YtgpainbnldghkaaDoor
open Go.RowKit

def dAl : List Dg := [⟨[98], [50], false⟩, ⟨[97], [49], false⟩]
def bAl : List Pr := [⟨[97], [49]⟩, ⟨[98], [50]⟩]
theorem play_al : playL dAl = .ok bAl := rfl
theorem wrong_al : wrongL bAl = (0, 0) := rfl
theorem fits_al : ∀ d ∈ dAl, d.fits := by
  intro d hd
  simp [dAl] at hd
  rcases hd with rfl | rfl <;> exact ⟨by simp, by simp⟩
theorem rout_len (l : List Pr) (h : wrongL l = (0, 0)) : (rout l).length = 32 := by
  unfold rout
  rw [h, if_pos rfl]
  unfold topD
  exact sha_length _
set_option maxRecDepth 100000 in
set_option maxHeartbeats 2000000 in
theorem alive4_any (HPC : PlayC 7) (HRC : RootC 12) (w : World) (hK : tableAt w) : Calls Tryd.prog 17 #[] w fun e w' => e = .returned (.bool true) ∧ Below w.heap.size w w' := by
  have hcv := conv_constB
  obtain ⟨w1, hw1⟩ : ∃ w1, w.alloc (.cells #[Value.int .u8 98] 5 (1, 2)) = w1 := ⟨_, rfl⟩
  obtain ⟨s1, b1, x1⟩ := one_newB w 98 _ rfl w1 hw1
  obtain ⟨w2, hw2⟩ : ∃ w2, w1.alloc (.cells #[Value.int .u8 50] 5 (1, 2)) = w2 := ⟨_, rfl⟩
  obtain ⟨s2, b2, x2⟩ := one_newB w1 50 _ rfl w2 hw2
  obtain ⟨w3, hw3⟩ : ∃ w3, w2.alloc (.cells #[Value.int .u8 97] 5 (1, 2)) = w3 := ⟨_, rfl⟩
  obtain ⟨s3, b3, x3⟩ := one_newB w2 97 _ rfl w3 hw3
  obtain ⟨w4, hw4⟩ : ∃ w4, w3.alloc (.cells #[Value.int .u8 49] 5 (1, 2)) = w4 := ⟨_, rfl⟩
  obtain ⟨s4, b4, x4⟩ := one_newB w3 49 _ rfl w4 hw4
  obtain ⟨w5, hw5⟩ : ∃ w5, w4.alloc (.cells #[.slice (some ⟨w.heap.size, 0, none⟩) 1 1, .slice (some ⟨w1.heap.size, 0, none⟩) 1 1, .bool false, .slice (some ⟨w2.heap.size, 0, none⟩) 1 1, .slice (some ⟨w3.heap.size, 0, none⟩) 1 1, .bool false] 39) = w5 := ⟨_, rfl⟩
  have s5 : w5.heap.size = w4.heap.size + 1 := by rw [← hw5]; simp
  have b5 : Below w4.heap.size w4 w5 := by rw [← hw5]; exact (Below.refl _ _).alloc (Nat.le_refl _) _
  have r5 : Row w5 w4.heap.size 39 [.slice (some ⟨w.heap.size, 0, none⟩) 1 1, .slice (some ⟨w1.heap.size, 0, none⟩) 1 1, .bool false, .slice (some ⟨w2.heap.size, 0, none⟩) 1 1, .slice (some ⟨w3.heap.size, 0, none⟩) 1 1, .bool false] := by rw [← hw5]; exact Row.new _ _ _
  have b35 : Below w3.heap.size w3 w5 := b4.trans (b5.mono (by omega))
  have b25 : Below w2.heap.size w2 w5 := b3.trans (b35.mono (by omega))
  have b15 : Below w1.heap.size w1 w5 := b2.trans (b25.mono (by omega))
  have b05 : Below w.heap.size w w5 := b1.trans (b15.mono (by omega))
  have hd : Doings w5 w5.heap.size (.slice (some ⟨w4.heap.size, 0, none⟩) 2 2) dAl := by
    refine .inr (.inr ⟨w4.heap.size, 0, 2, rfl, by simp [dAl], fun i d hd => ⟨by omega, ?_⟩⟩)
    match i, hd with
    | 0, hd =>
      obtain rfl : (⟨[98], [50], false⟩ : Dg) = d := by simpa [dAl] using hd
      exact ⟨_, _, r5.cell 0, r5.cell 1, r5.cell 2, (x1.below b15).mono (by omega), (x2.below b25).mono (by omega)⟩
    | 1, hd =>
      obtain rfl : (⟨[97], [49], false⟩ : Dg) = d := by simpa [dAl] using hd
      exact ⟨_, _, r5.cell 3, r5.cell 4, r5.cell 5, (x3.below b35).mono (by omega), (x4.below b5).mono (by omega)⟩
    | i + 2, hd => simp [dAl] at hd
  have HC1 := hid (HPC dAl _ w5.heap.size w5 hd (Nat.le_refl _) (by simp [dAl]) fits_al)
  have hpo : pout dAl = bAl := by simp only [pout, play_al]
  have hpc : pcode dAl = (0, 0) := by simp only [pcode, play_al]
  rw [hpo, hpc] at HC1
  unfold faultV at HC1
  have HB5 := hid b05
  have HK := hid hK
  have HR := hid (show RootC 12 from HRC)
  have HZ := hid (show w.heap.size ≤ w5.heap.size by omega)
  clear x1 x2 x3 x4 b1 b2 b3 b4 b5 b35 b25 b15 b05 r5 hd hpo hpc hK HPC HRC s1 s2 s3 s4 s5
  go_enter Tryd.func17, Tryd.ntmps17
  go_wp2_with fail
  refine HC1.out.mono ?_
  rintro e w6 ⟨hb6, o6, n6, c6, rfl, hx6⟩
  have hsz6 := hb6.size
  obtain ⟨o6', c6', he, _⟩ := hx6.shape
  obtain ⟨rfl, rfl, rfl⟩ : o6 = o6' ∧ n6 = 2 ∧ c6 = c6' := by simpa [bAl] using he
  obtain ⟨w7, hw7⟩ : ∃ w7, w6.alloc (.cells #[.int .i64 0, .int .i64 0] 27) = w7 := ⟨_, rfl⟩
  have hsz7 : w7.heap.size = w6.heap.size + 1 := by rw [← hw7]; simp
  have hb67 : Below w6.heap.size w6 w7 := by rw [← hw7]; exact (Below.refl _ _).alloc (Nat.le_refl _) _
  have HR7 := hid (show Row w7 w6.heap.size 27 [.int .i64 0, .int .i64 0] by rw [← hw7]; exact Row.new _ _ _)
  have HB7 := hid (HB5.out.trans ((hb6.trans (hb67.mono (by omega))).mono HZ.out))
  have HX7 := hid (hx6.below hb67)
  have HC2 := hid (HR.out bAl (.slice o6 2 c6) w6.heap.size w7 (HK.out.below HB7.out HK.out.lt) HX7.out hb67.size (by simp [bAl]) (fun p hp => by simp [bAl] at hp; rcases hp with rfl | rfl <;> exact ⟨by simp, by simp⟩))
  rw [wrong_al] at HC2
  unfold faultV at HC2
  have HW7 := hid hw7
  have HZ7 := hid (show w.heap.size ≤ w7.heap.size from HB7.out.size)
  clear hb6 hb67 hx6 hw7 HC1 he hw1 hw2 hw3 hw4 hw5
  go_wp2_with fail
  rw [HW7.out]
  refine HC2.out.mono ?_
  rintro e w8 ⟨hb8, o8, n8, c8, rfl, hx8⟩
  have hsz8 := hb8.size
  obtain ⟨o8', c8', he8, _⟩ := hx8.shape
  obtain ⟨rfl, rfl, rfl⟩ : o8 = o8' ∧ n8 = 32 ∧ c8 = c8' := by simpa [rout_len bAl wrong_al] using he8
  have hr8 := HR7.out.below hb8 (show w6.heap.size < w7.heap.size by omega)
  have hx78 := HX7.out.below (hb8.mono (show w6.heap.size ≤ w7.heap.size by omega))
  obtain ⟨b, o, rfl, hcells⟩ := hx78.some (by omega)
  obtain ⟨hbl, vk, vv, d0, d1, hvk, hvv⟩ := hcells 0 ⟨[97], [49]⟩ rfl
  obtain ⟨ok, ck, rfl, _⟩ := hvk.shape
  obtain ⟨bk, oo, rfl, hkc⟩ := hvk.some (by simp)
  have hk0 := hkc 0 (by simp)
  have g0 : w8.cell? ⟨b, o, none⟩ = some (.slice (some ⟨bk, oo, none⟩) 1 ck) := by simpa using d0
  have g1 : w8.cell? ⟨bk, oo, none⟩ = some (.int .u8 97) := by simpa [b8] using hk0.2
  have f0 := hr8.cell 0
  have hlb : b < w8.heap.size := by omega
  have hlk : bk < w8.heap.size := by have := hk0.1; omega
  have hl6 : w6.heap.size < w8.heap.size := by omega
  have hn6 : w6.heap.size ≠ w8.heap.size := by omega
  have hnb : b ≠ w8.heap.size := by omega
  have hnk : bk ≠ w8.heap.size := by omega
  have HB8 := hid ((HB7.out.trans (hb8.mono HZ7.out)).alloc (show w.heap.size ≤ w8.heap.size by have := HZ7.out; omega) (.cells #[.int .i64 0, .int .i64 0] 27))
  clear hb8 hx8 he8 hr8 hx78 hcells d0 d1 hvk hvv hkc hk0 HC2 hcv
  go_wp2
  go_ret
  exact ⟨rfl, HB8.out⟩
end Go.Proofs.YtgpainbnldghkaaDoor
