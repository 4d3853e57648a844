/-
  What finish answers: the digest of all that was taken, in new memory.
-/
import Derived.Test.YtedjmhiocmefiaaDoorShaTake
import Derived.Test.YtedjmhiocmefiaaDoorShaBytes
import Derived.Test.YtedjmhiocmefiaaDoorShaPut
namespace Go.Proofs.YtedjmhiocmefiaaDoor
open Go.RowKit

theorem ownsRow_mono {w : World} {base base' : Nat} {e : TypeId} {size : Nat} {v : Value} {n : Nat} {xs : List Value} (h : w.ownsRow base e size v n xs) (hb : base' ≤ base) : w.ownsRow base' e size v n xs := by
  refine ⟨h.1, ?_⟩
  rcases h.2 with h2 | ⟨g, cap, cur, h3, h4, h5⟩
  · exact .inl h2
  · exact .inr ⟨g, cap, cur, h3, by omega, h5⟩
theorem slice_rest_end (B : Nat) (w : World) : (Instr.sliceAt 42 (.pointer (some ⟨B, 8, none⟩)) (some (.int .i64 64)) none none).run Tryd.prog w = .ok (.slice (some ⟨B, 8, none⟩) 0 0) w := by kernel_rfl
theorem clear_none (a : Addr) (ty : TypeId) (w : World) : (Builtin.clear_ #[22] ty #[.slice (some a) 0 0]).run Tryd.prog w = .ok (.tuple #[]) w := by kernel_rfl

set_option maxRecDepth 100000 in
set_option maxHeartbeats 2000000 in
theorem finish_any (m R : List (BitVec 8)) (B : Nat) (w : World) (hA : Abs m R) (hB : Row w B 44 (digOf m R)) (hB0 : B ≠ 0) (hK : tableAt w) (hlen : m.length < 2305843009213693952) :
    Calls Tryd.prog 24 #[.pointer (some ⟨B, 0, none⟩)] w fun e w' =>
      ∃ v, e = .returned v ∧ w'.ownsRow w.heap.size 5 1 v 32 ((sha m).map V) ∧ w.grownBy w' (some B) := by
  have hR := hA.1
  unfold digOf at hB
  have hlt : B < w.heap.size := hB.lt
  have ch : w.cell? ⟨B, 72, none⟩ = some (.int .i64 ((m.length % 64 : Nat) : Int)) := (hB.cell 72).trans (dig_held _ _ _ _ hR)
  have hh : ((m.length % 64 : Nat) : Int) < 64 := by omega
  obtain ⟨v8, c8⟩ : ∃ v8, w.cell? ⟨B, 8 + m.length % 64, none⟩ = some v8 := ⟨_, (hB.cell _).trans (dig_at _ _ _ _ _ (by omega))⟩
  have f8 : w.frozen? ⟨B, 8 + m.length % 64, none⟩ = false := hB.frozen _
  have HA := hid hA
  have HB := hid hB
  have HK := hid hK
  have HLEN := hid hlen
  have HR := hid hR
  have HMS := hid (marked_set m R hR)
  have HMF := hid (marked_full m R hR)
  have HML := hid (marked_length m R hR)
  clear hA hB hK hlen hR
  generalize hhd : m.length % 64 = hd at *
  have HHD := hid hhd
  clear hhd
  go_enter Tryd.func24, Tryd.ntmps24
  go_wp2_with fail
  refine region_tail 8 (by kernel_rfl) (by kernel_rfl) ?_
  simp only [List.take_succ_cons, List.take_zero, List.drop_succ_cons, List.drop_zero]
  repeat still_step
  refine wpStill_nil ?_
  go_wp2_with fail
  obtain ⟨w1, hw1⟩ : ∃ w1, (w.setCell ⟨B, 8 + hd, none⟩ (.int .u8 128)).drew = w1 := ⟨_, rfl⟩
  rw [hw1]
  have hrow1 : Row w1 B 44 (dig (mixAll (m.length / 64) hTab m) (R.set hd 128) hd m.length) := by
    have h := HB.out.set (8 + hd) (V 128)
    rw [dig_set _ _ _ _ _ (by rw [HR.out]; omega)] at h
    rw [← hw1]; exact h
  have hg1 : w.grownBy w1 (some B) := by rw [← hw1]; exact grown_drew (grown_set _ _ _ _)
  have hR1 : (R.set hd 128).length = 64 := by rw [List.length_set]; exact HR.out
  have ch1 : w1.cell? ⟨B, 72, none⟩ = some (.int .i64 (hd : Int)) := (hrow1.cell 72).trans (dig_held _ _ _ _ hR1)
  have hlt1 : B < w1.heap.size := hrow1.lt
  have HROW1 := hid hrow1
  have HG1 := hid hg1
  have HR1 := hid hR1
  clear hrow1 hg1 hR1 hw1 ch c8 f8
  by_cases h63 : hd = 63
  · have hm := HMF.out h63
    rw [hm] at HROW1
    have H63 := hid h63
    clear hm HMF HMS
    obtain ⟨w2, hw2⟩ : ∃ w2, w1.drew = w2 := ⟨_, rfl⟩
    have hrow2 : Row w2 B 44 (dig (mixAll (m.length / 64) hTab m) (marked m R) hd m.length) := by rw [← hw2]; exact HROW1.out
    have hg2 : w.grownBy w2 (some B) := by rw [← hw2]; exact grown_drew HG1.out
    have HROW2 := hid hrow2
    have HG2 := hid hg2
    have HW2 := hid hw2
    clear hrow2 hg2 hw2 HG1 HROW1
    have hsl : ∀ w : World, (Instr.sliceAt 42 (.pointer (some ⟨B, 8, none⟩)) (some (.int .i64 ((hd : Int) + 1))) none none).run Tryd.prog w = .ok (.slice (some ⟨B, 8, none⟩) 0 0) w := by subst h63; exact slice_rest_end B
    have hwr : IntKind.i64.wrap ((hd : Int) + 1) = (hd : Int) + 1 := by simp [IntKind.wrap, IntKind.bits, IntKind.signed]; split <;> omega
    have hdge : 56 ≤ hd := by omega
    clear h63
    refine region_tail 9 (by kernel_rfl) (by kernel_rfl) ?_
    simp only [List.take_succ_cons, List.take_zero, List.drop_succ_cons, List.drop_zero]
    repeat still_step
    refine wpStill_nil ?_
    refine wpList_clear rfl (.tmp 19) 22 rfl _ _ rfl (clear_none _ _ _) ?_
    rw [HW2.out]
    clear hsl ch1 hwr
    have ch2 : w2.cell? ⟨B, 72, none⟩ = some (.int .i64 (hd : Int)) := (HROW2.out.cell 72).trans (dig_held _ _ _ _ HML.out)
    have hsh := sha_long m R HA.out (by rw [HHD.out]; omega)
    have hs' : (56 : Int) ≤ (hd : Int) := by omega
    have hmix := mix_any (mixAll (m.length / 64) hTab m) ((marked m R).map V ++ [.int .i64 (hd : Int), .int .u64 (m.length : Int)]) (marked m R) B 8 64 B w2 HROW2.out hB0 (HK.out.grown HG2.out hB0)
      (fun i hi => (HROW2.out.cell (8 + i)).trans (dig_at _ _ _ _ _ (by rw [HML.out]; exact hi)))
    have HMIX := hid hmix
    have HSH := hid hsh
    clear hmix hsh
    go_wp2_with fail
    refine HMIX.out.mono ?_
    rintro e w3 ⟨rfl, hg3, hrow3⟩
    obtain ⟨w4, hclr, hg4, hrow4⟩ := clear_rest (mixed (mixAll (m.length / 64) hTab m) (marked m R)) (marked m R) hd m.length 0 64 B w3 hrow3 HML.out (by omega)
    have hput := putSize_any (mixed (mixAll (m.length / 64) hTab m) (marked m R)) (List.replicate 64 0) hd m.length B (by simp) HLEN.out w4 hrow4
    have HCLR := hid hclr
    have HPUT := hid hput
    have HG4 := hid (grown_trans HG2.out (grown_trans hg3 hg4))
    clear hclr hput hg3 hg4 hrow3 hrow4 ch2
    go_wp2_with (refine wpList_clear rfl (.tmp 34) 22 rfl _ _ rfl (HCLR.out _) ?_)
    refine HPUT.out.mono ?_
    rintro e w5 ⟨rfl, hg5, hrow5⟩
    have hl5 : ((List.replicate 64 (0 : BitVec 8)).take 56 ++ be8 (8 * m.length)).length = 64 := by simp [be8]
    have hg5' := grown_trans HG4.out hg5
    have hmix2 := mix_any (mixed (mixAll (m.length / 64) hTab m) (marked m R)) (((List.replicate 64 (0 : BitVec 8)).take 56 ++ be8 (8 * m.length)).map V ++ [.int .i64 (hd : Int), .int .u64 (m.length : Int)]) ((List.replicate 64 (0 : BitVec 8)).take 56 ++ be8 (8 * m.length)) B 8 64 B w5 hrow5 hB0 (HK.out.grown hg5' hB0)
      (fun i hi => (hrow5.cell (8 + i)).trans (dig_at _ _ _ _ _ (by rw [hl5]; exact hi)))
    have HMIX2 := hid hmix2
    have HG5 := hid hg5'
    clear hmix2 hg5 hrow5 hg5' hl5
    go_wp2_with fail
    refine HMIX2.out.mono ?_
    rintro e w6 ⟨rfl, hg6, hrow6⟩
    have hby := bytes_any (mixed (mixed (mixAll (m.length / 64) hTab m) (marked m R)) ((List.replicate 64 (0 : BitVec 8)).take 56 ++ be8 (8 * m.length))) _ B w6 hrow6
    rw [← HSH.out] at hby
    have HBYT := hid hby
    have HG6 := hid (grown_trans HG5.out hg6)
    clear hby hg6 hrow6
    go_wp2_with fail
    refine HBYT.out.mono ?_
    rintro e w7 ⟨v, rfl, hown, hbel⟩
    go_wp2
    go_ret
    exact ⟨_, rfl, ownsRow_mono hown HG6.out.size, grown_trans HG6.out (grown_below hbel)⟩
  · obtain ⟨w2, hclr0, hg2, hrow2⟩ := clear_rest (mixAll (m.length / 64) hTab m) (R.set hd 128) hd m.length (hd + 1) (64 - (hd + 1)) B w1.drew HROW1.out HR1.out (by omega)
    rw [HMS.out] at hrow2
    rw [show 64 - (hd + 1) = 63 - hd by omega] at hclr0
    have HCLR0 := hid hclr0
    have HROW2 := hid hrow2
    have HG2 := hid (grown_trans (grown_drew HG1.out) hg2)
    have hsl : ∀ w : World, (Instr.sliceAt 42 (.pointer (some ⟨B, 8, none⟩)) (some (.int .i64 ((hd : Int) + 1))) none none).run Tryd.prog w = .ok (.slice (some ⟨B, 8 + (hd + 1), none⟩) (63 - hd) (63 - hd)) w := fun w => by
      have h := slice_rest B (hd + 1) (by omega) w
      rw [show 64 - (hd + 1) = 63 - hd by omega] at h
      exact h
    have hwr : IntKind.i64.wrap ((hd : Int) + 1) = (hd : Int) + 1 := by simp [IntKind.wrap, IntKind.bits, IntKind.signed]; split <;> omega
    clear hclr0 hrow2 hg2 HMS HMF
    refine region_tail 9 (by kernel_rfl) (by kernel_rfl) ?_
    simp only [List.take_succ_cons, List.take_zero, List.drop_succ_cons, List.drop_zero]
    repeat still_step
    refine wpStill_nil ?_
    refine wpList_clear rfl (.tmp 19) 22 rfl _ _ rfl (HCLR0.out _) ?_
    clear hsl hwr ch1
    have ch2 : w2.cell? ⟨B, 72, none⟩ = some (.int .i64 (hd : Int)) := (HROW2.out.cell 72).trans (dig_held _ _ _ _ HML.out)
    by_cases h56 : hd < 56
    · have hsh := sha_short m R HA.out (by rw [HHD.out]; omega)
      have hs' : (hd : Int) < 56 := by omega
      have hput := putSize_any (mixAll (m.length / 64) hTab m) (marked m R) hd m.length B HML.out HLEN.out w2 HROW2.out
      have HPUT := hid hput
      have HSH := hid hsh
      clear hput hsh
      go_wp2_with fail
      refine HPUT.out.mono ?_
      rintro e w3 ⟨rfl, hg3, hrow3⟩
      have hl3 : ((marked m R).take 56 ++ be8 (8 * m.length)).length = 64 := by simp [HML.out, be8]
      have hg3' := grown_trans HG2.out hg3
      have hmix := mix_any (mixAll (m.length / 64) hTab m) (((marked m R).take 56 ++ be8 (8 * m.length)).map V ++ [.int .i64 (hd : Int), .int .u64 (m.length : Int)]) ((marked m R).take 56 ++ be8 (8 * m.length)) B 8 64 B w3 hrow3 hB0 (HK.out.grown hg3' hB0)
        (fun i hi => (hrow3.cell (8 + i)).trans (dig_at _ _ _ _ _ (by rw [hl3]; exact hi)))
      have HMIX := hid hmix
      have HG3 := hid hg3'
      clear hmix hg3 hrow3 hg3' hl3 ch2
      go_wp2_with fail
      refine HMIX.out.mono ?_
      rintro e w4 ⟨rfl, hg4, hrow4⟩
      have hby := bytes_any (mixed (mixAll (m.length / 64) hTab m) ((marked m R).take 56 ++ be8 (8 * m.length))) _ B w4 hrow4
      rw [← HSH.out] at hby
      have HBYT := hid hby
      have HG4 := hid (grown_trans HG3.out hg4)
      clear hby hg4 hrow4
      go_wp2_with fail
      refine HBYT.out.mono ?_
      rintro e w5 ⟨v, rfl, hown, hbel⟩
      go_wp2
      go_ret
      exact ⟨_, rfl, ownsRow_mono hown HG4.out.size, grown_trans HG4.out (grown_below hbel)⟩
    · have hsh := sha_long m R HA.out (by rw [HHD.out]; omega)
      have hs' : (56 : Int) ≤ (hd : Int) := by omega
      have hmix := mix_any (mixAll (m.length / 64) hTab m) ((marked m R).map V ++ [.int .i64 (hd : Int), .int .u64 (m.length : Int)]) (marked m R) B 8 64 B w2 HROW2.out hB0 (HK.out.grown HG2.out hB0)
        (fun i hi => (HROW2.out.cell (8 + i)).trans (dig_at _ _ _ _ _ (by rw [HML.out]; exact hi)))
      have HMIX := hid hmix
      have HSH := hid hsh
      clear hmix hsh
      go_wp2_with fail
      refine HMIX.out.mono ?_
      rintro e w3 ⟨rfl, hg3, hrow3⟩
      obtain ⟨w4, hclr, hg4, hrow4⟩ := clear_rest (mixed (mixAll (m.length / 64) hTab m) (marked m R)) (marked m R) hd m.length 0 64 B w3 hrow3 HML.out (by omega)
      have hput := putSize_any (mixed (mixAll (m.length / 64) hTab m) (marked m R)) (List.replicate 64 0) hd m.length B (by simp) HLEN.out w4 hrow4
      have HCLR := hid hclr
      have HPUT := hid hput
      have HG4 := hid (grown_trans HG2.out (grown_trans hg3 hg4))
      clear hclr hput hg3 hg4 hrow3 hrow4 ch2
      go_wp2_with (refine wpList_clear rfl (.tmp 34) 22 rfl _ _ rfl (HCLR.out _) ?_)
      refine HPUT.out.mono ?_
      rintro e w5 ⟨rfl, hg5, hrow5⟩
      have hl5 : ((List.replicate 64 (0 : BitVec 8)).take 56 ++ be8 (8 * m.length)).length = 64 := by simp [be8]
      have hg5' := grown_trans HG4.out hg5
      have hmix2 := mix_any (mixed (mixAll (m.length / 64) hTab m) (marked m R)) (((List.replicate 64 (0 : BitVec 8)).take 56 ++ be8 (8 * m.length)).map V ++ [.int .i64 (hd : Int), .int .u64 (m.length : Int)]) ((List.replicate 64 (0 : BitVec 8)).take 56 ++ be8 (8 * m.length)) B 8 64 B w5 hrow5 hB0 (HK.out.grown hg5' hB0)
        (fun i hi => (hrow5.cell (8 + i)).trans (dig_at _ _ _ _ _ (by rw [hl5]; exact hi)))
      have HMIX2 := hid hmix2
      have HG5 := hid hg5'
      clear hmix2 hg5 hrow5 hg5' hl5
      go_wp2_with fail
      refine HMIX2.out.mono ?_
      rintro e w6 ⟨rfl, hg6, hrow6⟩
      have hby := bytes_any (mixed (mixed (mixAll (m.length / 64) hTab m) (marked m R)) ((List.replicate 64 (0 : BitVec 8)).take 56 ++ be8 (8 * m.length))) _ B w6 hrow6
      rw [← HSH.out] at hby
      have HBYT := hid hby
      have HG6 := hid (grown_trans HG5.out hg6)
      clear hby hg6 hrow6
      go_wp2_with fail
      refine HBYT.out.mono ?_
      rintro e w7 ⟨v, rfl, hown, hbel⟩
      go_wp2
      go_ret
      exact ⟨_, rfl, ownsRow_mono hown HG6.out.size, grown_trans HG6.out (grown_below hbel)⟩
end Go.Proofs.YtedjmhiocmefiaaDoor
