/-
  What package proof's Shown answers: whether a proof shows its pair of the book with a root.
-/
import Derived.Test.YtjfhhlgblmjonaaDoorProofFits
import Derived.Test.YtjfhhlgblmjonaaDoorProofEq
import Derived.Test.YtjfhhlgblmjonaaDoorProofFace
namespace Go.Proofs.YtjfhhlgblmjonaaDoor
open Go.RowKit

theorem shownB_iff (r : List (BitVec 8)) (p : Prf) : shownB r p ↔ fitsB p ∧ sha (topX p.size.toNat (upD (wayP p) p.path.reverse (leafD p.key p.val))) = r := by
  unfold shownB fitsB
  constructor
  · rintro ⟨a, b, c, d, e, f, g, h, i⟩
    exact ⟨⟨a, b, c, d, e, f, g, h⟩, i⟩
  · rintro ⟨⟨a, b, c, d, e, f, g, h⟩, i⟩
    exact ⟨a, b, c, d, e, f, g, h, i⟩
set_option maxRecDepth 100000 in
set_option maxHeartbeats 4000000 in
theorem shownC : ShownC 10 := by
  intro r p rv v N w hT hN hr hp hf hrl
  obtain ⟨orr, cr, rfl, _⟩ := hr.shape
  have HPV := hid hp
  obtain ⟨kv, vv, pv, rfl, hk, hv, hpt⟩ := hp
  obtain ⟨o1, c1, rfl, _⟩ := hk.shape
  obtain ⟨o2, c2, rfl, _⟩ := hv.shape
  obtain ⟨o3, c3, rfl, _⟩ := hpt.shape
  obtain ⟨w1, hw1⟩ : ∃ w1, w.alloc (.cells #[.int .i64 p.index, .int .i64 p.size, .slice o1 p.key.length c1, .slice o2 p.val.length c2, .slice o3 p.path.length c3] 26) = w1 := ⟨_, rfl⟩
  have hsz1 : w1.heap.size = w.heap.size + 1 := by rw [← hw1]; simp
  have hb1 : Below w.heap.size w w1 := by rw [← hw1]; exact (Below.refl _ _).alloc (Nat.le_refl _) _
  have hrow1 : Row w1 w.heap.size 26 [.int .i64 p.index, .int .i64 p.size, .slice o1 p.key.length c1, .slice o2 p.val.length c2, .slice o3 p.path.length c3] := by rw [← hw1]; exact Row.new _ _ _
  have HB1 := hid hb1
  have HT := hid hT
  have HRT := hid hr
  have HFI := hid (fits_any p _ N w1 (by omega) (HPV.out.below (hb1.mono hN)) hf)
  have HRX := hid (show ∀ wx, Below w1.heap.size w1 wx → Row wx w.heap.size 26 [.int .i64 p.index, .int .i64 p.size, .slice o1 p.key.length c1, .slice o2 p.val.length c2, .slice o3 p.path.length c3] from fun wx hx => hrow1.below hx (by omega))
  have q0 := hrow1.cell 0
  have q1 := hrow1.cell 1
  have q2 := hrow1.cell 2
  have q3 := hrow1.cell 3
  have q4 := hrow1.cell 4
  clear hk hv hpt hb1 hrow1 hT hr hf
  generalize hrn : r.length = rn at *
  clear hrn
  go_enter Tryd.func10, Tryd.ntmps10
  go_wp2_with fail
  refine HFI.out.mono ?_
  rintro e w2 ⟨hb2, bb, rfl, hbb⟩
  have HBB := hid hbb
  have hz2 := hb2.size
  have HB2 := hid hb2
  have HBW2 := hid (HB1.out.trans (hb2.mono (by omega)))
  have HR2 := hid (HRX.out w2 hb2)
  have r0 := HR2.out.cell 0
  have r1 := HR2.out.cell 1
  have r2 := HR2.out.cell 2
  have r3 := HR2.out.cell 3
  have r4 := HR2.out.cell 4
  clear hb2 hbb HFI q0 q1 q2 q3 q4
  cases bb with
  | false =>
    go_wp2
    go_ret
    exact ⟨HBW2.out, Tells.no (fun h => absurd (HBB.out.2 ((shownB_iff r p).1 h).1) (by simp))⟩
  | true =>
    have hfb : fitsB p := HBB.out.1 rfl
    have HFB := hid hfb
    obtain ⟨f1, f2, f3, f4, f5, f6, f7, f8⟩ := hfb
    have HLA := hid (layers_any p _ N w2 (HT.out.past HBW2.out) (by omega) (HPV.out.below (HBW2.out.mono hN)) f1 f2 f3 f4 f5 f6 f7 f8)
    have HLEN := hid (layP_length p f7)
    have HTS := hid (show (topX p.size.toNat (upD (wayP p) p.path.reverse (leafD p.key p.val))).length ≤ 1000000 by
      rw [topX_len, upD_len _ _ _ (by unfold leafD; exact sha_length _)]
      decide)
    clear f1 f2 f3 f4 f5 f6 f7 f8
    go_wp2_with fail
    refine HLA.out.mono ?_
    rintro e w3 ⟨hb3, lv, rfl, ho3⟩
    have hz3 := hb3.size
    obtain ⟨o5, c5, hlv, _⟩ := ho3.shape
    rw [HLEN.out] at hlv
    subst hlv
    obtain ⟨g, y, hg, hy, hown⟩ := ho3.get 0 _ (show (layP p)[0]? = some (topX p.size.toNat (upD (wayP p) p.path.reverse (leafD p.key p.val))) from rfl)
    subst hg
    obtain ⟨o6, c6, rfl, _⟩ := hown.shape
    obtain ⟨x, hx⟩ : ∃ x, topX p.size.toNat (upD (wayP p) p.path.reverse (leafD p.key p.val)) = x := ⟨_, rfl⟩
    rw [hx] at hy hown HTS
    have HX := hid hx
    have HBW3 := hid (HBW2.out.trans (hb3.mono (by omega)))
    have HSM := hid (sumC x _ w3.heap.size w3 (Nat.le_refl _) hown.bytes (HT.out.past HBW3.out) HTS.out)
    have e0 : (0 : Int) < (p.path.length : Int) + 2 := by omega
    clear hb3 ho3 hown HLA hx
    generalize x.length = nx at *
    go_wp2_with fail
    refine HSM.out.mono ?_
    rintro e w4 ⟨o7, c7, rfl, hown7, hb7⟩
    have hz4 := hb7.size
    have HBW4 := hid (HBW3.out.trans (hb7.mono (by omega)))
    have HEQ := hid (equal_any (sha x) r (.slice o7 32 c7) (.slice orr rn cr) w4.heap.size N w4 hown7.bytes (HRT.out.below (HBW4.out.mono hN)))
    clear hown7 hb7 HSM
    go_wp2_with fail
    refine HEQ.out.mono ?_
    rintro e w5 ⟨rfl, hw5⟩
    obtain rfl := hw5.symm
    go_wp2
    go_ret
    refine ⟨HBW4.out, _, rfl, ?_⟩
    rw [decide_eq_true_iff, shownB_iff, HX.out]
    exact ⟨fun h => ⟨HFB.out, h⟩, fun h => h.2⟩
end Go.Proofs.YtjfhhlgblmjonaaDoor
