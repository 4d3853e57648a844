/-
  What the laws of states ask first: it is true.
-/
import Derived.Test.YtooemgkjkngpcaaDoorStBookC
import Derived.Test.YtooemgkjkngpcaaDoorSameB
namespace Go.Proofs.YtooemgkjkngpcaaDoor
open Go.RowKit

def aliveCn : Cn := ⟨1, 0, 0, -1⟩
def aliveS : St := ⟨⟨#[97]⟩, 0, 0, [], [aliveCn], [], [], [], [], []⟩
theorem alive_wrong : wrongS aliveS = 0 := by decide
theorem alive_none : wrongS St.none = 7 := by decide
theorem alive_key : keyL kwConn [0] = [99, 111, 110, 110, 47, 48] := by
  rw [keyL, keyL, digN_small (by decide)]
  rfl
theorem alive_val : (connB aliveCn).length = 9 := by decide
theorem alive_book : bookR aliveS = [⟨[99, 111, 110, 110, 47, 48], connB aliveCn⟩] := by
  rw [bookR_ok alive_wrong]
  have h := (book_of (wrongS_right alive_wrong)).2.1
  have e : (entries aliveS).map prOf = [⟨[99, 111, 110, 110, 47, 48], connB aliveCn⟩] := by
    show [prOf (entCn (aliveCn, 0))] = _
    unfold prOf entCn
    simp only
    rw [alive_key]
  rw [e] at h
  exact List.perm_singleton.1 h
theorem one_conn {w : World} {g N : Nat} (c : Cn) (h : Row w g 45 (cnCells c)) (hN : g < N) : Many CnR 4 w N (.slice (some ⟨g, 0, none⟩) 1 1) [c] := by
  refine ⟨[cnCells c], rfl, .inr (.inr ⟨g, 0, 1, rfl, Nat.le_refl _, fun i r hr => ?_⟩), fun i r x hr hx => ?_⟩
  · obtain rfl : i = 0 := by
      have := (List.getElem?_eq_some_iff.1 hr).1
      simpa using this
    obtain rfl : cnCells c = r := by simpa using hr
    exact ⟨hN, fun j x hx => by rw [Nat.zero_mul, Nat.zero_add, h.cell]; exact hx⟩
  · obtain rfl : i = 0 := by
      have := (List.getElem?_eq_some_iff.1 hr).1
      simpa using this
    obtain rfl : cnCells c = r := by simpa using hr
    obtain rfl : c = x := by simpa using hx
    rfl
theorem stNone (w : World) (N : Nat) : StV w N (.agg #[.string ⟨#[]⟩, .int .i64 0, .int .i64 0, .slice none 0 0, .slice none 0 0, .slice none 0 0, .slice none 0 0, .slice none 0 0, .slice none 0 0, .slice none 0 0]) St.none := ⟨_, _, _, _, _, _, _, rfl, Many.nil _ _ _ _, Many.nil _ _ _ _, Many.nil _ _ _ _, Many.nil _ _ _ _, Many.nil _ _ _ _, Many.nil _ _ _ _, Many.nil _ _ _ _⟩
theorem stNone_fits : St.none.fits := by simp [St.fits, St.none]; decide
theorem alive_fits : aliveS.fits := by simp [St.fits, aliveS]; decide
set_option maxRecDepth 100000 in
set_option maxHeartbeats 4000000 in
theorem alive8_any (w : World) (hpow : powAt w) : Calls Tryd.prog 5 #[] w fun e w' => e = .returned (.bool true) ∧ Below w.heap.size w w' := by
  obtain ⟨w1, hw1⟩ : ∃ w1, (w.alloc (.cells #[.int .i64 1, .int .i64 0, .int .i64 0, .int .i64 (-1)] 45)).alloc (.cells #[.string ⟨#[97]⟩, .int .i64 0, .int .i64 0, .slice none 0 0, .slice (some ⟨w.heap.size, 0, none⟩) 1 1, .slice none 0 0, .slice none 0 0, .slice none 0 0, .slice none 0 0, .slice none 0 0] 28) = w1 := ⟨_, rfl⟩
  have hb1 : Below w.heap.size w w1 := by rw [← hw1]; exact ((Below.refl _ _).alloc (Nat.le_refl _) _).alloc (by simp) _
  have HR1 := hid (show Row w1 (w.heap.size + 1) 28 [.string ⟨#[97]⟩, .int .i64 0, .int .i64 0, .slice none 0 0, .slice (some ⟨w.heap.size, 0, none⟩) 1 1, .slice none 0 0, .slice none 0 0, .slice none 0 0, .slice none 0 0, .slice none 0 0] by rw [← hw1]; exact Row.newAt _ _ _ _ (by simp))
  have HRN := hid (show Row w1 w.heap.size 45 (cnCells aliveCn) by rw [← hw1]; exact (Row.new w 45 (cnCells aliveCn)).alloc _)
  have HBK := hid (stBookC aliveS (.agg #[.string ⟨#[97]⟩, .int .i64 0, .int .i64 0, .slice none 0 0, .slice (some ⟨w.heap.size, 0, none⟩) 1 1, .slice none 0 0, .slice none 0 0, .slice none 0 0, .slice none 0 0, .slice none 0 0]) w1.heap.size w1 ⟨_, _, _, _, _, _, _, rfl, Many.nil _ _ _ _, one_conn aliveCn HRN.out HRN.out.lt, Many.nil _ _ _ _, Many.nil _ _ _ _, Many.nil _ _ _ _, Many.nil _ _ _ _, Many.nil _ _ _ _⟩ (Nat.le_refl _) alive_fits (hpow.below hb1))
  have HB1 := hid hb1
  have HW1 := hid hw1
  have k0 : w1.cell? ⟨w.heap.size + 1, 0, none⟩ = some (.string ⟨#[97]⟩) := HR1.out.cell 0
  have k1 : w1.cell? ⟨w.heap.size + 1, 1, none⟩ = some (.int .i64 0) := HR1.out.cell 1
  have k2 : w1.cell? ⟨w.heap.size + 1, 2, none⟩ = some (.int .i64 0) := HR1.out.cell 2
  have k3 : w1.cell? ⟨w.heap.size + 1, 3, none⟩ = some (.slice none 0 0) := HR1.out.cell 3
  have k4 : w1.cell? ⟨w.heap.size + 1, 4, none⟩ = some (.slice (some ⟨w.heap.size, 0, none⟩) 1 1) := HR1.out.cell 4
  have k5 : w1.cell? ⟨w.heap.size + 1, 5, none⟩ = some (.slice none 0 0) := HR1.out.cell 5
  have k6 : w1.cell? ⟨w.heap.size + 1, 6, none⟩ = some (.slice none 0 0) := HR1.out.cell 6
  have k7 : w1.cell? ⟨w.heap.size + 1, 7, none⟩ = some (.slice none 0 0) := HR1.out.cell 7
  have k8 : w1.cell? ⟨w.heap.size + 1, 8, none⟩ = some (.slice none 0 0) := HR1.out.cell 8
  have k9 : w1.cell? ⟨w.heap.size + 1, 9, none⟩ = some (.slice none 0 0) := HR1.out.cell 9
  clear hpow hb1 hw1
  go_enter Tryd.func5, Tryd.ntmps5
  go_upto_region 2 with fail
  rw [HW1.out]
  go_wp2_with fail
  refine HBK.out.mono ?_
  rintro e w2 ⟨hb2, o, n, c, rfl, hpr⟩
  rw [alive_wrong]
  rw [alive_book] at hpr
  have HB2 := hid (HB1.out.trans (hb2.mono HB1.out.size))
  obtain ⟨oa, ca, e1, hca⟩ := hpr.shape
  simp at e1
  obtain ⟨rfl, rfl, rfl⟩ := e1
  obtain ⟨b, off, rfl, hcells⟩ := hpr.some (by decide)
  obtain ⟨hbl, vk, vv, d0, d1, b0, b1⟩ := hcells 0 _ rfl
  obtain ⟨ok, ck, rfl, -⟩ := b0.shape
  obtain ⟨ov, cv, rfl, -⟩ := b1.shape
  have hcv := conv_str b0
  have hlen : (connB aliveCn).length = 9 := alive_val
  rw [hlen] at d1 b1
  simp only [Nat.zero_mul, Nat.add_zero] at d0 d1
  have hcv' : (convert 46 9 (.slice ok 6 ck)).run Tryd.prog w2 = .ok (.string ⟨#[99, 111, 110, 110, 47, 48]⟩) w2 := hcv
  have HWN := hid (stWrongC St.none _ w2.heap.size w2 (stNone w2 _) (Nat.le_refl _) stNone_fits)
  rw [alive_none] at HWN
  clear hb2 hcv hcells hpr b0 b1 k0 k1 k2 k3 k4 k5 k6 k7 k8 k9 hlen HBK
  go_wp2_with fail
  refine HWN.out.mono ?_
  rintro e w3 ⟨rfl, hb3⟩
  have HB3 := hid (HB2.out.trans (hb3.mono HB2.out.size))
  clear hb3
  go_wp2
  go_ret
  exact ⟨by first | done | rfl, HB3.out⟩
end Go.Proofs.YtooemgkjkngpcaaDoor
