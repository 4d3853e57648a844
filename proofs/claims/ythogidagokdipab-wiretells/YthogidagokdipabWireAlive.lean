/-
  alive answers true, and turns nothing that was there.
-/
import Derived.Test.YthogidagokdipabWireWrite
import Derived.Test.YthogidagokdipabWireRead
namespace Go.Proofs.Ythogidagokdipab
open Go.RowKit

def p300 : Pc := ⟨1, 300, []⟩
def x300 : List (BitVec 8) := [1, 0, 172, 2]
theorem wr300 : wrAll [p300] = .ok x300 := by
  have h1 : numB 1 = [1] := numB_small (by omega)
  have h2 : numB 300 = [172, 2] := by rw [numB_big (by omega), numB_small (by omega)]; rfl
  have h3 : p300.wr = [0, 172, 2] := by unfold Pc.wr p300; rw [if_pos rfl, h2]
  unfold wrAll
  rw [if_neg (by simp), show [p300].length = 1 from rfl, h1, wrGo, h3, if_neg (by simp [p300]), if_neg (by simp), wrGo]
  rfl
theorem rd300 : rdAll x300 = .ok [p300] := rd_wr [p300] x300 (fun p hp => by
  obtain rfl : p = p300 := by simpa using hp
  simp [Pc.ok, p300]) wr300
theorem fits300 : ∀ p ∈ [p300], p.fits := fun p hp => by
  obtain rfl : p = p300 := by simpa using hp
  exact ⟨by simp [Pc.ok, p300], by simp [p300]⟩
/-- pieces in a new block, one alone -/
theorem pieces_one (w : World) (p : Pc) (vb : Value) (hvb : Bytes (w.alloc (.cells #[.int .i64 p.k, .int .u64 (p.n : Int), vb] 38)) (w.heap.size + 1) vb p.b) :
    Pieces (w.alloc (.cells #[.int .i64 p.k, .int .u64 (p.n : Int), vb] 38)) (w.heap.size + 1) (.slice (some ⟨w.heap.size, 0, none⟩) 1 1) [p] := by
  refine .inr (.inr ⟨w.heap.size, 0, 1, rfl, Nat.le_refl _, fun i q hq => ⟨by omega, vb, ?_⟩⟩)
  have hi : i = 0 := by have := (List.getElem?_eq_some_iff.1 hq).1; simp at this; exact this
  subst hi
  obtain rfl : p = q := by simpa using hq
  have hr : Row (w.alloc (.cells #[.int .i64 p.k, .int .u64 (p.n : Int), vb] 38)) w.heap.size 38 [.int .i64 p.k, .int .u64 (p.n : Int), vb] := Row.new _ _ _
  exact ⟨hr.cell 0, hr.cell 1, hr.cell 2, hvb⟩
set_option maxRecDepth 100000 in
set_option maxHeartbeats 1000000 in
theorem alive3_any (w : World) : Calls Try.prog 12 #[] w fun e w' => e = .returned (.bool true) ∧ Below w.heap.size w w' := by
  obtain ⟨w1, hw1⟩ : ∃ w1, w.alloc (.cells #[.int .i64 1, .int .u64 300, .slice none 0 0] 38) = w1 := ⟨_, rfl⟩
  have hsz1 : w1.heap.size = w.heap.size + 1 := by rw [← hw1]; simp
  have hb1 : Below w.heap.size w w1 := by rw [← hw1]; exact (Below.refl _ _).alloc (Nat.le_refl _) _
  have hp1 : Pieces w1 w1.heap.size (.slice (some ⟨w.heap.size, 0, none⟩) 1 1) [p300] := by
    rw [hsz1, ← hw1]
    exact pieces_one w p300 (.slice none 0 0) (.inl ⟨rfl, rfl⟩)
  have HWR := hid (write_any [p300] _ w1.heap.size w1 hp1 (Nat.le_refl _) (by simp) fits300)
  have HB1 := hid hb1
  clear hp1 hb1
  go_enter Try.func12, Try.ntmps12
  go_wp2_with fail
  refine HWR.out.mono ?_
  rintro e w2 ⟨hb2, ⟨x, v, hx, rfl, hv⟩ | ⟨c, i, hx, _⟩⟩
  · rw [wr300] at hx
    obtain rfl : x300 = x := by simpa using hx
    obtain ⟨ov, cv, rfl, hcv⟩ := hv.shape
    have hsz2 := hb2.size
    obtain ⟨w3, hw3⟩ : ∃ w3, w2.alloc (.cells #[.int .i64 0, .int .i64 0] 26) = w3 := ⟨_, rfl⟩
    have hsz3 : w3.heap.size = w2.heap.size + 1 := by rw [← hw3]; simp
    have hb3 : Below w2.heap.size w2 w3 := by rw [← hw3]; exact (Below.refl _ _).alloc (Nat.le_refl _) _
    have hrow3 : Row w3 w2.heap.size 26 [.int .i64 0, .int .i64 0] := by rw [← hw3]; exact Row.new _ _ _
    have HRD := hid (read_any x300 (.slice ov x300.length cv) w2.heap.size w3 (hv.bytes.below hb3) hb3.size (by decide))
    have HB3 := hid ((HB1.out.trans (hb2.mono (by omega))).trans (hb3.mono (by omega)))
    have HR3 := hid hrow3
    have HW3 := hid hw3
    clear hw3
    clear hb2 hb3 hrow3 hx hv HWR hw1
    unfold okV
    go_wp2_with fail
    rw [HW3.out]
    refine HRD.out.mono ?_
    rintro e w4 ⟨hb4, ⟨m, v, hm, rfl, hv⟩ | ⟨c, hm, _⟩⟩
    · rw [rd300] at hm
      obtain rfl : [p300] = m := by simpa using hm
      obtain ⟨o4, c4, rfl, hc4⟩ := hv.shape
      obtain ⟨b, o, rfl, hcells⟩ := hv.some (by simp)
      obtain ⟨_, vb, d0, d1, d2, _⟩ := hcells 0 p300 rfl
      have f0 := (HR3.out.below hb4 (by omega)).cell 0
      have g1 : w4.cell? ⟨b, o + 1, none⟩ = some (.int .u64 300) := by simpa [p300] using d1
      have HB4 := hid (HB3.out.trans (hb4.mono (by omega)))
      have hl4 : x300.length = 4 := rfl
      have hl1 : [p300].length = 1 := rfl
      clear hm hv hcells d0 d1 d2 hb4 HRD
      go_wp2
      go_ret
      exact ⟨rfl, HB4.out⟩
    · rw [rd300] at hm; cases hm
  · rw [wr300] at hx; cases hx
end Go.Proofs.Ythogidagokdipab
