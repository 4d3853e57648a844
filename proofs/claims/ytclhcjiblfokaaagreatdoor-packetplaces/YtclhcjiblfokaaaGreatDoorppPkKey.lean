/-
  The keys under which marks stand, and what is received next.
-/
import Derived.Test.YtclhcjiblfokaaaGreatDoorppStKey
namespace Go.Proofs.YtclhcjiblfokaaaGreatDoor
open Go.RowKit

set_option maxRecDepth 100000 in
set_option maxHeartbeats 4000000 in
theorem sentKey_any (a b : Int) (ha : 0 ≤ a ∧ a ≤ 1000000000000) (hb : 0 ≤ b ∧ b ≤ 1000000000000) (w : World) (htab : powAt w) : Calls Tryz.prog 46 #[.int .i64 a, .int .i64 b] w fun e w' => ∃ v, e = .returned v ∧ OwnM w' w.heap.size v (keyL kwSent [a.toNat, b.toNat]) ∧ Below w.heap.size w w' := by
  obtain ⟨w0, hw0⟩ : ∃ w0, w.alloc (.cells #[.int .i64 a, .int .i64 b] 3) = w0 := ⟨_, rfl⟩
  have hb0 : Below w.heap.size w w0 := by rw [← hw0]; exact (Below.refl _ _).alloc (Nat.le_refl _) _
  have HB0 := hid hb0
  have HK := hid (keyOf_any ⟨#[115, 101, 110, 116]⟩ [a, b] w.heap.size 2 w0 (by decide) (by rw [← hw0]; exact Row.new _ _ _) rfl (by decide) (fun n hn => by simp at hn; omega) (htab.below hb0))
  have HW0 := hid hw0
  clear hb0 hw0 htab
  go_enter Tryz.func46, Tryz.ntmps46
  go_wp2_with fail
  rw [HW0.out]
  refine HK.out.mono ?_
  rintro e w1 ⟨v, rfl, ho, hb⟩
  have HO := hid ho
  have HB := hid hb
  clear ho hb
  go_wp2
  go_ret
  exact ⟨v, rfl, HO.out.mono HB0.out.size, HB0.out.trans (HB.out.mono HB0.out.size)⟩
set_option maxRecDepth 100000 in
set_option maxHeartbeats 4000000 in
theorem gotKey_any (a b : Int) (ha : 0 ≤ a ∧ a ≤ 1000000000000) (hb : 0 ≤ b ∧ b ≤ 1000000000000) (w : World) (htab : powAt w) : Calls Tryz.prog 109 #[.int .i64 a, .int .i64 b] w fun e w' => ∃ v, e = .returned v ∧ OwnM w' w.heap.size v (keyL kwGot [a.toNat, b.toNat]) ∧ Below w.heap.size w w' := by
  obtain ⟨w0, hw0⟩ : ∃ w0, w.alloc (.cells #[.int .i64 a, .int .i64 b] 3) = w0 := ⟨_, rfl⟩
  have hb0 : Below w.heap.size w w0 := by rw [← hw0]; exact (Below.refl _ _).alloc (Nat.le_refl _) _
  have HB0 := hid hb0
  have HK := hid (keyOf_any ⟨#[103, 111, 116]⟩ [a, b] w.heap.size 2 w0 (by decide) (by rw [← hw0]; exact Row.new _ _ _) rfl (by decide) (fun n hn => by simp at hn; omega) (htab.below hb0))
  have HW0 := hid hw0
  clear hb0 hw0 htab
  go_enter Tryz.func109, Tryz.ntmps109
  go_wp2_with fail
  rw [HW0.out]
  refine HK.out.mono ?_
  rintro e w1 ⟨v, rfl, ho, hb⟩
  have HO := hid ho
  have HB := hid hb
  clear ho hb
  go_wp2
  go_ret
  exact ⟨v, rfl, HO.out.mono HB0.out.size, HB0.out.trans (HB.out.mono HB0.out.size)⟩
set_option maxRecDepth 100000 in
set_option maxHeartbeats 4000000 in
theorem ackKey_any (a b : Int) (ha : 0 ≤ a ∧ a ≤ 1000000000000) (hb : 0 ≤ b ∧ b ≤ 1000000000000) (w : World) (htab : powAt w) : Calls Tryz.prog 102 #[.int .i64 a, .int .i64 b] w fun e w' => ∃ v, e = .returned v ∧ OwnM w' w.heap.size v (keyL kwAck [a.toNat, b.toNat]) ∧ Below w.heap.size w w' := by
  obtain ⟨w0, hw0⟩ : ∃ w0, w.alloc (.cells #[.int .i64 a, .int .i64 b] 3) = w0 := ⟨_, rfl⟩
  have hb0 : Below w.heap.size w w0 := by rw [← hw0]; exact (Below.refl _ _).alloc (Nat.le_refl _) _
  have HB0 := hid hb0
  have HK := hid (keyOf_any ⟨#[97, 99, 107]⟩ [a, b] w.heap.size 2 w0 (by decide) (by rw [← hw0]; exact Row.new _ _ _) rfl (by decide) (fun n hn => by simp at hn; omega) (htab.below hb0))
  have HW0 := hid hw0
  clear hb0 hw0 htab
  go_enter Tryz.func102, Tryz.ntmps102
  go_wp2_with fail
  rw [HW0.out]
  refine HK.out.mono ?_
  rintro e w1 ⟨v, rfl, ho, hb⟩
  have HO := hid ho
  have HB := hid hb
  clear ho hb
  go_wp2
  go_ret
  exact ⟨v, rfl, HO.out.mono HB0.out.size, HB0.out.trans (HB.out.mono HB0.out.size)⟩
set_option maxRecDepth 100000 in
set_option maxHeartbeats 4000000 in
theorem nextKey_any (a : Int) (ha : 0 ≤ a ∧ a ≤ 1000000000000) (w : World) (htab : powAt w) : Calls Tryz.prog 110 #[.int .i64 a] w fun e w' => ∃ v, e = .returned v ∧ OwnM w' w.heap.size v (keyL kwNext [a.toNat]) ∧ Below w.heap.size w w' := by
  obtain ⟨w0, hw0⟩ : ∃ w0, w.alloc (.cells #[.int .i64 a] 3) = w0 := ⟨_, rfl⟩
  have hb0 : Below w.heap.size w w0 := by rw [← hw0]; exact (Below.refl _ _).alloc (Nat.le_refl _) _
  have HB0 := hid hb0
  have HK := hid (keyOf_any ⟨#[110, 101, 120, 116]⟩ [a] w.heap.size 1 w0 (by decide) (by rw [← hw0]; exact Row.new _ _ _) rfl (by decide) (fun n hn => by simp at hn; omega) (htab.below hb0))
  have HW0 := hid hw0
  clear hb0 hw0 htab
  go_enter Tryz.func110, Tryz.ntmps110
  go_wp2_with fail
  rw [HW0.out]
  refine HK.out.mono ?_
  rintro e w1 ⟨v, rfl, ho, hb⟩
  have HO := hid ho
  have HB := hid hb
  clear ho hb
  go_wp2
  go_ret
  exact ⟨v, rfl, HO.out.mono HB0.out.size, HB0.out.trans (HB.out.mono HB0.out.size)⟩
set_option maxRecDepth 100000 in
set_option maxHeartbeats 4000000 in
theorem nextVal_any (a : Int) (ha : 0 ≤ a ∧ a ≤ 1000000000000) (w : World) : Calls Tryz.prog 111 #[.int .i64 a] w fun e w' => ∃ v, e = .returned v ∧ OwnM w' w.heap.size v (numsB [a]) ∧ Below w.heap.size w w' := by
  obtain ⟨w0, hw0⟩ : ∃ w0, w.alloc (.cells #[.int .i64 a] 3) = w0 := ⟨_, rfl⟩
  have hb0 : Below w.heap.size w w0 := by rw [← hw0]; exact (Below.refl _ _).alloc (Nat.le_refl _) _
  have HB0 := hid hb0
  have HK := hid (numbers_any [a] w.heap.size 1 w0 (by rw [← hw0]; exact Row.new _ _ _) rfl (by decide) (fun n hn => by simp at hn; omega))
  have HW0 := hid hw0
  clear hb0 hw0
  go_enter Tryz.func111, Tryz.ntmps111
  go_wp2_with fail
  rw [HW0.out]
  refine HK.out.mono ?_
  rintro e w1 ⟨v, rfl, ho, hb⟩
  have HO := hid ho
  have HB := hid hb
  clear ho hb
  go_wp2
  go_ret
  exact ⟨v, rfl, HO.out.mono HB0.out.size, HB0.out.trans (HB.out.mono HB0.out.size)⟩
theorem key_len2 {k : List (BitVec 8)} {a b : Int} (hk : k.length ≤ 4) (ha : 0 ≤ a ∧ a ≤ 1000000000000) (hb : 0 ≤ b ∧ b ≤ 1000000000000) : (keyL k [a.toNat, b.toNat]).length ≤ 140737488351232 := by
  have h := digN_len 12 a.toNat (by omega)
  have h' := digN_len 12 b.toNat (by omega)
  simp [keyL]
  omega
theorem key_len1 {k : List (BitVec 8)} {a : Int} (hk : k.length ≤ 4) (ha : 0 ≤ a ∧ a ≤ 1000000000000) : (keyL k [a.toNat]).length ≤ 140737488351232 := by
  have h := digN_len 12 a.toNat (by omega)
  simp [keyL]
  omega
theorem nums1_len (a : Int) (ha : 0 ≤ a ∧ a ≤ 1000000000000) : (numsB [a]).length ≤ 140737488351232 := by
  have := (nums_wr [a] (by simp) (fun n hn => by simp at hn; omega)).2
  omega
end Go.Proofs.YtclhcjiblfokaaaGreatDoor
