/-
  slices.Clone at lists of records.
-/
import Derived.Test.YtbjlfhabnjpdmaaGreatDoorlaStOwn
import Derived.Lib.SliceRun
namespace Go.Proofs.YtbjlfhabnjpdmaaGreatDoor
open Go.RowKit

theorem recs_none {w : World} {N k n c : Nat} {rs : List (List Value)} (h : Recs w N (.slice none n c) k rs) : rs = [] ∧ n = 0 ∧ c = 0 := by
  rcases h with ⟨h1, h2⟩ | ⟨a, c, h1, _⟩ | ⟨b, o, c, h1, _⟩
  · simp at h1; exact ⟨h2, h1⟩
  · simp at h1
  · simp at h1
theorem recFCl : RecF 79 22 4 := recF_of (z := .agg #[.string ⟨#[]⟩, .int .i64 0, .bool false, .slice none 0 0]) (B := 56) Tryz.underlying22 (by kernel_rfl) rfl (by decide) (by decide)
set_option maxRecDepth 100000 in
set_option maxHeartbeats 2000000 in
theorem cloneCl (rs : List (List Value)) (v : Value) (N : Nat) (w : World) (h : Recs w N v 4 rs) (hN : N ≤ w.heap.size) (hok : ∀ r ∈ rs, r.length = 4 ∧ ∀ x ∈ r, x.oneCell' = true) (hl : rs.length ≤ 1000) :
    Calls Tryz.prog 66 #[v] w fun e w' => Below w.heap.size w w' ∧ ∃ v', e = .returned v' ∧ RowT 79 4 w' w.heap.size v' rs := by
  have q : ∀ (w : World) (a : Option Addr) (n c n' c' : Nat), (binOp .eql 22 (.slice a n c) (.slice none n' c')).run Tryz.prog w = .ok (.bool a.isNone) w := fun w a n c n' c' => Lib.run_eql_slice_nil w _ _ a n c n' c' Tryz.underlying22
  obtain ⟨oa, ca, rfl, hca⟩ := h.shape
  cases oa with
  | none =>
    obtain ⟨rfl, -, rfl⟩ := recs_none h
    go_enter Tryz.func66, Tryz.ntmps66
    go_wp2
    go_ret
    exact ⟨Below.refl _ _, _, rfl, fun _ h => (by cases h), World.ownsRow_nil _ _ _ _⟩
  | some a =>
    obtain ⟨w1, hw1⟩ : ∃ w1, w.alloc (.cells #[] 79) = w1 := ⟨_, rfl⟩
    have hb1 : Below w.heap.size w w1 := by rw [← hw1]; exact (Below.refl _ _).alloc (Nat.le_refl _) _
    have HO := hid (show RowT 79 4 w1 w.heap.size (.slice (some ⟨w.heap.size, 0, none⟩) 0 0) [] by rw [← hw1]; exact RowT.made w _ (Nat.le_refl _))
    have HS := hid (h.below (hb1.mono hN))
    have HB := hid hb1
    have HOK := hid hok
    have hbs := hb1.size
    have HW1 := hid hw1
    clear h hok hb1 hw1
    generalize hn : rs.length = n at *
    have HN := hid hn
    clear hn
    go_enter Tryz.func66, Tryz.ntmps66
    go_wp2_with (at_builtin; rw [HW1.out]; refine wpList_appendT recFCl rfl _ _ rfl w.heap.size _ [] rfl HO.out _ rs rfl HS.out HOK.out (by rw [HN.out]; simp; omega) hbs ?_)
    intro v' w2 hrow hb2 hg2
    have HR2 := hid hrow
    have HB2 := hid (HB.out.trans hb2)
    clear hrow hb2 hg2
    go_wp2
    go_ret
    exact ⟨HB2.out, v', rfl, by simpa using HR2.out⟩
theorem recFCn : RecF 81 23 4 := recF_of (z := .agg #[.int .i64 0, .int .i64 0, .int .i64 0, .int .i64 0]) (B := 32) Tryz.underlying23 (by kernel_rfl) rfl (by decide) (by decide)
set_option maxRecDepth 100000 in
set_option maxHeartbeats 2000000 in
theorem cloneCn (rs : List (List Value)) (v : Value) (N : Nat) (w : World) (h : Recs w N v 4 rs) (hN : N ≤ w.heap.size) (hok : ∀ r ∈ rs, r.length = 4 ∧ ∀ x ∈ r, x.oneCell' = true) (hl : rs.length ≤ 1000) :
    Calls Tryz.prog 68 #[v] w fun e w' => Below w.heap.size w w' ∧ ∃ v', e = .returned v' ∧ RowT 81 4 w' w.heap.size v' rs := by
  have q : ∀ (w : World) (a : Option Addr) (n c n' c' : Nat), (binOp .eql 23 (.slice a n c) (.slice none n' c')).run Tryz.prog w = .ok (.bool a.isNone) w := fun w a n c n' c' => Lib.run_eql_slice_nil w _ _ a n c n' c' Tryz.underlying23
  obtain ⟨oa, ca, rfl, hca⟩ := h.shape
  cases oa with
  | none =>
    obtain ⟨rfl, -, rfl⟩ := recs_none h
    go_enter Tryz.func68, Tryz.ntmps68
    go_wp2
    go_ret
    exact ⟨Below.refl _ _, _, rfl, fun _ h => (by cases h), World.ownsRow_nil _ _ _ _⟩
  | some a =>
    obtain ⟨w1, hw1⟩ : ∃ w1, w.alloc (.cells #[] 81) = w1 := ⟨_, rfl⟩
    have hb1 : Below w.heap.size w w1 := by rw [← hw1]; exact (Below.refl _ _).alloc (Nat.le_refl _) _
    have HO := hid (show RowT 81 4 w1 w.heap.size (.slice (some ⟨w.heap.size, 0, none⟩) 0 0) [] by rw [← hw1]; exact RowT.made w _ (Nat.le_refl _))
    have HS := hid (h.below (hb1.mono hN))
    have HB := hid hb1
    have HOK := hid hok
    have hbs := hb1.size
    have HW1 := hid hw1
    clear h hok hb1 hw1
    generalize hn : rs.length = n at *
    have HN := hid hn
    clear hn
    go_enter Tryz.func68, Tryz.ntmps68
    go_wp2_with (at_builtin; rw [HW1.out]; refine wpList_appendT recFCn rfl _ _ rfl w.heap.size _ [] rfl HO.out _ rs rfl HS.out HOK.out (by rw [HN.out]; simp; omega) hbs ?_)
    intro v' w2 hrow hb2 hg2
    have HR2 := hid hrow
    have HB2 := hid (HB.out.trans hb2)
    clear hrow hb2 hg2
    go_wp2
    go_ret
    exact ⟨HB2.out, v', rfl, by simpa using HR2.out⟩
theorem recFCh : RecF 83 24 7 := recF_of (z := .agg #[.int .i64 0, .bool false, .int .i64 0, .int .i64 0, .int .i64 0, .int .i64 0, .int .i64 0]) (B := 56) Tryz.underlying24 (by kernel_rfl) rfl (by decide) (by decide)
set_option maxRecDepth 100000 in
set_option maxHeartbeats 2000000 in
theorem cloneCh (rs : List (List Value)) (v : Value) (N : Nat) (w : World) (h : Recs w N v 7 rs) (hN : N ≤ w.heap.size) (hok : ∀ r ∈ rs, r.length = 7 ∧ ∀ x ∈ r, x.oneCell' = true) (hl : rs.length ≤ 1000) :
    Calls Tryz.prog 69 #[v] w fun e w' => Below w.heap.size w w' ∧ ∃ v', e = .returned v' ∧ RowT 83 7 w' w.heap.size v' rs := by
  have q : ∀ (w : World) (a : Option Addr) (n c n' c' : Nat), (binOp .eql 24 (.slice a n c) (.slice none n' c')).run Tryz.prog w = .ok (.bool a.isNone) w := fun w a n c n' c' => Lib.run_eql_slice_nil w _ _ a n c n' c' Tryz.underlying24
  obtain ⟨oa, ca, rfl, hca⟩ := h.shape
  cases oa with
  | none =>
    obtain ⟨rfl, -, rfl⟩ := recs_none h
    go_enter Tryz.func69, Tryz.ntmps69
    go_wp2
    go_ret
    exact ⟨Below.refl _ _, _, rfl, fun _ h => (by cases h), World.ownsRow_nil _ _ _ _⟩
  | some a =>
    obtain ⟨w1, hw1⟩ : ∃ w1, w.alloc (.cells #[] 83) = w1 := ⟨_, rfl⟩
    have hb1 : Below w.heap.size w w1 := by rw [← hw1]; exact (Below.refl _ _).alloc (Nat.le_refl _) _
    have HO := hid (show RowT 83 7 w1 w.heap.size (.slice (some ⟨w.heap.size, 0, none⟩) 0 0) [] by rw [← hw1]; exact RowT.made w _ (Nat.le_refl _))
    have HS := hid (h.below (hb1.mono hN))
    have HB := hid hb1
    have HOK := hid hok
    have hbs := hb1.size
    have HW1 := hid hw1
    clear h hok hb1 hw1
    generalize hn : rs.length = n at *
    have HN := hid hn
    clear hn
    go_enter Tryz.func69, Tryz.ntmps69
    go_wp2_with (at_builtin; rw [HW1.out]; refine wpList_appendT recFCh rfl _ _ rfl w.heap.size _ [] rfl HO.out _ rs rfl HS.out HOK.out (by rw [HN.out]; simp; omega) hbs ?_)
    intro v' w2 hrow hb2 hg2
    have HR2 := hid hrow
    have HB2 := hid (HB.out.trans hb2)
    clear hrow hb2 hg2
    go_wp2
    go_ret
    exact ⟨HB2.out, v', rfl, by simpa using HR2.out⟩
theorem recFMk : RecF 99 25 3 := recF_of (z := .agg #[.int .i64 0, .int .i64 0, .slice none 0 0]) (B := 40) Tryz.underlying25 (by kernel_rfl) rfl (by decide) (by decide)
set_option maxRecDepth 100000 in
set_option maxHeartbeats 2000000 in
theorem cloneMk (rs : List (List Value)) (v : Value) (N : Nat) (w : World) (h : Recs w N v 3 rs) (hN : N ≤ w.heap.size) (hok : ∀ r ∈ rs, r.length = 3 ∧ ∀ x ∈ r, x.oneCell' = true) (hl : rs.length ≤ 1000) :
    Calls Tryz.prog 126 #[v] w fun e w' => Below w.heap.size w w' ∧ ∃ v', e = .returned v' ∧ RowT 99 3 w' w.heap.size v' rs := by
  have q : ∀ (w : World) (a : Option Addr) (n c n' c' : Nat), (binOp .eql 25 (.slice a n c) (.slice none n' c')).run Tryz.prog w = .ok (.bool a.isNone) w := fun w a n c n' c' => Lib.run_eql_slice_nil w _ _ a n c n' c' Tryz.underlying25
  obtain ⟨oa, ca, rfl, hca⟩ := h.shape
  cases oa with
  | none =>
    obtain ⟨rfl, -, rfl⟩ := recs_none h
    go_enter Tryz.func126, Tryz.ntmps126
    go_wp2
    go_ret
    exact ⟨Below.refl _ _, _, rfl, fun _ h => (by cases h), World.ownsRow_nil _ _ _ _⟩
  | some a =>
    obtain ⟨w1, hw1⟩ : ∃ w1, w.alloc (.cells #[] 99) = w1 := ⟨_, rfl⟩
    have hb1 : Below w.heap.size w w1 := by rw [← hw1]; exact (Below.refl _ _).alloc (Nat.le_refl _) _
    have HO := hid (show RowT 99 3 w1 w.heap.size (.slice (some ⟨w.heap.size, 0, none⟩) 0 0) [] by rw [← hw1]; exact RowT.made w _ (Nat.le_refl _))
    have HS := hid (h.below (hb1.mono hN))
    have HB := hid hb1
    have HOK := hid hok
    have hbs := hb1.size
    have HW1 := hid hw1
    clear h hok hb1 hw1
    generalize hn : rs.length = n at *
    have HN := hid hn
    clear hn
    go_enter Tryz.func126, Tryz.ntmps126
    go_wp2_with (at_builtin; rw [HW1.out]; refine wpList_appendT recFMk rfl _ _ rfl w.heap.size _ [] rfl HO.out _ rs rfl HS.out HOK.out (by rw [HN.out]; simp; omega) hbs ?_)
    intro v' w2 hrow hb2 hg2
    have HR2 := hid hrow
    have HB2 := hid (HB.out.trans hb2)
    clear hrow hb2 hg2
    go_wp2
    go_ret
    exact ⟨HB2.out, v', rfl, by simpa using HR2.out⟩
theorem recFPu : RecF 85 26 3 := recF_of (z := .agg #[.string ⟨#[]⟩, .string ⟨#[]⟩, .int .u64 0]) (B := 40) Tryz.underlying26 (by kernel_rfl) rfl (by decide) (by decide)
set_option maxRecDepth 100000 in
set_option maxHeartbeats 2000000 in
theorem clonePu (rs : List (List Value)) (v : Value) (N : Nat) (w : World) (h : Recs w N v 3 rs) (hN : N ≤ w.heap.size) (hok : ∀ r ∈ rs, r.length = 3 ∧ ∀ x ∈ r, x.oneCell' = true) (hl : rs.length ≤ 1000) :
    Calls Tryz.prog 70 #[v] w fun e w' => Below w.heap.size w w' ∧ ∃ v', e = .returned v' ∧ RowT 85 3 w' w.heap.size v' rs := by
  have q : ∀ (w : World) (a : Option Addr) (n c n' c' : Nat), (binOp .eql 26 (.slice a n c) (.slice none n' c')).run Tryz.prog w = .ok (.bool a.isNone) w := fun w a n c n' c' => Lib.run_eql_slice_nil w _ _ a n c n' c' Tryz.underlying26
  obtain ⟨oa, ca, rfl, hca⟩ := h.shape
  cases oa with
  | none =>
    obtain ⟨rfl, -, rfl⟩ := recs_none h
    go_enter Tryz.func70, Tryz.ntmps70
    go_wp2
    go_ret
    exact ⟨Below.refl _ _, _, rfl, fun _ h => (by cases h), World.ownsRow_nil _ _ _ _⟩
  | some a =>
    obtain ⟨w1, hw1⟩ : ∃ w1, w.alloc (.cells #[] 85) = w1 := ⟨_, rfl⟩
    have hb1 : Below w.heap.size w w1 := by rw [← hw1]; exact (Below.refl _ _).alloc (Nat.le_refl _) _
    have HO := hid (show RowT 85 3 w1 w.heap.size (.slice (some ⟨w.heap.size, 0, none⟩) 0 0) [] by rw [← hw1]; exact RowT.made w _ (Nat.le_refl _))
    have HS := hid (h.below (hb1.mono hN))
    have HB := hid hb1
    have HOK := hid hok
    have hbs := hb1.size
    have HW1 := hid hw1
    clear h hok hb1 hw1
    generalize hn : rs.length = n at *
    have HN := hid hn
    clear hn
    go_enter Tryz.func70, Tryz.ntmps70
    go_wp2_with (at_builtin; rw [HW1.out]; refine wpList_appendT recFPu rfl _ _ rfl w.heap.size _ [] rfl HO.out _ rs rfl HS.out HOK.out (by rw [HN.out]; simp; omega) hbs ?_)
    intro v' w2 hrow hb2 hg2
    have HR2 := hid hrow
    have HB2 := hid (HB.out.trans hb2)
    clear hrow hb2 hg2
    go_wp2
    go_ret
    exact ⟨HB2.out, v', rfl, by simpa using HR2.out⟩
end Go.Proofs.YtbjlfhabnjpdmaaGreatDoor
