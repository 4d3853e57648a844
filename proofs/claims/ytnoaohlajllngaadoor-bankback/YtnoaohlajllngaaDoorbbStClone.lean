/-
  slices.Clone at lists of records.
-/
import Derived.Test.YtnoaohlajllngaaDoorbbStOwn
import Derived.Lib.SliceRun
namespace Go.Proofs.YtnoaohlajllngaaDoor
open Go.RowKit

theorem recs_none {w : World} {N k n c : Nat} {rs : List (List Value)} (h : Recs w N (.slice none n c) k rs) : rs = [] ∧ n = 0 ∧ c = 0 := by
  rcases h with ⟨h1, h2⟩ | ⟨a, c, h1, _⟩ | ⟨b, o, c, h1, _⟩
  · simp at h1; exact ⟨h2, h1⟩
  · simp at h1
  · simp at h1
theorem recFPu : RecF 71 22 3 := recF_of (z := .agg #[.string ⟨#[]⟩, .string ⟨#[]⟩, .int .u64 0]) (B := 40) Tryd.underlying22 (by kernel_rfl) rfl (by decide) (by decide)
set_option maxRecDepth 100000 in
set_option maxHeartbeats 2000000 in
theorem clonePu (rs : List (List Value)) (v : Value) (N : Nat) (w : World) (h : Recs w N v 3 rs) (hN : N ≤ w.heap.size) (hok : ∀ r ∈ rs, r.length = 3 ∧ ∀ x ∈ r, x.oneCell' = true) (hl : rs.length ≤ 1000) :
    Calls Tryd.prog 48 #[v] w fun e w' => Below w.heap.size w w' ∧ ∃ v', e = .returned v' ∧ RowT 71 3 w' w.heap.size v' rs := by
  have q : ∀ (w : World) (a : Option Addr) (n c n' c' : Nat), (binOp .eql 22 (.slice a n c) (.slice none n' c')).run Tryd.prog w = .ok (.bool a.isNone) w := fun w a n c n' c' => Lib.run_eql_slice_nil w _ _ a n c n' c' Tryd.underlying22
  obtain ⟨oa, ca, rfl, hca⟩ := h.shape
  cases oa with
  | none =>
    obtain ⟨rfl, -, rfl⟩ := recs_none h
    go_enter Tryd.func48, Tryd.ntmps48
    go_wp2
    go_ret
    exact ⟨Below.refl _ _, _, rfl, fun _ h => (by cases h), World.ownsRow_nil _ _ _ _⟩
  | some a =>
    obtain ⟨w1, hw1⟩ : ∃ w1, w.alloc (.cells #[] 71) = w1 := ⟨_, rfl⟩
    have hb1 : Below w.heap.size w w1 := by rw [← hw1]; exact (Below.refl _ _).alloc (Nat.le_refl _) _
    have HO := hid (show RowT 71 3 w1 w.heap.size (.slice (some ⟨w.heap.size, 0, none⟩) 0 0) [] by rw [← hw1]; exact RowT.made w _ (Nat.le_refl _))
    have HS := hid (h.below (hb1.mono hN))
    have HB := hid hb1
    have HOK := hid hok
    have hbs := hb1.size
    have HW1 := hid hw1
    clear h hok hb1 hw1
    generalize hn : rs.length = n at *
    have HN := hid hn
    clear hn
    go_enter Tryd.func48, Tryd.ntmps48
    go_wp2_with (at_builtin; rw [HW1.out]; refine wpList_appendT recFPu rfl _ _ rfl w.heap.size _ [] rfl HO.out _ rs rfl HS.out HOK.out (by rw [HN.out]; simp; omega) hbs ?_)
    intro v' w2 hrow hb2 hg2
    have HR2 := hid hrow
    have HB2 := hid (HB.out.trans hb2)
    clear hrow hb2 hg2
    go_wp2
    go_ret
    exact ⟨HB2.out, v', rfl, by simpa using HR2.out⟩
end Go.Proofs.YtnoaohlajllngaaDoor
