/-
  What package book's tooMuch and Get, and bytes.Clone, answer.
-/
import Derived.Test.YtjfhhlgblmjonaaDoorBookFind
import Derived.Test.YtjfhhlgblmjonaaDoorBookFace
import Derived.Lib.SliceRun
namespace Go.Proofs.YtjfhhlgblmjonaaDoor
open Go.RowKit

theorem tooMuch_any (n m : Nat) (oa ob : Option Addr) (ca cb : Nat) (w : World) :
    Calls Tryd.prog 33 #[.slice oa n ca, .slice ob m cb] w fun e w' => e = .returned (.bool (decide (60 < n) || decide (200 < m))) ∧ w' = w := by
  go_enter Tryd.func33, Tryd.ntmps33
  by_cases h1 : 60 < n
  · have e1 : decide ((60 : Int) < (n : Int)) = true := by simp; omega
    go_wp2
    go_ret
    exact ⟨by simp [h1], rfl⟩
  · have e1 : decide ((60 : Int) < (n : Int)) = false := by simp; omega
    by_cases h2 : 200 < m
    · have e2 : decide ((200 : Int) < (m : Int)) = true := by simp; omega
      go_wp2
      go_ret
      exact ⟨by simp [h1, h2], rfl⟩
    · have e2 : decide ((200 : Int) < (m : Int)) = false := by simp; omega
      go_wp2
      go_ret
      exact ⟨by simp [h1, h2], rfl⟩
theorem clone_any (l : List (BitVec 8)) (sv : Value) (N : Nat) (w : World) (h : Bytes w N sv l) (hl : l.length ≤ 140737488351232) :
    Calls Tryd.prog 40 #[sv] w fun e w' => Below w.heap.size w w' ∧ ∃ v, e = .returned v ∧ OwnB w' w.heap.size v l := by
  have q : ∀ (w : World) (a : Option Addr) (n c n' c' : Nat), (binOp .eql 23 (.slice a n c) (.slice none n' c')).run Tryd.prog w = .ok (.bool a.isNone) w := fun w a n c n' c' => Lib.run_eql_slice_nil w _ _ a n c n' c' Tryd.underlying23
  obtain ⟨oa, ca, rfl, hca⟩ := h.shape
  cases oa with
  | none =>
    obtain ⟨rfl, rfl⟩ : l = [] ∧ ca = 0 := by
      rcases h with ⟨h1, h2⟩ | ⟨a, c, h1, _⟩ | ⟨b, o, c, h1, _⟩
      · exact ⟨h2, by simp at h1; exact h1.2⟩
      · simp at h1
      · simp at h1
    go_enter Tryd.func40, Tryd.ntmps40
    go_wp2
    go_ret
    exact ⟨Below.refl _ _, _, rfl, OwnB.nil _ _⟩
  | some a =>
    obtain ⟨w1, hw1⟩ : ∃ w1, w.alloc (.cells #[] 5) = w1 := ⟨_, rfl⟩
    have hb1 : Below w.heap.size w w1 := by rw [← hw1]; exact (Below.refl _ _).alloc (Nat.le_refl _) _
    have hown : OwnB w1 w.heap.size (.slice (some ⟨w.heap.size, 0, none⟩) 0 0) [] := by
      refine ⟨rfl, .inr ⟨w.heap.size, 0, #[], rfl, Nat.le_refl _, ?_, Nat.le_refl _, by simp [maxLen], rfl, rfl⟩⟩
      rw [← hw1]
      exact heap_alloc_new _ _
    have hsrc : Bytes w1 w1.heap.size (.slice (some a) l.length ca) l := by
      rcases h with ⟨h1, _⟩ | ⟨a', c, h1, h2⟩ | ⟨b, o, c, h1, h2, h3⟩
      · simp at h1
      · subst h2
        exact .inr (.inl ⟨a, ca, rfl, rfl⟩)
      · refine .inr (.inr ⟨b, o, ca, by simp at h1; rw [h1.1], hca, fun i hi => ?_⟩)
        have hb := block_lt_of_cell (h3 i hi).2
        exact ⟨Nat.lt_of_lt_of_le hb hb1.size, (hb1.cell hb).trans (h3 i hi).2⟩
    have HO := hid hown
    have HS := hid hsrc
    have HB := hid hb1
    have HL := hid hl
    have HSZ := hid hb1.size
    have HW1 := hid hw1
    clear h hl hown hsrc hb1 hw1
    generalize hn : l.length = n at *
    have HN := hid hn
    clear hn
    go_enter Tryd.func40, Tryd.ntmps40
    go_wp2_with (at_builtin; rw [HW1.out]; refine wpList_append_keep rfl (.tmp 5) (.tmp 6) rfl w.heap.size _ [] rfl HO.out _ l rfl HS.out (by have := HL.out; rw [List.length_nil, HN.out]; omega) HSZ.out ?_; intro v' w' g1 g2 g3; have G1 := hid g1; have G2 := hid g2; clear g1 g2 g3)
    go_ret
    exact ⟨HB.out.trans G2.out, _, rfl, G1.out⟩
end Go.Proofs.YtjfhhlgblmjonaaDoor
