/-
  What package book's tooMuch and Get, and bytes.Clone, answer.
-/
import Derived.Test.YtdlcjhigmdgbcaaDoorBookFind
import Derived.Test.YtdlcjhigmdgbcaaDoorBookFace
import Derived.Lib.SliceRun
namespace Go.Proofs.YtdlcjhigmdgbcaaDoor
open Go.RowKit

theorem tooMuch_any (n m : Nat) (oa ob : Option Addr) (ca cb : Nat) (w : World) :
    Calls Tryd.prog 46 #[.slice oa n ca, .slice ob m cb] w fun e w' => e = .returned (.bool (decide (60 < n) || decide (200 < m))) ∧ w' = w := by
  go_enter Tryd.func46, Tryd.ntmps46
  by_cases h1 : 60 < n
  · have e1 : decide ((60 : Int) < (n : Int)) = true := by simp; omega
    go_wp2
    go_ret
    exact ⟨by simp [h1], rfl⟩
  · have e1 : decide ((60 : Int) < (n : Int)) = false := by simp; omega
    by_cases h2 : 200 < m
    · have e2 : decide ((200 : Int) < (m : Int)) = true := by simp; omega
      go_wp2
      go_ret
      exact ⟨by simp [h1, h2], rfl⟩
    · have e2 : decide ((200 : Int) < (m : Int)) = false := by simp; omega
      go_wp2
      go_ret
      exact ⟨by simp [h1, h2], rfl⟩
theorem clone_any (l : List (BitVec 8)) (sv : Value) (N : Nat) (w : World) (h : Bytes w N sv l) (hl : l.length ≤ 140737488351232) :
    Calls Tryd.prog 28 #[sv] w fun e w' => Below w.heap.size w w' ∧ ∃ v, e = .returned v ∧ OwnB w' w.heap.size v l := by
  have q : ∀ (w : World) (a : Option Addr) (n c n' c' : Nat), (binOp .eql 23 (.slice a n c) (.slice none n' c')).run Tryd.prog w = .ok (.bool a.isNone) w := fun w a n c n' c' => Lib.run_eql_slice_nil w _ _ a n c n' c' Tryd.underlying23
  obtain ⟨oa, ca, rfl, hca⟩ := h.shape
  cases oa with
  | none =>
    obtain ⟨rfl, rfl⟩ : l = [] ∧ ca = 0 := by
      rcases h with ⟨h1, h2⟩ | ⟨a, c, h1, _⟩ | ⟨b, o, c, h1, _⟩
      · exact ⟨h2, by simp at h1; exact h1.2⟩
      · simp at h1
      · simp at h1
    go_enter Tryd.func28, Tryd.ntmps28
    go_wp2
    go_ret
    exact ⟨Below.refl _ _, _, rfl, OwnB.nil _ _⟩
  | some a =>
    obtain ⟨w1, hw1⟩ : ∃ w1, w.alloc (.cells #[] 5) = w1 := ⟨_, rfl⟩
    have hb1 : Below w.heap.size w w1 := by rw [← hw1]; exact (Below.refl _ _).alloc (Nat.le_refl _) _
    have hown : OwnB w1 w.heap.size (.slice (some ⟨w.heap.size, 0, none⟩) 0 0) [] := by
      refine ⟨rfl, .inr ⟨w.heap.size, 0, #[], rfl, Nat.le_refl _, ?_, Nat.le_refl _, by simp [maxLen], rfl, rfl⟩⟩
      rw [← hw1]
      exact heap_alloc_new _ _
    have hsrc : Bytes w1 w1.heap.size (.slice (some a) l.length ca) l := by
      rcases h with ⟨h1, _⟩ | ⟨a', c, h1, h2⟩ | ⟨b, o, c, h1, h2, h3⟩
      · simp at h1
      · subst h2
        exact .inr (.inl ⟨a, ca, rfl, rfl⟩)
      · refine .inr (.inr ⟨b, o, ca, by simp at h1; rw [h1.1], hca, fun i hi => ?_⟩)
        have hb := block_lt_of_cell (h3 i hi).2
        exact ⟨Nat.lt_of_lt_of_le hb hb1.size, (hb1.cell hb).trans (h3 i hi).2⟩
    have HO := hid hown
    have HS := hid hsrc
    have HB := hid hb1
    have HL := hid hl
    have HSZ := hid hb1.size
    have HW1 := hid hw1
    clear h hl hown hsrc hb1 hw1
    generalize hn : l.length = n at *
    have HN := hid hn
    clear hn
    go_enter Tryd.func28, Tryd.ntmps28
    go_wp2_with (at_builtin; rw [HW1.out]; refine wpList_append_keep rfl (.tmp 5) (.tmp 6) rfl w.heap.size _ [] rfl HO.out _ l rfl HS.out (by have := HL.out; rw [List.length_nil, HN.out]; omega) HSZ.out ?_; intro v' w' g1 g2 g3; have G1 := hid g1; have G2 := hid g2; clear g1 g2 g3)
    go_ret
    exact ⟨HB.out.trans G2.out, _, rfl, G1.out⟩
/-- Get's answer -/
theorem getC : GetC 11 := by
  intro l k sv kv N w hN hl hk hs hf hn hkl
  obtain ⟨oa, ca, rfl, hca⟩ := hl.shape
  obtain ⟨ob, cb, rfl, hcb⟩ := hk.shape
  have HC := hid (find_any l k _ _ N w hN hl hk hs (by omega))
  have HL := hid hl
  have HS := hid hs
  have HF := hid hf
  clear hl hk hs hf
  generalize hn' : l.length = n at *
  have HN := hid hn'
  clear hn'
  generalize k.length = nk at *
  go_enter Tryd.func11, Tryd.ntmps11
  go_wp2_with fail
  refine HC.out.mono ?_
  rintro e w2 ⟨hb, i, fd, hat, rfl⟩
  have HB := hid hb
  have HA := hid hat
  clear hb hat
  cases fd with
  | false =>
    go_wp2
    go_ret2
    have hg := HA.out.get_not HS.out
    refine ⟨HB.out, none, 0, 0, by rw [hg]; rfl, ?_⟩
    rw [hg]
    exact .inl ⟨rfl, rfl⟩
  | true =>
    obtain ⟨p, hp, hg⟩ := HA.out.get_found HS.out
    have hi : i < n := by rw [← HN.out]; exact (List.getElem?_eq_some_iff.1 hp).1
    obtain ⟨b, o, rfl, hcells⟩ := HL.out.some (by omega)
    obtain ⟨hbN, vk, vv, d0, d1, hvk, hvv⟩ := hcells i p hp
    have f1 := (HB.out.cell (p := ⟨b, o + i * 2 + 1, none⟩) (show b < w.heap.size by omega)).trans d1
    have HCL := hid (clone_any p.val vv N w2 (hvv.below (HB.out.mono hN)) (by have := (HF.out p (List.mem_of_getElem? hp)).2; omega))
    have HG := hid hg
    obtain ⟨o2, c2, rfl, hc2⟩ := hvv.shape
    clear hcells hvk hvv d0 d1 hp hg
    have hi' : (i : Int) < (n : Int) := by omega
    go_wp2_with fail
    refine HCL.out.mono ?_
    rintro e w3 ⟨hb3, v3, rfl, hown⟩
    have HB3 := hid (HB.out.trans (hb3.mono HB.out.size))
    have HO := hid hown
    clear hb3
    obtain ⟨o3, c3, rfl, hc3⟩ := hown.shape
    clear hown
    go_wp2
    go_ret2
    refine ⟨HB3.out, o3, _, c3, by rw [HG.out]; rfl, ?_⟩
    rw [HG.out]
    exact HO.out.bytes
end Go.Proofs.YtdlcjhigmdgbcaaDoor
