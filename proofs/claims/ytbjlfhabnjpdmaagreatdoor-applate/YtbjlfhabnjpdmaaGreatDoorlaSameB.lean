/-
  What bytes.Equal answers: whether two lists of bytes are the same.
  What the document's Same answers of two slices of bytes: whether they read alike; it only reads.
-/
import Derived.Test.YtbjlfhabnjpdmaaGreatDoorlaMemB
import Derived.Laws.BytesArg
import Derived.Lib.Bytes
import Derived.Lib.SliceRun
namespace Go.Proofs.YtbjlfhabnjpdmaaGreatDoor
open Go.RowKit

theorem conv_str {w : World} {N : Nat} {sv : Value} {l : List (BitVec 8)} (h : Bytes w N sv l) : (convert 29 9 sv).run Tryz.prog w = .ok (.string (strOfNums (l.map b8))) w := by
  have zero : ∀ (p : Option Addr) (c : Nat), (convert 29 9 (.slice p 0 c)).run Tryz.prog w = .ok (.string (strOfNums [])) w := fun p c => by
    rw [run_convert_bytes_string w 29 9 5 _ 0 c Tryz.underlying29 Tryz.underlying5 Tryz.underlying9]
    cases p <;> simp [Conv.bytesToString, loadCells]
    all_goals rfl
  rcases h with ⟨rfl, rfl⟩ | ⟨a, cap, rfl, rfl⟩ | ⟨b, off, cap, rfl, _, hc⟩
  · exact zero _ _
  · exact zero _ _
  · refine run_convert_bytes_arg w 29 5 Tryz.underlying29 Tryz.underlying5 b off l.length cap (l.map b8) (by simp) (fun i hi => ?_) 9 Tryz.underlying9
    rw [(hc i hi).2]
    simp [hi]
/-- what bytes.Clone answers -/
theorem cloneB_any (l : List (BitVec 8)) (sv : Value) (N : Nat) (w : World) (h : Bytes w N sv l) (hl : l.length ≤ 140737488351232) :
    Calls Tryz.prog 127 #[sv] w fun e w' => Below w.heap.size w w' ∧ ∃ v, e = .returned v ∧ OwnB w' w.heap.size v l := by
  have q : ∀ (w : World) (a : Option Addr) (n c n' c' : Nat), (binOp .eql 29 (.slice a n c) (.slice none n' c')).run Tryz.prog w = .ok (.bool a.isNone) w := fun w a n c n' c' => Lib.run_eql_slice_nil w _ _ a n c n' c' Tryz.underlying29
  obtain ⟨oa, ca, rfl, hca⟩ := h.shape
  cases oa with
  | none =>
    obtain ⟨rfl, rfl⟩ : l = [] ∧ ca = 0 := by
      rcases h with ⟨h1, h2⟩ | ⟨a, c, h1, _⟩ | ⟨b, o, c, h1, _⟩
      · exact ⟨h2, by simp at h1; exact h1.2⟩
      · simp at h1
      · simp at h1
    go_enter Tryz.func127, Tryz.ntmps127
    go_wp2
    go_ret
    exact ⟨Below.refl _ _, _, rfl, OwnB.nil _ _⟩
  | some a =>
    obtain ⟨w1, hw1⟩ : ∃ w1, w.alloc (.cells #[] 5) = w1 := ⟨_, rfl⟩
    have hb1 : Below w.heap.size w w1 := by rw [← hw1]; exact (Below.refl _ _).alloc (Nat.le_refl _) _
    have hown : OwnB w1 w.heap.size (.slice (some ⟨w.heap.size, 0, none⟩) 0 0) [] := by
      refine ⟨rfl, .inr ⟨w.heap.size, 0, #[], rfl, Nat.le_refl _, ?_, Nat.le_refl _, by simp [maxLen], rfl, rfl⟩⟩
      rw [← hw1]
      exact heap_alloc_new _ _
    have hsrc : Bytes w1 w1.heap.size (.slice (some a) l.length ca) l := by
      rcases h with ⟨h1, _⟩ | ⟨a', c, h1, h2⟩ | ⟨b, o, c, h1, h2, h3⟩
      · simp at h1
      · subst h2
        exact .inr (.inl ⟨a, ca, rfl, rfl⟩)
      · refine .inr (.inr ⟨b, o, ca, by simp at h1; rw [h1.1], hca, fun i hi => ?_⟩)
        have hb := block_lt_of_cell (h3 i hi).2
        exact ⟨Nat.lt_of_lt_of_le hb hb1.size, (hb1.cell hb).trans (h3 i hi).2⟩
    have HO := hid hown
    have HS := hid hsrc
    have HB := hid hb1
    have HL := hid hl
    have HSZ := hid hb1.size
    have HW1 := hid hw1
    clear h hl hown hsrc hb1 hw1
    generalize hn : l.length = n at *
    have HN := hid hn
    clear hn
    go_enter Tryz.func127, Tryz.ntmps127
    go_wp2_with (at_builtin; rw [HW1.out]; refine wpList_append_keep rfl (.tmp 5) (.tmp 6) rfl w.heap.size _ [] rfl HO.out _ l rfl HS.out (by have := HL.out; rw [List.length_nil, HN.out]; omega) HSZ.out ?_; intro v' w' g1 g2 g3; have G1 := hid g1; have G2 := hid g2; clear g1 g2 g3)
    go_ret
    exact ⟨HB.out.trans G2.out, _, rfl, G1.out⟩
end Go.Proofs.YtbjlfhabnjpdmaaGreatDoor
namespace Go.Proofs.YtbjlfhabnjpdmaaGreatDoor
open Go.RowKit

theorem take_succ_eq (l m : List (BitVec 8)) (k : Nat) (hl : k < l.length) (hm : k < m.length) (h : l.take k = m.take k) (hx : l.getD k 0 = m.getD k 0) : l.take (k + 1) = m.take (k + 1) := by
  rw [List.take_succ_eq_append_getElem hl, List.take_succ_eq_append_getElem hm, h]
  simp [hl, hm] at hx
  rw [hx]
set_option maxRecDepth 100000 in
set_option maxHeartbeats 1000000 in
theorem sameB_any (l m : List (BitVec 8)) (sa sb : Value) (Na Nb : Nat) (w : World) (ha : Bytes w Na sa l) (hb : Bytes w Nb sb m) (hlen : l.length < 2305843009213693952) (hlem : m.length < 2305843009213693952) :
    Calls Tryz.prog 92 #[sa, sb] w fun e w' => e = .returned (.bool (decide (l = m))) ∧ ∃ n, w' = w.drewN n := by
  obtain ⟨oa, ca, rfl, hca⟩ := ha.shape
  obtain ⟨ob, cb, rfl, hcb⟩ := hb.shape
  by_cases hne : l.length = m.length
  · have HA := hid ha
    have HB := hid hb
    clear ha hb
    rw [← hne] at HB hcb hlem ⊢
    have HE := hid hne
    clear hne
    generalize hn : l.length = n at *
    have HN := hid hn
    clear hn
    have hnn : ((n : Int) != (n : Int)) = false := by simp
    go_enter Tryz.func92, Tryz.ntmps92
    go_wp2_with fail
    go_loopw [13] (fun i wr => ∃ k q : Nat, k ≤ n ∧ i = .int .i64 k ∧ wr = w.drewN q ∧ Hid (l.take k = m.take k)) (fun i _ => n - (intOf i).toNat)
    case atStart => exact ⟨0, 0, by omega, rfl, rfl, rfl⟩
    case round =>
      obtain ⟨k, q, hk, rfl, rfl, HT⟩ := hrel
      by_cases hlt : k < n
      · have h1 : Bytes w Na (.slice oa l.length ca) l := by rw [HN.out]; exact HA.out
        have h2 : Bytes w Nb (.slice ob m.length cb) m := by rw [← HE.out]; exact HB.out
        obtain ⟨b1, o1, rfl, c1⟩ := h1.some (by rw [HN.out]; omega)
        obtain ⟨b2, o2, rfl, c2⟩ := h2.some (by rw [← HE.out]; omega)
        have d1 := (c1 k (by rw [HN.out]; exact hlt)).2
        have d2 := (c2 k (by rw [← HE.out]; exact hlt)).2
        obtain ⟨x, hx⟩ : ∃ x, l.getD k 0 = x := ⟨_, rfl⟩
        obtain ⟨y, hy⟩ : ∃ y, m.getD k 0 = y := ⟨_, rfl⟩
        rw [hx] at d1
        rw [hy] at d2
        have HX := hid hx
        have HY := hid hy
        clear h1 h2 c1 c2 hx hy
        have hlt' : (k : Int) < (n : Int) := by omega
        by_cases hxy : x = y
        · subst hxy
          have hnx : (b8 x != b8 x) = false := by simp
          go_wp2_with fail
          refine region_still (by kernel_rfl) (by kernel_rfl) ?_
          repeat still_step
          refine wpStill_nil ?_
          go_wp2
          go_roundw
          case rel => exact ⟨k + 1, q + 1, by omega, by go_num, rfl, take_succ_eq l m k (by rw [HN.out]; exact hlt) (by rw [← HE.out]; exact hlt) HT.out (HX.out.trans HY.out.symm)⟩
          case measure => simp [intOf]; omega
        · have hnx : (b8 x != b8 y) = true := by
            simp only [bne_iff_ne, ne_eq]
            intro h
            exact hxy (b8_inj h)
          have HNE := hid (show decide (l = m) = false by
            apply decide_eq_false
            rintro rfl
            exact hxy (HX.out.symm.trans HY.out))
          clear hxy
          go_wp2_with fail
          refine region_still (by kernel_rfl) (by kernel_rfl) ?_
          repeat still_step
          refine wpStill_nil ?_
          go_wp2
          go_ret
          exact ⟨by rw [HNE.out]; rfl, q + 1, rfl⟩
      · have HEQ := hid (show decide (l = m) = true by
          apply decide_eq_true
          have := HT.out
          rwa [List.take_of_length_le (by rw [HN.out]; omega), List.take_of_length_le (by rw [← HE.out]; omega)] at this)
        go_wp2
        go_ret
        exact ⟨by rw [HEQ.out]; rfl, q, rfl⟩
  · have hnn : ((l.length : Int) != (m.length : Int)) = true := by simp; omega
    have HNE := hid (show decide (l = m) = false by apply decide_eq_false; rintro rfl; exact hne rfl)
    clear ha hb
    go_enter Tryz.func92, Tryz.ntmps92
    go_wp2
    go_ret
    exact ⟨by rw [HNE.out]; rfl, 0, rfl⟩
end Go.Proofs.YtbjlfhabnjpdmaaGreatDoor
