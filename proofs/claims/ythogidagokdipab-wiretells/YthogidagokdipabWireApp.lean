/-
  What appendPiece does: a piece's bytes behind what the call owns; or which error.
-/
import Derived.Test.YthogidagokdipabWirePiece
import Derived.Deep.RegionLaw
import Derived.Deep.RegionHeldLaw
namespace Go.Proofs.Ythogidagokdipab
open Go.RowKit

theorem wrap_sub (n : Nat) (h : n ≤ 1000000) : IntKind.i64.wrap (20000 - (n : Int)) = 20000 - (n : Int) := by simp [IntKind.wrap, IntKind.bits, IntKind.signed]; split <;> omega
set_option maxRecDepth 100000 in
set_option maxHeartbeats 2000000 in
theorem appendPiece_any (p : Pc) (l : List (BitVec 8)) (v vb : Value) (base N : Nat) (w : World) (hb : base ≤ w.heap.size) (hown : OwnB w base v l) (hl : l.length ≤ 20000) (hp : p.ok) (hvb : Bytes w N vb p.b) (hN : N ≤ base) (hpl : p.b.length ≤ 140737488351232) :
    Calls Try.prog 14 #[v, pcV p vb] w fun e w' => Below base w w' ∧
      ((¬ (p.k = 1 ∨ p.k = 2) ∧ e = .returned (.tuple #[.slice none 0 0, .int .i64 1])) ∨
       ((p.k = 1 ∨ p.k = 2) ∧ 20000 < (l ++ p.wr).length ∧ e = .returned (.tuple #[.slice none 0 0, .int .i64 4])) ∨
       ((p.k = 1 ∨ p.k = 2) ∧ (l ++ p.wr).length ≤ 20000 ∧ ∃ v', e = .returned (.tuple #[v', .int .i64 0]) ∧ OwnB w' base v' (l ++ p.wr))) := by
  obtain ⟨ob, cb, rfl, hcb⟩ := hvb.shape
  obtain ⟨ov, cv, rfl, hcv⟩ := hown.shape
  obtain ⟨w0, hw0⟩ : ∃ w0, w.alloc (.cells #[.int .i64 p.k, .int .u64 (p.n : Int), .slice ob p.b.length cb] 38) = w0 := ⟨_, rfl⟩
  have hsz0 : w0.heap.size = w.heap.size + 1 := by rw [← hw0]; simp
  have hb0 : Below w.heap.size w w0 := by rw [← hw0]; exact (Below.refl _ _).alloc (Nat.le_refl _) _
  have hrow0 : Row w0 w.heap.size 38 [.int .i64 p.k, .int .u64 (p.n : Int), .slice ob p.b.length cb] := by rw [← hw0]; exact Row.new _ _ _
  obtain ⟨c0, c1, c2, z0, z1, z2⟩ := hrow0.three
  have HO := hid (show OwnB w0 base (.slice ov l.length cv) l by rw [← hw0]; exact hown.alloc _)
  have HVB := hid (hvb.below (hb0.mono (Nat.le_trans hN hb)))
  have HB0 := hid hb0
  have HR0 := hid hrow0
  clear hown hvb hb0 hrow0
  unfold pcV
  by_cases hk1 : p.k = 1
  · have e1 : (p.k == 1) = true := by simp [hk1]
    have HK := hid hk1
    clear hk1
    go_enter Try.func14, Try.ntmps14
    go_wp2_with fail
    have HA1 := hid (show OwnB (w0.alloc (.cells #[.int .u8 0] 5)).drew base (.slice ov l.length cv) l from HO.out.alloc _)
    have HA2 := hid (show Bytes (w0.alloc (.cells #[.int .u8 0] 5)).drew (w0.heap.size + 1) (.slice (some ⟨w.heap.size + 1, 0, none⟩) 1 1) [0] by rw [← hsz0]; exact (bytes_new w0 [0] 5 (0, 0) 1 (by simp)).drewN 1)
    have HA3 := hid (show l.length + [(0 : BitVec 8)].length ≤ 140737488355328 by simp; omega)
    have HA4 := hid (show base ≤ ((w0.alloc (.cells #[.int .u8 0] 5)).drew).heap.size by show base ≤ (w0.alloc (.cells #[.int .u8 0] 5)).heap.size; simp; omega)
    have HA5 := hid (show Row ((w0.alloc (.cells #[.int .u8 0] 5)).drew) w.heap.size 38 [.int .i64 p.k, .int .u64 (p.n : Int), .slice ob p.b.length cb] from (HR0.out.alloc _))
    obtain ⟨l1, hl1⟩ : ∃ l1, l ++ [0] = l1 := ⟨_, rfl⟩
    obtain ⟨l2, hl2⟩ : ∃ l2, l1 ++ numB p.n = l2 := ⟨_, rfl⟩
    have HL1 := hid hl1
    have HL2 := hid hl2
    have hl1l : l1.length ≤ 1000000 := by rw [← hl1]; simp; omega
    have hl2e : l2 = l ++ p.wr := by rw [← hl2, ← hl1]; simp [Pc.wr, HK.out]
    have hl2l : l2.length ≤ 1000000 := by have := numB_ten p.n hp; rw [← hl2, ← hl1]; simp; omega
    have HE2 := hid hl2e
    have HLL := hid hl1l
    clear hl1 hl2 hl2e hl1l
    go_region_law (first
      | (refine step_append_keep rfl (.tmp 11) (.tmp 12) rfl base (.slice ov l.length cv) l ?_ HA1.out (.slice (some ⟨w.heap.size + 1, 0, none⟩) 1 1) [0] ?_ HA2.out HA3.out HA4.out ?_; rfl; rfl; intro v1 w1 hown1 hbe1 hke1; rw [HL1.out] at hown1; obtain ⟨o1, k1, rfl, hk1⟩ := hown1.shape; have HR1 := hid (hke1.row HA5.out (by decide)); have c1' := HR1.out.cell 1; have HO1 := hid hown1; have HBE1 := hid hbe1; have HKE1 := hid hke1; clear hown1 hbe1 hke1)
      | (go_simp; go_at_call 13; refine (appendNumber_any p.n l1 (.slice o1 l1.length k1) base w1 hp (Nat.le_trans HA4.out HBE1.out.size) HO1.out HLL.out).mono ?_; rintro e w2 ⟨v2, rfl, hown2, hbe2, hke2⟩; rw [HL2.out] at hown2; obtain ⟨o2, k2, rfl, hk2⟩ := hown2.shape; have HO2 := hid hown2; have HBE2 := hid (HBE1.out.trans hbe2); have HKE2 := hid (HKE1.out.trans hke2); clear hown2 hbe2 hke2))
    all_goals
      have hws := wrap_sub l2.length hl2l
      have HBZ := hid ((HB0.out.mono hb).trans ((((Below.refl base w0).alloc (show base ≤ w0.heap.size by omega) (.cells #[.int .u8 0] 5)).drew).trans HBE2.out))
      by_cases hbig : 20000 < l2.length
      · have e3 : decide ((20000 : Int) - (l2.length : Int) < 0) = true := by simp; omega
        go_wp2
        go_ret2
        exact ⟨HBZ.out, .inr (.inl ⟨.inl HK.out, by rw [← HE2.out]; exact hbig, rfl⟩)⟩
      · have e3 : decide ((20000 : Int) - (l2.length : Int) < 0) = false := by simp; omega
        have HF1 := hid (show l2.length + ([] : List (BitVec 8)).length ≤ 140737488355328 by simp; omega)
        have HF2 := hid (show base ≤ w2.heap.size from Nat.le_trans hb HBZ.out.size)
        go_wp2_with (at_builtin; refine wpList_append_keep rfl (.tmp 35) (.tmp 36) rfl base _ l2 rfl HO2.out _ [] rfl (N := 0) (.inl ⟨rfl, rfl⟩) HF1.out HF2.out ?_; intro v3 w3 hown3 hbe3 hke3)
        go_ret2
        exact ⟨HBZ.out.trans hbe3, .inr (.inr ⟨.inl HK.out, by rw [← HE2.out]; omega, _, rfl, by rw [← HE2.out]; simpa using hown3⟩)⟩
  · have e1 : (p.k == 1) = false := by simp [hk1]
    have HK1 := hid hk1
    clear hk1
    by_cases hk2 : p.k = 2
    · have e2 : (p.k == 2) = true := by simp [hk2]
      have HK := hid hk2
      clear hk2
      have hwb : IntKind.u64.wrap (p.b.length : Int) = (p.b.length : Int) := wrap64 _ (by omega)
      go_enter Try.func14, Try.ntmps14
      go_wp2_with fail
      have HA1 := hid (show OwnB (w0.alloc (.cells #[.int .u8 1] 5)).drew base (.slice ov l.length cv) l from HO.out.alloc _)
      have HA2 := hid (show Bytes (w0.alloc (.cells #[.int .u8 1] 5)).drew (w0.heap.size + 1) (.slice (some ⟨w.heap.size + 1, 0, none⟩) 1 1) [1] by rw [← hsz0]; exact (bytes_new w0 [1] 5 (0, 0) 1 (by simp)).drewN 1)
      have HA3 := hid (show l.length + [(1 : BitVec 8)].length ≤ 140737488355328 by simp; omega)
      have HA4 := hid (show base ≤ ((w0.alloc (.cells #[.int .u8 1] 5)).drew).heap.size by show base ≤ (w0.alloc (.cells #[.int .u8 1] 5)).heap.size; simp; omega)
      have HA5 := hid (show Row ((w0.alloc (.cells #[.int .u8 1] 5)).drew) w.heap.size 38 [.int .i64 p.k, .int .u64 (p.n : Int), .slice ob p.b.length cb] from (HR0.out.alloc _))
      obtain ⟨l1, hl1⟩ : ∃ l1, l ++ [1] = l1 := ⟨_, rfl⟩
      obtain ⟨l2, hl2⟩ : ∃ l2, l1 ++ numB p.b.length = l2 := ⟨_, rfl⟩
      have HL1 := hid hl1
      have HL2 := hid hl2
      have hl1l : l1.length ≤ 1000000 := by rw [← hl1]; simp; omega
      have hl2e : l2 ++ p.b = l ++ p.wr := by rw [← hl2, ← hl1]; simp [Pc.wr, HK.out]
      have hl2l : l2.length ≤ 1000000 := by have := numB_ten p.b.length (by omega); rw [← hl2, ← hl1]; simp; omega
      have HE2 := hid hl2e
      have HLL := hid hl1l
      have HPB := hid (show p.b.length < 18446744073709551616 by omega)
      clear hl1 hl2 hl2e hl1l
      go_region_law (first
        | (refine step_append_keep rfl (.tmp 19) (.tmp 20) rfl base (.slice ov l.length cv) l ?_ HA1.out (.slice (some ⟨w.heap.size + 1, 0, none⟩) 1 1) [1] ?_ HA2.out HA3.out HA4.out ?_; rfl; rfl; intro v1 w1 hown1 hbe1 hke1; rw [HL1.out] at hown1; obtain ⟨o1, k1, rfl, hk1⟩ := hown1.shape; have HR1 := hid (hke1.row HA5.out (by decide)); have c2' := HR1.out.cell 2; have HO1 := hid hown1; have HBE1 := hid hbe1; have HKE1 := hid hke1; clear hown1 hbe1 hke1)
        | (go_simp; go_at_call 13; refine (appendNumber_any p.b.length l1 (.slice o1 l1.length k1) base w1 HPB.out (Nat.le_trans HA4.out HBE1.out.size) HO1.out HLL.out).mono ?_; rintro e w2 ⟨v2, rfl, hown2, hbe2, hke2⟩; rw [HL2.out] at hown2; obtain ⟨o2, k2, rfl, hk2⟩ := hown2.shape; have HO2 := hid hown2; have HBE2 := hid (HBE1.out.trans hbe2); have HR2 := hid (hke2.row HR1.out (by decide)); have c2'' := HR2.out.cell 2; clear hown2 hbe2 hke2))
      all_goals
        have hws := wrap_sub l2.length hl2l
        have HBZ0 := hid (((Below.refl base w0).alloc (show base ≤ w0.heap.size by omega) (.cells #[.int .u8 1] 5)).drew.trans HBE2.out)
        have HBZ := hid ((HB0.out.mono hb).trans HBZ0.out)
        have HVB2 := hid (HVB.out.below (HBZ0.out.mono hN))
        by_cases hbig : 20000 < l2.length + p.b.length
        · have e3 : decide ((20000 : Int) - (l2.length : Int) < (p.b.length : Int)) = true := by simp; omega
          go_wp2
          go_ret2
          exact ⟨HBZ.out, .inr (.inl ⟨.inr HK.out, by rw [← HE2.out, List.length_append]; exact hbig, rfl⟩)⟩
        · have e3 : decide ((20000 : Int) - (l2.length : Int) < (p.b.length : Int)) = false := by simp; omega
          have HF1 := hid (show l2.length + p.b.length ≤ 140737488355328 by omega)
          have HF2 := hid (show base ≤ w2.heap.size from Nat.le_trans hb HBZ.out.size)
          go_wp2_with (at_builtin; refine wpList_append_keep rfl (.tmp 35) (.tmp 36) rfl base _ l2 rfl HO2.out _ p.b rfl HVB2.out HF1.out HF2.out ?_; intro v3 w3 hown3 hbe3 hke3)
          go_ret2
          exact ⟨HBZ.out.trans hbe3, .inr (.inr ⟨.inr HK.out, by rw [← HE2.out, List.length_append]; omega, _, rfl, by rw [← HE2.out]; exact hown3⟩)⟩
    · have e2 : (p.k == 2) = false := by simp [hk2]
      have HK2 := hid hk2
      clear hk2
      go_enter Try.func14, Try.ntmps14
      go_wp2
      go_ret2
      exact ⟨HB0.out.mono hb, .inl ⟨by rintro (h | h); exact HK1.out h; exact HK2.out h, rfl⟩⟩
end Go.Proofs.Ythogidagokdipab
