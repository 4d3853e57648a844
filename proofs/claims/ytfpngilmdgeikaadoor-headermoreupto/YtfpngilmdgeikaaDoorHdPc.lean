/-
  What the makers of pieces answer, the landed ones and the document's: a piece of a number, a piece of bytes. What the document's Bytes of pieces answers.
-/
import Derived.Test.YtfpngilmdgeikaaDoorHdMems
import Derived.Test.YtfpngilmdgeikaaDoorWireBoth
namespace Go.Proofs.YtfpngilmdgeikaaDoor
open Go.RowKit

/-- a maker of a number's piece -/
def NumC (f : FuncId) : Prop := ∀ (n : Nat) (w : World), Calls Tryd.prog f #[.int .u64 (n : Int)] w fun e w' => e = .returned (.agg #[.int .i64 1, .int .u64 (n : Int), .slice none 0 0]) ∧ Below w.heap.size w w'
/-- a maker of bytes' piece -/
def TextC (f : FuncId) : Prop := ∀ (o : Option Addr) (n c : Nat) (w : World), Calls Tryd.prog f #[.slice o n c] w fun e w' => e = .returned (.agg #[.int .i64 2, .int .u64 0, .slice o n c]) ∧ Below w.heap.size w w'
theorem numberC : NumC 53 := by
  intro n w
  obtain ⟨w0, hw0⟩ : ∃ w0, w.alloc (.cells #[.int .i64 0, .int .u64 0, .slice none 0 0] 91) = w0 := ⟨_, rfl⟩
  have HB0 := hid (show Below w.heap.size w w0 by rw [← hw0]; exact (Below.refl _ _).alloc (Nat.le_refl _) _)
  have HR0 := hid (show Row w0 w.heap.size 91 [.int .i64 0, .int .u64 0, .slice none 0 0] by rw [← hw0]; exact Row.new _ _ _)
  obtain ⟨c0, c1, c2, z0, z1, z2⟩ := HR0.out.three
  go_enter Tryd.func53, Tryd.ntmps53
  go_wp2
  obtain ⟨d0, d1, d2⟩ := HR0.out.set3 (.int .i64 1) (.int .u64 (n : Int)) (.slice none 0 0)
  exact bodyPost_ret (v := .agg #[.int .i64 1, .int .u64 (n : Int), .slice none 0 0]) (by simp [results, Tryd.results53, go_sem, d0, d1, d2]) rfl ⟨rfl, below_set3 HB0.out (Nat.le_refl _) _ _ _⟩
theorem textC : TextC 59 := by
  intro o n c w
  obtain ⟨w0, hw0⟩ : ∃ w0, w.alloc (.cells #[.int .i64 0, .int .u64 0, .slice none 0 0] 91) = w0 := ⟨_, rfl⟩
  have HB0 := hid (show Below w.heap.size w w0 by rw [← hw0]; exact (Below.refl _ _).alloc (Nat.le_refl _) _)
  have HR0 := hid (show Row w0 w.heap.size 91 [.int .i64 0, .int .u64 0, .slice none 0 0] by rw [← hw0]; exact Row.new _ _ _)
  obtain ⟨c0, c1, c2, z0, z1, z2⟩ := HR0.out.three
  go_enter Tryd.func59, Tryd.ntmps59
  go_wp2
  obtain ⟨d0, d1, d2⟩ := HR0.out.set3 (.int .i64 2) (.int .u64 0) (.slice o n c)
  exact bodyPost_ret (v := .agg #[.int .i64 2, .int .u64 0, .slice o n c]) (by simp [results, Tryd.results59, go_sem, d0, d1, d2]) rfl ⟨rfl, below_set3 HB0.out (Nat.le_refl _) _ _ _⟩
theorem refU : NumC 56 := by
  intro n w
  obtain ⟨w0, hw0⟩ : ∃ w0, w.alloc (.cells #[.int .i64 0, .int .u64 0, .slice none 0 0] 91) = w0 := ⟨_, rfl⟩
  have HB0 := hid (show Below w.heap.size w w0 by rw [← hw0]; exact (Below.refl _ _).alloc (Nat.le_refl _) _)
  have HR0 := hid (show Row w0 w.heap.size 91 [.int .i64 0, .int .u64 0, .slice none 0 0] by rw [← hw0]; exact Row.new _ _ _)
  obtain ⟨c0, c1, c2, z0, z1, z2⟩ := HR0.out.three
  go_enter Tryd.func56, Tryd.ntmps56
  go_wp2
  obtain ⟨d0, d1, d2⟩ := HR0.out.set3 (.int .i64 1) (.int .u64 (n : Int)) (.slice none 0 0)
  exact bodyPost_ret (v := .agg #[.int .i64 1, .int .u64 (n : Int), .slice none 0 0]) (by simp [results, Tryd.results56, go_sem, d0, d1, d2]) rfl ⟨rfl, below_set3 HB0.out (Nat.le_refl _) _ _ _⟩
theorem refB : TextC 60 := by
  intro o n c w
  obtain ⟨w0, hw0⟩ : ∃ w0, w.alloc (.cells #[.int .i64 0, .int .u64 0, .slice none 0 0] 91) = w0 := ⟨_, rfl⟩
  have HB0 := hid (show Below w.heap.size w w0 by rw [← hw0]; exact (Below.refl _ _).alloc (Nat.le_refl _) _)
  have HR0 := hid (show Row w0 w.heap.size 91 [.int .i64 0, .int .u64 0, .slice none 0 0] by rw [← hw0]; exact Row.new _ _ _)
  obtain ⟨c0, c1, c2, z0, z1, z2⟩ := HR0.out.three
  go_enter Tryd.func60, Tryd.ntmps60
  go_wp2
  obtain ⟨d0, d1, d2⟩ := HR0.out.set3 (.int .i64 2) (.int .u64 0) (.slice o n c)
  exact bodyPost_ret (v := .agg #[.int .i64 2, .int .u64 0, .slice o n c]) (by simp [results, Tryd.results60, go_sem, d0, d1, d2]) rfl ⟨rfl, below_set3 HB0.out (Nat.le_refl _) _ _ _⟩
/-- the document's N: of a number that is not below nothing -/
theorem refN_any (n : Nat) (w : World) (hn : n < 9223372036854775808) : Calls Tryd.prog 61 #[.int .i64 (n : Int)] w fun e w' => e = .returned (.agg #[.int .i64 1, .int .u64 (n : Int), .slice none 0 0]) ∧ Below w.heap.size w w' := by
  have hw := wrap64 n (by omega)
  obtain ⟨w0, hw0⟩ : ∃ w0, w.alloc (.cells #[.int .i64 0, .int .u64 0, .slice none 0 0] 91) = w0 := ⟨_, rfl⟩
  have HB0 := hid (show Below w.heap.size w w0 by rw [← hw0]; exact (Below.refl _ _).alloc (Nat.le_refl _) _)
  have HR0 := hid (show Row w0 w.heap.size 91 [.int .i64 0, .int .u64 0, .slice none 0 0] by rw [← hw0]; exact Row.new _ _ _)
  obtain ⟨c0, c1, c2, z0, z1, z2⟩ := HR0.out.three
  go_enter Tryd.func61, Tryd.ntmps61
  go_wp2
  obtain ⟨d0, d1, d2⟩ := HR0.out.set3 (.int .i64 1) (.int .u64 (n : Int)) (.slice none 0 0)
  exact bodyPost_ret (v := .agg #[.int .i64 1, .int .u64 (n : Int), .slice none 0 0]) (by simp [results, Tryd.results61, go_sem, d0, d1, d2]) rfl ⟨rfl, below_set3 HB0.out (Nat.le_refl _) _ _ _⟩
/-- the document's Bytes of pieces: what Write makes of them, where it makes something -/
theorem refPieces_any (l : List Pc) (x : List (BitVec 8)) (sv : Value) (N : Nat) (w : World) (hb : Pieces w N sv l) (hN : N ≤ w.heap.size) (hlen : l.length < 2305843009213693952) (hfit : ∀ p ∈ l, p.fits) (hx : wrAll l = .ok x) :
    Calls Tryd.prog 58 #[sv] w fun e w' => ∃ v, e = .returned v ∧ Bytes w' w'.heap.size v x ∧ Below w.heap.size w w' := by
  have HC := hid (refWrite_any l sv N w hb hN hlen hfit)
  have HX := hid hx
  obtain ⟨oa, ca, rfl, hca⟩ := hb.shape
  clear hb hfit hx hlen hca
  generalize l.length = n at *
  go_enter Tryd.func58, Tryd.ntmps58
  go_wp2_with fail
  refine HC.out.mono ?_
  rintro e w1 ⟨hb1, h1⟩
  have h2 : ∃ v, e = .returned (.tuple #[v, okV]) ∧ OwnB w1 w.heap.size v x := by
    rcases h1 with ⟨x', v, hx', he, ho⟩ | ⟨c, i, hx', _⟩
    · rw [HX.out] at hx'
      cases hx'
      exact ⟨v, he, ho⟩
    · rw [HX.out] at hx'
      cases hx'
  obtain ⟨v, rfl, ho⟩ := h2
  obtain ⟨ov, cv, rfl, hcv⟩ := ho.shape
  have HO := hid ho
  have HB1 := hid hb1
  clear h1 ho hb1 HC
  unfold okV
  obtain ⟨w2, hw2⟩ : ∃ w2, w1.alloc (.cells #[.int .i64 0, .int .i64 0] 94) = w2 := ⟨_, rfl⟩
  have HB2 := hid (show Below w1.heap.size w1 w2 by rw [← hw2]; exact (Below.refl _ _).alloc (Nat.le_refl _) _)
  have HR2 := hid (show Row w2 w1.heap.size 94 [.int .i64 0, .int .i64 0] by rw [← hw2]; exact Row.new _ _ _)
  have HO2 := hid HO.out.bytes
  obtain ⟨c0, c1, z0, z1⟩ := HR2.out.two
  have HSZ := hid HB1.out.size
  clear HO
  generalize hm : x.length = m at *
  have HM := hid hm
  clear hm
  go_wp2
  go_ret
  have hbz := below_set2 HB2.out (Nat.le_refl _) (.int .i64 0) (.int .i64 0)
  exact ⟨_, rfl, (HO2.out.below hbz).mono hbz.size, HB1.out.trans (hbz.mono HSZ.out)⟩
end Go.Proofs.YtfpngilmdgeikaaDoor
