/-
  What the laws of clients ask first: it is true.
-/
import Derived.Test.YtfpngilmdgeikaaDoorClCopy
namespace Go.Proofs.YtfpngilmdgeikaaDoor
open Go.RowKit

def kn0 : Kn := ⟨1, 5, List.replicate 32 0, List.replicate 32 0⟩
def cl0 : Cl := newC ⟨#[97]⟩ 10 kn0
theorem kn0_right : wrongK kn0 = 0 := (wrongK_iff kn0).2 ⟨by decide, by decide, by decide⟩
theorem kn0_fits : kn0.fits := ⟨by simp [kn0], by simp [kn0]⟩
theorem cl0_right : wrongCl cl0 = 0 := (wrongCl_iff cl0).2 ⟨by decide, by decide, by decide, fun k hk => by
  obtain rfl : k = kn0 := by simpa [cl0, newC] using hk
  exact kn0_right, by simp [cl0, newC, Rising]⟩
theorem cl0_new : newR ⟨#[97]⟩ 10 kn0 = cl0 := by unfold newR; rw [if_pos (show wrongCl (newC ⟨#[97]⟩ 10 kn0) = 0 from cl0_right)]; rfl
theorem cl0_fits : cl0.fits := ⟨by show (1 : Nat) ≤ _; omega, by simp [cl0, newC], fun k hk => by
  obtain rfl : k = kn0 := by simpa [cl0, newC] using hk
  exact kn0_fits⟩
theorem cl0_at : atK cl0.known 1 = some kn0 := rfl
theorem cl0_14 : activeB cl0 14 = true := by decide
theorem cl0_15 : activeB cl0 15 = false := by decide
set_option maxRecDepth 100000 in
set_option maxHeartbeats 2000000 in
theorem known7_any (w : World) : Calls Tryd.prog 82 #[] w fun e w' => Below w.heap.size w w' ∧ ∃ o c, e = .returned (.agg #[.int .i64 1, .int .i64 5, .slice o 32 c, .slice o 32 c]) ∧ Bytes w' w'.heap.size (.slice o 32 c) (List.replicate 32 0) := by
  have hmk : ∀ w : World, (Instr.makeSlice 23 (.int .i64 32) (.int .i64 32)).run Tryd.prog w = .ok (.slice (some ⟨w.heap.size, 0, none⟩) 32 32) (w.alloc (.cells ((List.replicate 32 (0 : BitVec 8)).map V).toArray 5)) := fun _ => by kernel_rfl
  obtain ⟨w0, hw0⟩ : ∃ w0, w.alloc (.cells #[.int .i64 0, .int .i64 0, .slice none 0 0, .slice none 0 0] 73) = w0 := ⟨_, rfl⟩
  have hsz0 : w0.heap.size = w.heap.size + 1 := by rw [← hw0]; simp
  have hr0 : Row w0 w.heap.size 73 [.int .i64 0, .int .i64 0, .slice none 0 0, .slice none 0 0] := by rw [← hw0]; exact Row.new _ _ _
  obtain ⟨w1, hw1⟩ : ∃ w1, w0.alloc (.cells ((List.replicate 32 (0 : BitVec 8)).map V).toArray 5) = w1 := ⟨_, rfl⟩
  have hb1 : Below w0.heap.size w0 w1 := by rw [← hw1]; exact (Below.refl _ _).alloc (Nat.le_refl _) _
  have hmk0 := hmk w0
  rw [hw1, hsz0] at hmk0
  have HB1 := hid (show Below w.heap.size w w1 by rw [← hw1, ← hw0]; exact ((Below.refl _ _).alloc (Nat.le_refl _) _).alloc (by simp) _)
  have HR1 := hid (hr0.below hb1 hr0.lt)
  have HOW := hid (show OwnB w1 (w.heap.size + 1) (.slice (some ⟨w.heap.size + 1, 0, none⟩) 32 32) (List.replicate 32 0) from
    ⟨by simp, .inr ⟨w.heap.size + 1, 32, ((List.replicate 32 (0 : BitVec 8)).map V).toArray, rfl, Nat.le_refl _, by rw [← hw1, ← hsz0]; exact heap_alloc_new _ _, by simp, by unfold maxLen; omega, by simp, by simp⟩⟩)
  obtain ⟨⟨y0, y1, y2, y3⟩, z0, z1, z2, z3⟩ := HR1.out.four
  have HW0 := hid hw0
  clear hw0 hw1 hb1 hr0 hsz0 hmk
  go_enter Tryd.func82, Tryd.ntmps82
  go_wp2_with fail
  rw [HW0.out, hmk0]
  go_wp2
  have hrz := set4_row HR1.out (.int .i64 1) (.int .i64 5) (.slice (some ⟨w.heap.size + 1, 0, none⟩) 32 32) (.slice (some ⟨w.heap.size + 1, 0, none⟩) 32 32)
  obtain ⟨⟨u0, u1, u2, u3⟩, _⟩ := hrz.four
  have hbz := set4_below HB1.out (Nat.le_refl _) (.int .i64 1) (.int .i64 5) (.slice (some ⟨w.heap.size + 1, 0, none⟩) 32 32) (.slice (some ⟨w.heap.size + 1, 0, none⟩) 32 32)
  have hkz := (HOW.out.keep (fun g hg => set4_other w1 w.heap.size (.int .i64 1) (.int .i64 5) (.slice (some ⟨w.heap.size + 1, 0, none⟩) 32 32) (.slice (some ⟨w.heap.size + 1, 0, none⟩) 32 32) g (by omega))).bytes
  unfold set4 at u0 u1 u2 u3
  exact bodyPost_ret (v := .agg #[.int .i64 1, .int .i64 5, .slice (some ⟨w.heap.size + 1, 0, none⟩) 32 32, .slice (some ⟨w.heap.size + 1, 0, none⟩) 32 32]) (by simp [results, Tryd.results82, go_sem, u0, u1, u2, u3]) rfl ⟨hbz, some ⟨w.heap.size + 1, 0, none⟩, 32, rfl, hkz⟩
set_option maxRecDepth 100000 in
set_option maxHeartbeats 4000000 in
theorem alive7_any (w : World) : Calls Tryd.prog 37 #[] w fun e w' => e = .returned (.bool true) ∧ Below w.heap.size w w' := by
  go_enter Tryd.func37, Tryd.ntmps37
  go_wp2_with fail
  refine (known7_any w).mono ?_
  rintro e w1 ⟨hb1, o, m, rfl, hby⟩
  have HNW := hid (clNewC ⟨#[97]⟩ 10 kn0 (.agg #[.int .i64 1, .int .i64 5, .slice o 32 m, .slice o 32 m]) w1.heap.size w1 ⟨_, _, rfl, hby, hby⟩ (Nat.le_refl _) (by show (1 : Nat) ≤ _; omega) kn0_fits)
  rw [cl0_new] at HNW
  have HB1 := hid hb1
  clear hb1 hby
  go_wp2_with fail
  refine HNW.out.mono ?_
  rintro e w2 ⟨hb2, o2, n2, m2, rfl, hkn⟩
  rw [show wrongCl (newC ⟨#[97]⟩ 10 kn0) = 0 from cl0_right]
  have HB2 := hid (HB1.out.trans (hb2.mono HB1.out.size))
  obtain ⟨w3, hw3⟩ : ∃ w3, w2.alloc (.cells #[.string cl0.chain, .int .i64 cl0.trust, .bool cl0.frozen, .slice o2 n2 m2] 59) = w3 := ⟨_, rfl⟩
  have hb3 : Below w2.heap.size w2 w3 := by rw [← hw3]; exact (Below.refl _ _).alloc (Nat.le_refl _) _
  have HR3 := hid (show Row w3 w2.heap.size 59 [.string cl0.chain, .int .i64 cl0.trust, .bool cl0.frozen, .slice o2 n2 m2] by rw [← hw3]; exact Row.new _ _ _)
  have HB3 := hid (HB2.out.trans (hb3.mono HB2.out.size))
  have HCV := hid (show ClV w3 w2.heap.size (.agg #[.string cl0.chain, .int .i64 cl0.trust, .bool cl0.frozen, .slice o2 n2 m2]) cl0 from ⟨_, rfl, hkn.below hb3⟩)
  have HAT := hid (atC cl0 1 (.agg #[.string cl0.chain, .int .i64 cl0.trust, .bool cl0.frozen, .slice o2 n2 m2]) w2.heap.size w3 HCV.out hb3.size cl0_fits)
  have HQ3 := hid hb3.size
  have HW3 := hid hw3
  obtain ⟨⟨y0, y1, y2, y3⟩, _⟩ := HR3.out.four
  clear hb2 hkn hw3 hb3
  go_wp2_with fail
  rw [HW3.out]
  refine HAT.out.mono ?_
  rintro e w4 ⟨hb4, o4, m4, o5, m5, rfl, -, -⟩
  rw [knAt_some cl0_at, cl0_at, show (some kn0).isSome = true from rfl]
  have hkt : kn0.time = 5 := rfl
  have HB4 := hid (HB3.out.trans (hb4.mono HB3.out.size))
  have HR4 := hid (HR3.out.below hb4 HR3.out.lt)
  obtain ⟨w5, hw5⟩ : ∃ w5, w4.alloc (.cells #[.int .i64 kn0.height, .int .i64 kn0.time, .slice o4 kn0.root.length m4, .slice o5 kn0.next.length m5] 73) = w5 := ⟨_, rfl⟩
  have hb5 : Below w4.heap.size w4 w5 := by rw [← hw5]; exact (Below.refl _ _).alloc (Nat.le_refl _) _
  have HR5 := hid (HR4.out.below hb5 HR4.out.lt)
  have HB5 := hid (HB4.out.trans (hb5.mono HB4.out.size))
  have HQ5 := hid (show Below w3.heap.size w3 w5 from hb4.trans (hb5.mono hb4.size))
  have HK5 := hid (show Row w5 w4.heap.size 73 [.int .i64 kn0.height, .int .i64 kn0.time, .slice o4 kn0.root.length m4, .slice o5 kn0.next.length m5] by rw [← hw5]; exact Row.new _ _ _)
  have HAC := hid (show ∀ (now : Int) (wx : World), Below w3.heap.size w3 wx → 0 ≤ now ∧ now ≤ 1000000000000 → Calls Tryd.prog 83 #[.agg #[.string cl0.chain, .int .i64 cl0.trust, .bool cl0.frozen, .slice o2 n2 m2], .int .i64 now] wx fun e w' => e = .returned (.bool (activeB cl0 now)) ∧ Below wx.heap.size wx w' from fun now wx hx hn =>
    activeC cl0 now _ w2.heap.size wx (HCV.out.below (hx.mono HQ3.out)) (Nat.le_trans HQ3.out hx.size) cl0_right hn)
  have HW5 := hid hw5
  have hlt4 : w2.heap.size < w4.heap.size := HR4.out.lt
  have hne4 : w2.heap.size ≠ w4.heap.size := by omega
  clear hb4 hw5 hb5 y0 y1 y2 y3
  obtain ⟨⟨y0, y1, y2, y3⟩, _⟩ := HR4.out.four
  have HZT := hid hkt
  clear hkt
  rw [HZT.out] at HK5 HW5
  rw [HZT.out]
  generalize kn0.height = kh at *
  generalize kn0.root.length = kr at *
  generalize kn0.next.length = kx at *
  go_wp2_with fail
  rw [HW5.out]
  refine (HAC.out 14 _ HQ5.out (by decide)).mono ?_
  rintro e w6 ⟨rfl, hb6⟩
  rw [cl0_14]
  have HB6 := hid (HB5.out.trans (hb6.mono HB5.out.size))
  have HQ6 := hid (HQ5.out.trans (hb6.mono HQ5.out.size))
  have HR6 := hid (HR5.out.below hb6 HR5.out.lt)
  clear hb6 y0 y1 y2 y3 hlt4 hne4
  obtain ⟨⟨y0, y1, y2, y3⟩, _⟩ := HR6.out.four
  go_wp2_with fail
  refine (HAC.out 15 _ HQ6.out (by decide)).mono ?_
  rintro e w7 ⟨rfl, hb7⟩
  rw [cl0_15]
  have HB7 := hid (HB6.out.trans (hb7.mono HB6.out.size))
  clear hb7
  go_wp2
  go_ret
  exact ⟨by first | done | rfl, HB7.out⟩
end Go.Proofs.YtfpngilmdgeikaaDoor
