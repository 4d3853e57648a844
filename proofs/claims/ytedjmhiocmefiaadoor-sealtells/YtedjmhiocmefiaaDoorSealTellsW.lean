/-
  SealTells answers true of every seed, message, key and seal, and turns nothing that was there.
-/
import Derived.Test.YtedjmhiocmefiaaDoorRef2Sign
import Derived.Test.YtedjmhiocmefiaaDoorRef2Good
namespace Go.Proofs.YtedjmhiocmefiaaDoor
open Go.RowKit

theorem bool_of (p : Prop) : ∃ b : Bool, (b = true ↔ p) := by
  by_cases h : p
  · exact ⟨true, fun _ => h, fun _ => rfl⟩
  · exact ⟨false, fun h' => by simp at h', fun h' => absurd h' h⟩
theorem bool_same {a b : Bool} {p : Prop} (ha : a = true ↔ p) (hb : b = true ↔ p) : a = b := Bool.eq_iff_iff.2 (ha.trans hb.symm)

set_option maxRecDepth 100000 in
set_option maxHeartbeats 2000000 in
theorem sealTells_any (l m : List (BitVec 8)) (key r s : Nat) (sv mv : Value) (N : Nat) (w : World) (hk : key < 18446744073709551616) (hr : r < 18446744073709551616) (hs : s < 18446744073709551616) (hN : N ≤ w.heap.size) (hb : Bytes w N sv l) (hm : Bytes w N mv m) (hK : tableAt w) (hlen : l.length ≤ 140737488351232) (hlenm : m.length ≤ 140737488351232) :
    Calls Tryd.prog 7 #[sv, mv, .int .u64 (key : Int), .agg #[.int .u64 (r : Int), .int .u64 (s : Int)]] w fun e w' => e = .returned (.bool true) ∧ Below w.heap.size w w' := by
  obtain ⟨w1, hw1⟩ : ∃ w1, w.alloc (.cells #[.int .u64 (r : Int), .int .u64 (s : Int)] 35) = w1 := ⟨_, rfl⟩
  have hsz1 : w1.heap.size = w.heap.size + 1 := by rw [← hw1]; simp
  have hb1 : Below w.heap.size w w1 := by rw [← hw1]; exact (Below.refl _ _).alloc (Nat.le_refl _) _
  have hrow1 : Row w1 w.heap.size 35 [.int .u64 (r : Int), .int .u64 (s : Int)] := by rw [← hw1]; exact Row.new _ _ _
  have c0 : w1.cell? ⟨w.heap.size, 0, none⟩ = some (.int .u64 (r : Int)) := hrow1.cell 0
  have c1 : w1.cell? ⟨w.heap.size, 1, none⟩ = some (.int .u64 (s : Int)) := hrow1.cell 1
  obtain ⟨g0, hg0⟩ := bool_of (goodN key m r s)
  have hl1 := hb.below (hb1.mono hN)
  have hm1 := hm.below (hb1.mono hN)
  have hk1 := hK.below hb1 hK.lt
  have HC := hid (fun (wx w' : World) (hx : Below w1.heap.size w1 wx) (h : Below wx.heap.size wx w') => (show w'.cell? ⟨w.heap.size, 0, none⟩ = some (.int .u64 (r : Int)) ∧ w'.cell? ⟨w.heap.size, 1, none⟩ = some (.int .u64 (s : Int)) ∧ Below w1.heap.size w1 w' from by
    have h2 := hx.trans (h.mono hx.size)
    exact ⟨(h2.cell (by show w.heap.size < w1.heap.size; omega)).trans c0, (h2.cell (by show w.heap.size < w1.heap.size; omega)).trans c1, h2⟩))
  have HK1 := hid (fun (wx : World) (hx : Below w1.heap.size w1 wx) => key_any l sv N wx (by have := hx.size; omega) (hl1.below (hx.mono (by omega))) (hk1.below hx hk1.lt) hlen)
  have HK2 := hid (fun (wx : World) (hx : Below w1.heap.size w1 wx) => refKey_any l sv N wx (by have := hx.size; omega) (hl1.below (hx.mono (by omega))) hlen)
  have HS1 := hid (fun (wx : World) (hx : Below w1.heap.size w1 wx) => sign_any l m sv mv N wx (by have := hx.size; omega) (hl1.below (hx.mono (by omega))) (hm1.below (hx.mono (by omega))) (hk1.below hx hk1.lt) hlen hlenm)
  have HS2 := hid (fun (wx : World) (hx : Below w1.heap.size w1 wx) => refSign_any l m sv mv N wx (by have := hx.size; omega) (hl1.below (hx.mono (by omega))) (hm1.below (hx.mono (by omega))) hlen hlenm)
  have HG1 := hid (fun (wx : World) (hx : Below w1.heap.size w1 wx) => (good_any key m r s mv N wx hk hr hs (by have := hx.size; omega) (hm1.below (hx.mono (by omega))) (hk1.below hx hk1.lt) hlenm).mono (R' := fun e w' => e = .returned (.bool g0) ∧ Below wx.heap.size wx w') (fun e w' ⟨b, he, hbt, hbb⟩ => ⟨by rw [he, bool_same hbt hg0], hbb⟩))
  have HG2 := hid (fun (wx : World) (hx : Below w1.heap.size w1 wx) => (refGood_any key m r s mv N wx hk hr hs (by have := hx.size; omega) (hm1.below (hx.mono (by omega))) hlenm).mono (R' := fun e w' => e = .returned (.bool g0) ∧ Below wx.heap.size wx w') (fun e w' ⟨b, he, hbt, hbb⟩ => ⟨by rw [he, bool_same hbt hg0], hbb⟩))
  have HB1 := hid hb1
  clear hb1 hrow1 hb hm hK hg0 hl1 hm1 hk1
  go_enter Tryd.func7, Tryd.ntmps7
  go_wp2_with fail
  have k0 : w1.drew.cell? ⟨w.heap.size, 0, none⟩ = some (.int .u64 (r : Int)) := c0
  have k1 : w1.drew.cell? ⟨w.heap.size, 1, none⟩ = some (.int .u64 (s : Int)) := c1
  have HBD : Hid (Below w1.heap.size w1 w1.drew) := hid ((Below.refl _ _).drew)
  go_region_held3 (fun wx => wx.cell? ⟨w.heap.size, 0, none⟩ = some (.int .u64 (r : Int)) ∧ wx.cell? ⟨w.heap.size, 1, none⟩ = some (.int .u64 (s : Int)) ∧ Hid (Below w1.heap.size w1 wx)) (first | assumption | (refine ⟨?_, ?_, ?_⟩ <;> assumption))
    (first
      | (go_at_call 15; refine (HK1.out _ (Hid.out HBD)).mono ?_; rintro e w2 ⟨rfl, hb2⟩; obtain ⟨f20, f21, hx2⟩ := HC.out _ _ (Hid.out HBD) hb2; have HB2 : Hid (Below w1.heap.size w1 w2) := hid hx2; clear hb2 hx2)
      | (go_at_call 16; refine (HK2.out _ (Hid.out HB2)).mono ?_; rintro e w3 ⟨rfl, hb3⟩; obtain ⟨f30, f31, hx3⟩ := HC.out _ _ (Hid.out HB2) hb3; have HB3 : Hid (Below w1.heap.size w1 w3) := hid hx3; clear hb3 hx3)
      | (go_at_call 17; refine (HS1.out _ (Hid.out HB3)).mono ?_; rintro e w4 ⟨rfl, hb4⟩; obtain ⟨f40, f41, hx4⟩ := HC.out _ _ (Hid.out HB3) hb4; have HB4 : Hid (Below w1.heap.size w1 w4) := hid hx4; clear hb4 hx4)
      | (go_at_call 18; refine (HS2.out _ (Hid.out HB4)).mono ?_; rintro e w5 ⟨rfl, hb5⟩; obtain ⟨f50, f51, hx5⟩ := HC.out _ _ (Hid.out HB4) hb5; have HB5 : Hid (Below w1.heap.size w1 w5) := hid hx5; clear hb5 hx5)
      | (go_at_call 19; refine (HG1.out _ (Hid.out HB5)).mono ?_; rintro e w6 ⟨rfl, hb6⟩; obtain ⟨f60, f61, hx6⟩ := HC.out _ _ (Hid.out HB5) hb6; have HB6 : Hid (Below w1.heap.size w1 w6) := hid hx6; clear hb6 hx6)
      | (go_at_call 20; refine (HG2.out _ (Hid.out HB6)).mono ?_; rintro e w7 ⟨rfl, hb7⟩; obtain ⟨f70, f71, hx7⟩ := HC.out _ _ (Hid.out HB6) hb7; have HB7 : Hid (Below w1.heap.size w1 w7) := hid hx7; clear hb7 hx7))
  all_goals
    go_wp2
    go_ret
    exact ⟨rfl, HB1.out.trans ((Hid.out HB7).mono (by omega))⟩
end Go.Proofs.YtedjmhiocmefiaaDoor
