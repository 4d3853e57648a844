/-
  alive answers true: the digest of abc is the known one.
-/
import Derived.Test.YtcedgmnpapbkgaaDoorShaSum
import Derived.Test.YtcedgmnpapbkgaaDoorShaSame
import Derived.Test.YtcedgmnpapbkgaaDoorShaHex
import Derived.Lib.SlBytesConst
namespace Go.Proofs.YtcedgmnpapbkgaaDoor
open Go.RowKit

/-- what a call owns reads as bytes -/
theorem ownsRow_bytes {w : World} {base n : Nat} {v : Value} {l : List (BitVec 8)} (h : w.ownsRow base 5 1 v n (l.map V)) : Bytes w w.heap.size v l := by
  obtain ⟨h1, h2⟩ := h
  have hl : l.length = n := by simpa using h1
  subst hl
  rcases h2 with ⟨rfl, h3⟩ | ⟨g, cap, cur, rfl, _, hg, hn, _, hc, hx⟩
  · exact .inl ⟨rfl, List.length_eq_zero_iff.1 h3⟩
  · refine .inr (.inr ⟨g, 0, cap, rfl, hn, fun i hi => ⟨(Array.getElem?_eq_some_iff.1 hg).1, ?_⟩⟩)
    rw [Nat.zero_add, cell_of_row w g i cur _ _ hg]
    have h4 : (cur.toList.take (l.length * 1))[i]? = (l.map V)[i]? := by rw [hx]
    rw [Nat.mul_one, List.getElem?_take, if_pos hi] at h4
    rw [← Array.getElem?_toList, h4, List.getElem?_map, getD_some l i 0 hi]
    rfl
/-- the known digest of abc, in digits -/
def abcHex : List (BitVec 8) := [98, 97, 55, 56, 49, 54, 98, 102, 56, 102, 48, 49, 99, 102, 101, 97, 52, 49, 52, 49, 52, 48, 100, 101, 53, 100, 97, 101, 50, 50, 50, 51, 98, 48, 48, 51, 54, 49, 97, 51, 57, 54, 49, 55, 55, 97, 57, 99, 98, 52, 49, 48, 102, 102, 54, 49, 102, 50, 48, 48, 49, 53, 97, 100]
def abcStr : ByteArray := ⟨#[98, 97, 55, 56, 49, 54, 98, 102, 56, 102, 48, 49, 99, 102, 101, 97, 52, 49, 52, 49, 52, 48, 100, 101, 53, 100, 97, 101, 50, 50, 50, 51, 98, 48, 48, 51, 54, 49, 97, 51, 57, 54, 49, 55, 55, 97, 57, 99, 98, 52, 49, 48, 102, 102, 54, 49, 102, 50, 48, 48, 49, 53, 97, 100]⟩
theorem abcStr_letters : letters abcStr = abcHex := by decide +kernel
theorem abcStr_size : abcStr.size = 64 := by decide +kernel
theorem abc_known : sha [97, 98, 99] = hexTo abcHex 32 := by decide +kernel

set_option maxRecDepth 100000 in
set_option maxHeartbeats 1000000 in
theorem alive_any (w : World) (hK : tableAt w) : Calls Tryd.prog 10 #[] w fun e w' => e = .returned (.bool true) ∧ Below w.heap.size w w' := by
  have HK := hid hK
  clear hK
  have hcv : ∀ (w : World) (C : Array Value) (n c : Nat), (convert 22 22 (.slice (some ⟨w.heap.size, 0, none⟩) n c)).run Tryd.prog (w.alloc (.cells C 5)) = .ok (.slice (some ⟨w.heap.size, 0, none⟩) n c) (w.alloc (.cells C 5 (C.size, C.size + 1))) :=
    fun w C n c => Lib.run_convert_bytes_const w 22 5 C n c Tryd.underlying22 Tryd.underlying5
  go_enter Tryd.func10, Tryd.ntmps10
  go_wp2_with fail
  obtain ⟨w1, hw1⟩ : ∃ w1, w.alloc (.cells #[Value.int .u8 97, .int .u8 98, .int .u8 99] 5 (3, 4)) = w1 := ⟨_, rfl⟩
  have hsz1 : w1.heap.size = w.heap.size + 1 := by rw [← hw1]; simp
  have hb1 : Below w.heap.size w w1 := by rw [← hw1]; exact (Below.refl _ _).alloc (Nat.le_refl _) _
  have hby : Bytes w1 w1.heap.size (.slice (some ⟨w.heap.size, 0, none⟩) 3 3) [97, 98, 99] := by
    refine .inr (.inr ⟨w.heap.size, 0, 3, rfl, by simp, fun i hi => ⟨by omega, ?_⟩⟩)
    have hg : w1.heap[w.heap.size]? = some (.cells #[Value.int .u8 97, .int .u8 98, .int .u8 99] 5 (3, 4)) := by rw [← hw1]; exact heap_alloc_new _ _
    rw [cell_of_row _ _ _ _ _ _ hg]
    simp at hi
    obtain rfl | rfl | rfl : i = 0 ∨ i = 1 ∨ i = 2 := by omega
    · rfl
    · rfl
    · rfl
  have hsum := sum_any [97, 98, 99] _ w1.heap.size w1 (Nat.le_refl _) hby (HK.out.below hb1 HK.out.lt) (by simp)
  have HSUM := hid hsum
  have HB1 := hid hb1
  clear hsum hby hb1 hcv
  rw [hw1]
  clear hw1
  refine HSUM.out.mono ?_
  rintro e w2 ⟨v, rfl, hown, hbel⟩
  have HOWN := hid hown
  have HB2 := hid hbel
  have hsz2 := hbel.size
  clear hown hbel
  go_wp2_with fail
  refine (hex_any abcStr _ (by rw [abcStr_size]; omega)).mono ?_
  rintro e w3 ⟨v2, rfl, hown2, hb3⟩
  rw [abcStr_letters, abcStr_size, ← abc_known] at hown2
  have hb1' := ownsRow_bytes (HOWN.out.kept (grown_below (r := none) hb3) (by cases hv : v.ownBlock <;> simp))
  have hb2' := ownsRow_bytes hown2
  have hsame := same_any (sha [97, 98, 99]) v v2 _ _ w3 hb1' hb2' (by rw [sha_length]; omega)
  have HSAME := hid hsame
  have hsz3 := hb3.size
  have HB3 := hid hb3
  clear hsame hb1' hb2' hown2 hb3
  go_wp2_with fail
  refine HSAME.out.mono ?_
  rintro e w4 ⟨rfl, n4, rfl⟩
  go_wp2
  go_ret
  refine ⟨rfl, HB1.out.trans ((HB2.out.mono (by omega)).trans ((HB3.out.mono (by omega)).trans ⟨rfl, rfl, rfl, Nat.le_refl _, fun _ _ => rfl⟩))⟩
end Go.Proofs.YtcedgmnpapbkgaaDoor
