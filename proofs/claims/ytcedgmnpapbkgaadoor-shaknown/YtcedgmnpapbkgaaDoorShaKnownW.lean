/-
  ShaKnown answers true, and turns nothing that was there.
-/
import Derived.Test.YtcedgmnpapbkgaaDoorShaAlive
import Derived.Deep.RegionWith
import Derived.BigRegion
namespace Go.Proofs.YtcedgmnpapbkgaaDoor
open Go.RowKit

/-- the texts and their digests, as the law spells them -/
def knownL : List ByteArray := [
  ⟨#[]⟩, ⟨#[101, 51, 98, 48, 99, 52, 52, 50, 57, 56, 102, 99, 49, 99, 49, 52, 57, 97, 102, 98, 102, 52, 99, 56, 57, 57, 54, 102, 98, 57, 50, 52, 50, 55, 97, 101, 52, 49, 101, 52, 54, 52, 57, 98, 57, 51, 52, 99, 97, 52, 57, 53, 57, 57, 49, 98, 55, 56, 53, 50, 98, 56, 53, 53]⟩,
  ⟨#[97, 98, 99]⟩, ⟨#[98, 97, 55, 56, 49, 54, 98, 102, 56, 102, 48, 49, 99, 102, 101, 97, 52, 49, 52, 49, 52, 48, 100, 101, 53, 100, 97, 101, 50, 50, 50, 51, 98, 48, 48, 51, 54, 49, 97, 51, 57, 54, 49, 55, 55, 97, 57, 99, 98, 52, 49, 48, 102, 102, 54, 49, 102, 50, 48, 48, 49, 53, 97, 100]⟩,
  ⟨#[97, 98, 99, 100, 98, 99, 100, 101, 99, 100, 101, 102, 100, 101, 102, 103, 101, 102, 103, 104, 102, 103, 104, 105, 103, 104, 105, 106, 104, 105, 106, 107, 105, 106, 107, 108, 106, 107, 108, 109, 107, 108, 109, 110, 108, 109, 110, 111, 109, 110, 111, 112, 110, 111, 112, 113]⟩, ⟨#[50, 52, 56, 100, 54, 97, 54, 49, 100, 50, 48, 54, 51, 56, 98, 56, 101, 53, 99, 48, 50, 54, 57, 51, 48, 99, 51, 101, 54, 48, 51, 57, 97, 51, 51, 99, 101, 52, 53, 57, 54, 52, 102, 102, 50, 49, 54, 55, 102, 54, 101, 99, 101, 100, 100, 52, 49, 57, 100, 98, 48, 54, 99, 49]⟩,
  ⟨#[97, 98, 99, 100, 101, 102, 103, 104, 98, 99, 100, 101, 102, 103, 104, 105, 99, 100, 101, 102, 103, 104, 105, 106, 100, 101, 102, 103, 104, 105, 106, 107, 101, 102, 103, 104, 105, 106, 107, 108, 102, 103, 104, 105, 106, 107, 108, 109, 103, 104, 105, 106, 107, 108, 109, 110, 104, 105, 106, 107, 108, 109, 110, 111, 105, 106, 107, 108, 109, 110, 111, 112, 106, 107, 108, 109, 110, 111, 112, 113, 107, 108, 109, 110, 111, 112, 113, 114, 108, 109, 110, 111, 112, 113, 114, 115, 109, 110, 111, 112, 113, 114, 115, 116, 110, 111, 112, 113, 114, 115, 116, 117]⟩, ⟨#[99, 102, 53, 98, 49, 54, 97, 55, 55, 56, 97, 102, 56, 51, 56, 48, 48, 51, 54, 99, 101, 53, 57, 101, 55, 98, 48, 52, 57, 50, 51, 55, 48, 98, 50, 52, 57, 98, 49, 49, 101, 56, 102, 48, 55, 97, 53, 49, 97, 102, 97, 99, 52, 53, 48, 51, 55, 97, 102, 101, 101, 57, 100, 49]⟩]
def nthK (j : Nat) : ByteArray := knownL.getD j ⟨#[]⟩
theorem known_facts : ∀ k, k < 4 → sha (letters (nthK (2 * k))) = hexTo (letters (nthK (2 * k + 1))) 32 := by decide +kernel
theorem known_sizes : ∀ k, k < 4 → (nthK (2 * k)).size < 200 ∧ (nthK (2 * k + 1)).size = 64 := by decide +kernel

theorem letters_length (s : ByteArray) : (letters s).length = s.size := by simp [letters]
theorem bytesWorld_bytes (w : World) (s : ByteArray) (cap : Nat) (hc : s.size ≤ cap) : Bytes (Lib.bytesWorld w 5 s) (w.heap.size + 1) (.slice (some ⟨w.heap.size, 0, none⟩) s.size cap) (letters s) := by
  refine .inr (.inr ⟨w.heap.size, 0, cap, by rw [letters_length], by rw [letters_length]; exact hc, fun i hi => ⟨by omega, ?_⟩⟩)
  rw [letters_length] at hi
  rw [Nat.zero_add, Lib.bytesWorld_cell _ _ _ _ hi]
  congr 2
  unfold b8 letters
  simp
theorem bytesWorld_below (w : World) (s : ByteArray) : Below w.heap.size w (Lib.bytesWorld w 5 s) :=
  ⟨rfl, rfl, rfl, by rw [Lib.bytesWorld_size]; omega, fun j hj => Lib.bytesWorld_at_old _ _ _ _ hj⟩
theorem sum_text (w : World) (s : ByteArray) (n c : Nat) (hn : n = w.heap.size) (hc : s.size ≤ c) (hK : tableAt w) (hs : s.size < 200) :
    Calls Tryd.prog 8 #[.slice (some ⟨n, 0, none⟩) s.size c] (Lib.bytesWorld w 5 s) fun e w' =>
      ∃ v, e = .returned v ∧ w'.ownsRow w.heap.size 5 1 v 32 ((sha (letters s)).map V) ∧ Below w.heap.size w w' := by
  subst hn
  have hb := bytesWorld_below w s
  have hsz := Lib.bytesWorld_size w 5 s
  refine (sum_any (letters s) _ (w.heap.size + 1) _ (by omega) (bytesWorld_bytes w s _ hc) (hK.below hb hK.lt) (by rw [letters_length]; omega)).mono ?_
  rintro e w' ⟨v, rfl, h1, h2⟩
  exact ⟨v, rfl, ownsRow_mono h1 (by omega), hb.trans (h2.mono (by omega))⟩
theorem hex_text (s : ByteArray) (w : World) (hs : s.size = 64) : Calls Tryd.prog 12 #[.string s] w fun e w' =>
      ∃ v, e = .returned v ∧ w'.ownsRow w.heap.size 5 1 v 32 ((hexTo (letters s) 32).map V) ∧ Below w.heap.size w w' := by
  refine (hex_any s w (by omega)).mono ?_
  rintro e w' ⟨v, rfl, h1, h2⟩
  rw [hs] at h1
  exact ⟨v, rfl, h1, h2⟩
theorem same_owned (l : List (BitVec 8)) (v v' : Value) (b b' : Nat) (w w' : World) (hw : Below w.heap.size w w') (h : w.ownsRow b 5 1 v 32 (l.map V)) (h' : w'.ownsRow b' 5 1 v' 32 (l.map V)) (hl : l.length = 32) :
    Calls Tryd.prog 7 #[v, v'] w' fun e w2 => e = .returned (.bool true) ∧ ∃ n, w2 = w'.drewN n :=
  same_any l v v' _ _ w' (ownsRow_bytes (h.kept (grown_below (r := none) hw) (by cases hv : v.ownBlock <;> simp))) (ownsRow_bytes h') (by omega)

set_option maxRecDepth 100000 in
set_option maxHeartbeats 1000000 in
theorem known_any (w : World) (hK : tableAt w) : Calls Tryd.prog 5 #[] w fun e w' => e = .returned (.bool true) ∧ Below w.heap.size w w' := by
  have HK := hid hK
  clear hK
  go_enter Tryd.func5, Tryd.ntmps5
  go_wp2_with fail
  go_loopw [9] (fun i wr => ∃ k : Nat, k ≤ 4 ∧ i = .int .i64 k ∧ Row wr w.heap.size 30 (knownL.map Value.string) ∧ Below w.heap.size w wr) (fun i _ => 4 - (intOf i).toNat)
  case atStart => exact ⟨0, by omega, rfl, Row.newAt _ _ _ _ rfl, (Below.refl _ _).alloc (Nat.le_refl _) _⟩
  case round =>
    obtain ⟨k, hk, rfl, hrow, hbel⟩ := hrel
    by_cases hlt : k < 4
    · have c0 : wr.cell? ⟨w.heap.size, k * 2, none⟩ = some (.string (nthK (2 * k))) := by
        rw [hrow.cell, List.getElem?_map, getD_some knownL (k * 2) ⟨#[]⟩ (by show k * 2 < 8; omega), Nat.mul_comm]; rfl
      have c1 : wr.cell? ⟨w.heap.size, k * 2 + 1, none⟩ = some (.string (nthK (2 * k + 1))) := by
        rw [hrow.cell, List.getElem?_map, getD_some knownL (k * 2 + 1) ⟨#[]⟩ (by show k * 2 + 1 < 8; omega), Nat.mul_comm]; rfl
      have hf := known_facts k hlt
      have hz := known_sizes k hlt
      generalize nthK (2 * k) = a at *
      generalize nthK (2 * k + 1) = b at *
      have hlt' : (k : Int) < 4 := by omega
      have HR := hid hrow
      have HB := hid hbel
      have HF := hid hf
      have HZ := hid hz
      have hszr := hbel.size
      clear hrow hbel hf hz
      have hconv : ∀ (w : World) (x : ByteArray), (convert 9 22 (.string x)).run Tryd.prog w = .ok (.slice (some ⟨w.heap.size, 0, none⟩) x.size (grownCap w x.size 0 5)) (Lib.bytesWorld w 5 x) :=
        fun w x => Lib.run_convert_string_bytes w 9 22 5 x Tryd.underlying9 Tryd.underlying22 Tryd.underlying5
      go_wp2_with fail
      obtain ⟨w2, hw2⟩ : ∃ w2, wr.alloc (.cells #[.string a, .string b] 30) = w2 := ⟨_, rfl⟩
      rw [hw2]
      have hsz2 : w2.heap.size = wr.heap.size + 1 := by rw [← hw2]; simp
      have hb2 : Below wr.heap.size wr w2 := by rw [← hw2]; exact (Below.refl _ _).alloc (Nat.le_refl _) _
      have hg2 : w2.heap[wr.heap.size]? = some (.cells #[.string a, .string b] 30 (0, 0)) := by rw [← hw2]; exact heap_alloc_new _ _
      have e0 : w2.cell? ⟨wr.heap.size, 0, none⟩ = some (.string a) := by rw [cell_of_row _ _ _ _ _ _ hg2]; rfl
      have e1 : w2.cell? ⟨wr.heap.size, 1, none⟩ = some (.string b) := by rw [cell_of_row _ _ _ _ _ _ hg2]; rfl
      generalize hX : wr.heap.size = X at *
      have HG2 := hid hg2
      have HB2 := hid hb2
      clear hw2 hg2 hb2 c0 c1
      have hbw : (Lib.bytesWorld w2.drew 5 a).cell? ⟨X, 1, none⟩ = some (.string b) := ((bytesWorld_below w2.drew a).cell (by show X < w2.heap.size; omega)).trans e1
      have HT2 := hid (show tableAt w2.drew from HK.out.below (HB.out.trans (HB2.out.mono (by omega)).drew) HK.out.lt)
      have hq : X + 1 = w2.drew.heap.size := by show _ = w2.heap.size; omega
      have HQ := hid hq
      have HSL := hid (sha_length (letters a))
      clear hq
      go_region_with (first
        | (go_at_call 8; refine (sum_text w2.drew a _ _ (by first | exact HQ.out | rfl) (grownCap_ge _ _ _ _) HT2.out HZ.out.1).mono ?_; rintro e w5 ⟨v5, rfl, hown5, hb5⟩; have f5 := (hb5.cell (p := ⟨X, 1, none⟩) (by show X < w2.heap.size; omega)).trans e1; have HO5 := hid hown5; have HB5 := hid hb5; clear hown5 hb5)
        | (go_at_call 12; refine (hex_text b _ HZ.out.2).mono ?_; rintro e w6 ⟨v6, rfl, hown6, hb6⟩; have HO6 := hid hown6; have HB6 := hid hb6; clear hown6 hb6)
        | (go_at_call 7; refine (same_owned (sha (letters a)) _ _ _ _ _ _ HB6.out HO5.out (by rw [HF.out]; exact HO6.out) HSL.out).mono ?_; rintro e w7 ⟨rfl, n7, rfl⟩))
      all_goals
        go_wp2
        go_roundw
        case rel =>
          have hs5 := HB5.out.size
          have hX := HR.out.lt
          have hsd : w2.drew.heap.size = w2.heap.size := rfl
          have hall : Below X wr w6 := (HB2.out.trans (Below.refl _ _).drew).trans ((HB5.out.mono (by omega)).trans (HB6.out.mono (by omega)))
          exact ⟨k + 1, by omega, by go_num, Row.drewN (HR.out.below hall (by omega)) _, HB.out.trans ((hall.mono (by omega)).trans ⟨rfl, rfl, rfl, Nat.le_refl _, fun _ _ => rfl⟩)⟩
        case measure => simp [intOf]; omega
    · have HB := hid hbel
      clear hrow hbel
      go_wp2
      go_ret
      exact ⟨rfl, HB.out⟩
end Go.Proofs.YtcedgmnpapbkgaaDoor
