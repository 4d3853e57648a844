/-
  What hex answers of a string of digits: the bytes that they spell, in new memory.
-/
import Derived.Test.YtcedgmnpapbkgaaDoorShaBytes
import Derived.Test.YtcedgmnpapbkgaaDoorShaTake
import Derived.Lib.ConvBytes
import Derived.Lib.Strings
namespace Go.Proofs.YtcedgmnpapbkgaaDoor
open Go.RowKit

def hexStep (n c : BitVec 8) : BitVec 8 := if 97 ≤ c.toNat then 16 * n + c - 97 + 10 else 16 * n + c - 48
def hexAt (t : List (BitVec 8)) (k : Nat) : BitVec 8 := hexStep (hexStep 0 (t.getD (2 * k) 0)) (t.getD (2 * k + 1) 0)
def hexTo (t : List (BitVec 8)) (k : Nat) : List (BitVec 8) := (List.range k).map (hexAt t)
theorem hexTo_succ (t : List (BitVec 8)) (k : Nat) : hexTo t (k + 1) = hexTo t k ++ [hexAt t k] := by
  simp [hexTo, List.range_succ]
/-- a string's letters -/
def letters (s : ByteArray) : List (BitVec 8) := s.data.toList.map UInt8.toBitVec

theorem wrap_nat8 (n : Nat) : IntKind.u8.wrap (n : Int) = ((n % 256 : Nat) : Int) := by
  rw [IntKind.wrap_u8']; omega
theorem b8_add (x y : BitVec 8) : IntKind.u8.wrap (b8 x + b8 y) = b8 (x + y) := by
  unfold b8; rw [← Int.natCast_add, wrap_nat8]; rfl
theorem b8_mul16 (x : BitVec 8) : IntKind.u8.wrap ((16 : Int) * b8 x) = b8 (16 * x) := by
  unfold b8
  have : (16 : Int) * (x.toNat : Int) = ((16 * x.toNat : Nat) : Int) := by simp
  rw [this, wrap_nat8]
  simp
theorem b8_add10 (x : BitVec 8) : IntKind.u8.wrap (b8 x + (10 : Int)) = b8 (x + 10) := b8_add x 10
theorem b8_sub97 (x : BitVec 8) : IntKind.u8.wrap (b8 x - (97 : Int)) = b8 (x - 97) := by
  rw [IntKind.wrap_u8']; unfold b8
  have := x.isLt
  simp; omega
theorem b8_sub48 (x : BitVec 8) : IntKind.u8.wrap (b8 x - (48 : Int)) = b8 (x - 48) := by
  rw [IntKind.wrap_u8']; unfold b8
  have := x.isLt
  simp; omega
theorem extract_letter (s : ByteArray) (a b j : Nat) (hj : a + j < b) : (((s.extract a b).data.toList.getD j 0).toNat : Int) = b8 ((letters s).getD (a + j) 0) := by
  have h1 : (s.extract a b).data.toList.getD j 0 = s.data.toList.getD (a + j) 0 := by
    rw [Lib.extract_data]
    have hl2 : j < b - a := by omega
    simp [hl2]
  rw [h1]
  unfold b8 letters
  simp
theorem hexStep_hi (n c : BitVec 8) (h : (97 : Int) ≤ b8 c) : hexStep n c = 16 * n + c - 97 + 10 := by
  unfold b8 at h; unfold hexStep; rw [if_pos (by omega)]
theorem hexStep_lo (n c : BitVec 8) (h : ¬ (97 : Int) ≤ b8 c) : hexStep n c = 16 * n + c - 48 := by
  unfold b8 at h; unfold hexStep; rw [if_neg (by omega)]
def hexN (c0 c1 : BitVec 8) (j : Nat) : BitVec 8 := if j = 0 then 0 else if j = 1 then hexStep 0 c0 else hexStep (hexStep 0 c0) c1
theorem hexN_succ (c0 c1 : BitVec 8) : ∀ j, j < 2 → hexN c0 c1 (j + 1) = hexStep (hexN c0 c1 j) (if j = 0 then c0 else c1)
  | 0, _ => rfl | 1, _ => rfl
attribute [local go_sem] b8_add b8_mul16 b8_add10 b8_sub97 b8_sub48

set_option maxRecDepth 100000 in
set_option maxHeartbeats 1000000 in
theorem hex_any (s : ByteArray) (w : World) (hs : s.size < 1073741824) :
    Calls Tryd.prog 12 #[.string s] w fun e w' =>
      ∃ v, e = .returned v ∧ w'.ownsRow w.heap.size 5 1 v (s.size / 2) ((hexTo (letters s) (s.size / 2)).map V) ∧ Below w.heap.size w w' := by
  obtain ⟨i0, hi0, hz0, hz1, hz2⟩ := info_parts info_u8
  have hconv : ∀ (w : World) (x : ByteArray), (convert 9 22 (.string x)).run Tryd.prog w = .ok (.slice (some ⟨w.heap.size, 0, none⟩) x.size (grownCap w x.size 0 5)) (Lib.bytesWorld w 5 x) :=
    fun w x => Lib.run_convert_string_bytes w 9 22 5 x Tryd.underlying9 Tryd.underlying22 Tryd.underlying5
  go_enter Tryd.func12, Tryd.ntmps12
  go_wp2_with fail
  go_loopw [3, 4] (fun v i wr => ∃ k : Nat, 2 * k ≤ s.size ∧ i = .int .i64 (2 * (k : Int)) ∧ wr.ownsRow w.heap.size 5 1 v k ((hexTo (letters s) k).map V) ∧ Below w.heap.size w wr) (fun _ i _ => s.size - (intOf i).toNat)
  case atStart => exact ⟨0, by omega, rfl, World.ownsRow_nil _ _ _ _, Below.refl _ _⟩
  case round =>
    obtain ⟨k, hk, rfl, hown, hbe⟩ := hrel
    have HO := hid hown
    have HB := hid hbe
    have hszr := hbe.size
    clear hown hbe
    by_cases hlt : 2 * k + 1 < s.size
    · have hlt' : 2 * (k : Int) + 1 < (s.size : Int) := by omega
      have hlt2 : 2 * (k : Int) + 2 ≤ (s.size : Int) := by omega
      have hmin : min (2 * k + 2) s.size - 2 * k = 2 := by omega
      go_wp2_with fail
      obtain ⟨w1, hw1⟩ : ∃ w1, Lib.bytesWorld wr 5 (s.extract (2 * k) (2 * k + 2)) = w1 := ⟨_, rfl⟩
      rw [hw1]
      have hxs : (s.extract (2 * k) (2 * k + 2)).size = 2 := by rw [ByteArray.size_extract]; omega
      obtain ⟨c0, hc0⟩ : ∃ c0, (letters s).getD (2 * k + 0) 0 = c0 := ⟨_, rfl⟩
      obtain ⟨c1, hc1⟩ : ∃ c1, (letters s).getD (2 * k + 1) 0 = c1 := ⟨_, rfl⟩
      have d0 : w1.cell? ⟨wr.heap.size, 0, none⟩ = some (.int .u8 (b8 c0)) := by
        rw [← hw1, Lib.bytesWorld_cell _ _ _ 0 (by omega), extract_letter s _ _ 0 (by omega), hc0]
      have d1 : w1.cell? ⟨wr.heap.size, 1, none⟩ = some (.int .u8 (b8 c1)) := by
        rw [← hw1, Lib.bytesWorld_cell _ _ _ 1 (by omega), extract_letter s _ _ 1 (by omega), hc1]
      have hdj : ∀ j, j < 2 → w1.cell? ⟨wr.heap.size, j, none⟩ = some (.int .u8 (b8 (if j = 0 then c0 else c1))) := fun j hj => by
        obtain rfl | rfl : j = 0 ∨ j = 1 := by omega
        · exact d0
        · exact d1
      have hb1 : Below wr.heap.size wr w1 := by
        rw [← hw1]; exact ⟨rfl, rfl, rfl, by rw [Lib.bytesWorld_size]; omega, fun j hj => Lib.bytesWorld_at_old _ _ _ _ hj⟩
      have hat : hexTo (letters s) (k + 1) = hexTo (letters s) k ++ [hexN c0 c1 2] := by
        rw [hexTo_succ]
        congr 2
        unfold hexAt
        rw [← hc0, ← hc1]; rfl
      have HDJ := hid hdj
      have HB1 := hid hb1
      have HAT := hid hat
      have hsz1 := hb1.size
      clear hw1 hxs hc0 hc1 d0 d1 hdj hb1 hat hconv hmin
      go_loopw [5, 22] (fun nv iv w' => ∃ j : Nat, j ≤ 2 ∧ iv = .int .i64 j ∧ nv = .int .u8 (b8 (hexN c0 c1 j)) ∧ w1 = w') (fun _ iv _ => 2 - (intOf iv).toNat)
      case atStart => exact ⟨0, by omega, rfl, rfl, rfl⟩
      case round =>
        obtain ⟨j, hj, rfl, rfl, rfl⟩ := hrel
        by_cases hj2 : j < 2
        · have dj := HDJ.out j hj2
          have hst := hexN_succ c0 c1 j hj2
          obtain ⟨c, hc⟩ : ∃ c, (if j = 0 then c0 else c1) = c := ⟨_, rfl⟩
          obtain ⟨n, hn⟩ : ∃ n, hexN c0 c1 j = n := ⟨_, rfl⟩
          rw [hc] at dj hst
          rw [hn] at hst ⊢
          have hjl : (j : Int) < 2 := by omega
          have HST := hid hst
          clear hst hc hn
          by_cases h97 : (97 : Int) ≤ b8 c
          · have he := hid (hexStep_hi n c h97)
            go_wp2
            go_roundw
            case rel => exact ⟨j + 1, by omega, by go_num, by rw [HST.out, he.out]; rfl, by trivial⟩
            case measure => simp [intOf]; omega
          · have he := hid (hexStep_lo n c h97)
            go_wp2
            go_roundw
            case rel => exact ⟨j + 1, by omega, by go_num, by rw [HST.out, he.out]; rfl, by trivial⟩
            case measure => simp [intOf]; omega
        · have hj3 : j = 2 := by omega
          subst hj3
          obtain ⟨x, hx⟩ : ∃ x, hexN c0 c1 2 = x := ⟨_, rfl⟩
          rw [hx]
          have hown1 : w1.ownsRow w.heap.size 5 1 u3 k ((hexTo (letters s) k).map V) := HO.out.kept (grown_below (r := none) HB1.out) (by cases hv : u3.ownBlock <;> simp)
          have HO1 := hid hown1
          have HX := hid hx
          clear hown1 hx HDJ
          go_wp2_with (at_builtin; refine wpList_append_own _ rfl (.tmp 40) (.tmp 42) 22 rfl w.heap.size 5 i0 (.int .u8 0) 1 1 Tryd.underlying22 hi0 hz0 hz1 hz2 rfl (by decide) _ _ _ rfl (HO1.out.alloc _) ⟨w1.heap.size, 0, none⟩ 1 1 [V x] rfl rfl (cells_new _ _ _) (by simp [V, Value.oneCell']) (by unfold maxLen; omega) (by omega) (by simp; omega) ?_; intro v' w2 hown' hgrow hnil)
          go_roundw
          case rel =>
            refine ⟨k + 1, by omega, by go_num, ?_, ?_⟩
            · rw [HAT.out, List.map_append, HX.out]; exact hown'
            · exact ((HB.out.trans (HB1.out.mono hszr)).alloc (by omega) _).grown hgrow (by simp; omega) (fun q hq => (HO1.out.lt q hq).1)
          case measure => simp [intOf]; omega
    · have hlt' : ¬ (2 * (k : Int) + 1 < (s.size : Int)) := by omega
      have hks : s.size / 2 = k := by omega
      have HKS := hid hks
      clear hks
      go_wp2
      go_ret
      exact ⟨_, rfl, by rw [HKS.out]; exact HO.out, HB.out⟩
end Go.Proofs.YtcedgmnpapbkgaaDoor
