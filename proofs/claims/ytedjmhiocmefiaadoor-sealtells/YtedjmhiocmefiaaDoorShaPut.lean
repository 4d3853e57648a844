/-
  What putSize does: how many bits there were, in the rest's last eight bytes.
-/
import Derived.Test.YtedjmhiocmefiaaDoorProg
import Derived.Test.YtedjmhiocmefiaaDoorShaDig
import Derived.WalkLawsBesides
import Derived.WalkSpells
namespace Go.Proofs.YtedjmhiocmefiaaDoor
open Go.RowKit
set_option maxRecDepth 100000 in
set_option maxHeartbeats 1000000 in
theorem putSize_any (s : Oct) (R : List (BitVec 8)) (h z B : Nat) (hR : R.length = 64) (hz : z < 2305843009213693952) (w : World) (hB : Row w B 44 (dig s R h z)) :
    Calls Tryd.prog 43 #[.pointer (some ⟨B, 0, none⟩)] w fun e w' =>
      e = .returned (.tuple #[]) ∧ w.grownBy w' (some B) ∧ Row w' B 44 (dig s (R.take 56 ++ be8 (8 * z)) h z) := by
  have cz : w.cell? ⟨B, 73, none⟩ = some (.int .u64 (z : Int)) := (hB.cell 73).trans (dig_size s R h z hR)
  have hz' : (z : Int) < 2305843009213693952 := by omega
  have hz0 : (0 : Int) ≤ (z : Int) := by omega
  have hwz : IntKind.u64.wrap ((z : Int) * 8) = ((8 * z : Nat) : Int) := by
    simp [IntKind.wrap, IntKind.bits, IntKind.signed]; omega
  have HR := hid hR
  have HB := hid hB
  clear hB hR hz hz' hz0
  go_enter Tryd.func43, Tryd.ntmps43
  go_wp2_with fail
  go_loopw [2, 3] (fun v i wr => ∃ m bc : Nat, m ≤ 8 ∧ i = .int .i64 ((m : Int) + 55) ∧ v = .int .u64 (bc : Int) ∧ Hid (bc = 8 * z / 2 ^ (8 * (8 - m))) ∧ Row wr B 44 (dig s (sizeTo R (8 * z) m) h z) ∧ w.grownBy wr (some B))
    (fun _ i _ => (intOf i).toNat)
  case atStart =>
    refine ⟨8, 8 * z, by omega, by go_num, by go_num, by show _ = _; simp, ?_, ⟨rfl, rfl, rfl, Nat.le_refl _, fun _ _ _ => rfl⟩⟩
    rw [sizeTo_full _ _ HR.out]; exact HB.out
  case round =>
    clear cz hwz
    obtain ⟨m, bc, hm, rfl, rfl, HC, hrow, hgr⟩ := hrel
    cases m with
    | zero =>
      have HROW := hid hrow
      have HGR := hid hgr
      clear hrow hgr
      go_wp2
      go_end0
      refine ⟨rfl, HGR.out, ?_⟩
      exact HROW.out
    | succ m =>
      have hl := sizeTo_length R (8 * z) (m + 1) HR.out hm
      have hfz : wr.frozen? ⟨B, 8 + (m + 56), none⟩ = false := hrow.frozen _
      obtain ⟨v0, hv0⟩ : ∃ v0, wr.cell? ⟨B, 8 + (m + 56), none⟩ = some v0 := ⟨_, (hrow.cell _).trans (dig_at _ _ _ _ _ (by omega))⟩
      have e1 : (((m + 1 : Nat) : Int) + 55).toNat = m + 56 := by omega
      have e2 : ((m : Int) + 1 + 55).toNat = m + 56 := by omega
      have hb : IntKind.u8.wrap (bc : Int) = b8 (BitVec.ofNat 8 bc) := wrap_u8_byte bc
      have hb' : (bc : Int) % 256 = b8 (BitVec.ofNat 8 bc) := by rw [← hb, IntKind.wrap_u8']
      have hm' : (m : Int) < 8 := by omega
      have HL := hid hl
      have HROW := hid hrow
      have HGR := hid hgr
      clear hrow hgr hl
      go_wp2
      go_roundw
      case rel =>
        have hbc : bc = 8 * z / 2 ^ (8 * (7 - m)) := by rw [HC.out]; congr 3; omega
        refine ⟨m, bc / 256, by omega, by congr 1; omega, by congr 1, ?_, ?_, ?_⟩
        · show _ = _
          rw [hbc, Nat.div_div_eq_div_mul, show (256 : Nat) = 2 ^ 8 from rfl, ← Nat.pow_add, show 8 * (7 - m) + 8 = 8 * (8 - m) by omega]
        · have hs := HROW.out.set (8 + (m + 56)) (V (BitVec.ofNat 8 bc))
          rw [dig_set _ _ _ _ _ (by rw [HL.out]; omega), hbc, sizeTo_set _ _ _ HR.out (by omega)] at hs
          rw [hbc]
          exact hs
        · exact grown_trans HGR.out (grown_set _ _ _ _)
      case measure => simp [intOf]; omega
end Go.Proofs.YtedjmhiocmefiaaDoor
