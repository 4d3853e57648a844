/-
  What bytes answers: the eight words' 32 bytes, the high ones first, in new memory.
-/
import Derived.Test.YtedjmhiocmefiaaDoorShaMix
import Derived.Test.YtedjmhiocmefiaaDoorShaDig
namespace Go.Proofs.YtedjmhiocmefiaaDoor
open Go.RowKit
theorem info_u8 : (Tryd.prog.info? 5).map (fun i => (i.zero, i.size, i.bytes)) = some (some (.int .u8 0), 1, 1) := by kernel_rfl
theorem u_byte24 (x : BitVec 32) : IntKind.u8.wrap (u x / (16777216 : Int)) = b8 ((x >>> 24).setWidth 8) := by
  have h : u x / (16777216 : Int) = u (x >>> 24) := u_shr x 24
  rw [h, IntKind.wrap_u8']; unfold u b8; simp
theorem u_byte16 (x : BitVec 32) : IntKind.u8.wrap (u x / (65536 : Int)) = b8 ((x >>> 16).setWidth 8) := by
  have h : u x / (65536 : Int) = u (x >>> 16) := u_shr x 16
  rw [h, IntKind.wrap_u8']; unfold u b8; simp
theorem u_byte8 (x : BitVec 32) : IntKind.u8.wrap (u x / (256 : Int)) = b8 ((x >>> 8).setWidth 8) := by
  have h : u x / (256 : Int) = u (x >>> 8) := u_shr x 8
  rw [h, IntKind.wrap_u8']; unfold u b8; simp
theorem u_byte0 (x : BitVec 32) : IntKind.u8.wrap (u x) = b8 (x.setWidth 8) := by
  rw [IntKind.wrap_u8']; unfold u b8; simp
def bytesTo (s : Oct) (k : Nat) : List (BitVec 8) := (s.list.take k).flatMap wordBytes
theorem bytesTo_succ (s : Oct) : ∀ k, k < 8 → bytesTo s (k + 1) = bytesTo s k ++ wordBytes (s.list.getD k 0)
  | 0, _ => rfl | 1, _ => rfl | 2, _ => rfl | 3, _ => rfl | 4, _ => rfl | 5, _ => rfl | 6, _ => rfl | 7, _ => rfl
attribute [local go_sem] u_byte24 u_byte16 u_byte8 u_byte0
set_option maxRecDepth 100000 in
set_option maxHeartbeats 1000000 in
theorem bytes_any (s : Oct) (tl : List Value) (B : Nat) (w : World) (hB : Row w B 44 (s.list.map U ++ tl)) :
    Calls Tryd.prog 44 #[.pointer (some ⟨B, 0, none⟩)] w fun e w' =>
      ∃ v, e = .returned v ∧ w'.ownsRow w.heap.size 5 1 v 32 ((s.list.flatMap wordBytes).map V) ∧ Below w.heap.size w w' := by
  obtain ⟨i0, hi0, hz0, hz1, hz2⟩ := info_parts info_u8
  have hmk : ∀ w : World, (Instr.makeSlice 22 (.int .i64 0) (.int .i64 32)).run Tryd.prog w = .ok (.slice (some ⟨w.heap.size, 0, none⟩) 0 32) (w.alloc (.cells (List.replicate 32 (Value.int .u8 0)).toArray 5)) := fun _ => by kernel_rfl
  have hlt : B < w.heap.size := hB.lt
  have c0 : w.cell? ⟨B, 0, none⟩ = some (.int .u32 (u s.a)) := hB.cell 0
  have c1 : w.cell? ⟨B, 1, none⟩ = some (.int .u32 (u s.b)) := hB.cell 1
  have c2 : w.cell? ⟨B, 2, none⟩ = some (.int .u32 (u s.c)) := hB.cell 2
  have c3 : w.cell? ⟨B, 3, none⟩ = some (.int .u32 (u s.d)) := hB.cell 3
  have c4 : w.cell? ⟨B, 4, none⟩ = some (.int .u32 (u s.e)) := hB.cell 4
  have c5 : w.cell? ⟨B, 5, none⟩ = some (.int .u32 (u s.f)) := hB.cell 5
  have c6 : w.cell? ⟨B, 6, none⟩ = some (.int .u32 (u s.g)) := hB.cell 6
  have c7 : w.cell? ⟨B, 7, none⟩ = some (.int .u32 (u s.h)) := hB.cell 7
  clear hB
  go_enter Tryd.func44, Tryd.ntmps44
  go_wp2_with fail
  clear c0 c1 c2 c3 c4 c5 c6 c7 hmk
  go_loopw [3, 11] (fun v i wr => ∃ k : Nat, k ≤ 8 ∧ i = .int .i64 k ∧ wr.ownsRow w.heap.size 5 1 v (4 * k) ((bytesTo s k).map V) ∧ Below w.heap.size w wr) (fun _ i _ => 8 - (intOf i).toNat)
  case atStart =>
    exact ⟨0, by omega, rfl, World.ownsRow_made w (List.replicate 32 (Value.int .u8 0)).toArray 32 (Nat.le_refl _) (by decide) (by simp), (Below.refl _ _).alloc (Nat.le_refl _) _⟩
  case round =>
    obtain ⟨k, hk, rfl, hown, hbe⟩ := hrel
    by_cases hlt8 : k < 8
    · have hix := oct_index s k hlt8
      have hlt' : (k : Int) < 8 := by omega
      have hsucc := bytesTo_succ s k hlt8
      obtain ⟨x, hx⟩ : ∃ x, s.list.getD k 0 = x := ⟨_, rfl⟩
      rw [hx] at hix hsucc
      have HS := hid hsucc
      have HO := hid hown
      have HB := hid hbe
      have hsz := hbe.size
      clear hsucc hx hown hbe
      go_wp2_with (at_builtin; refine wpList_append_own _ rfl (.tmp 14) (.tmp 26) 22 rfl w.heap.size 5 i0 (.int .u8 0) 1 1 Tryd.underlying22 hi0 hz0 hz1 hz2 rfl (by decide) _ _ _ rfl (HO.out.alloc _) ⟨wr.heap.size, 0, none⟩ 4 4 ((wordBytes x).map V) rfl rfl (cells_new _ _ _) (by simp [wordBytes, V, Value.oneCell']) (by unfold maxLen; omega) (by omega) (by simp; omega) ?_; intro v' w1 hown' hgrow hnil)
      go_roundw
      case rel =>
        refine ⟨k + 1, by omega, by go_num, ?_, ?_⟩
        · rw [HS.out, List.map_append]; exact hown'
        · exact (HB.out.alloc hsz _).grown hgrow (by simp; omega) (fun j hj => (HO.out.lt j hj).1)
      case measure => simp [intOf]; omega
    · have hk8 : k = 8 := by omega
      subst hk8
      have HO := hid hown
      have HB := hid hbe
      clear hown hbe
      go_wp2
      go_ret
      exact ⟨_, rfl, HO.out, HB.out⟩
end Go.Proofs.YtedjmhiocmefiaaDoor
