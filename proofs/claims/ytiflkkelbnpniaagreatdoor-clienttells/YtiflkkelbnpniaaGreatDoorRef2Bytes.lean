/-
  What the document's Eight and join answer: a number's eight bytes; parts, one behind the other. They turn nothing that was there.
-/
import Derived.Test.YtiflkkelbnpniaaGreatDoorSealGood
import Derived.Test.YtiflkkelbnpniaaGreatDoorRef1All
namespace Go.Proofs.YtiflkkelbnpniaaGreatDoor
open Go.RowKit

/-- a row's bytes -/
theorem row_bytes {w : World} {g : Nat} {t : TypeId} {l : List (BitVec 8)} {n : Nat} (h : Row w g t (l.map V)) (cap : Nat) (hc : n ≤ cap) (hl : l.length = n) : Bytes w w.heap.size (.slice (some ⟨g, 0, none⟩) n cap) l := by
  subst hl
  refine .inr (.inr ⟨g, 0, cap, rfl, hc, fun i hi => ⟨h.lt, ?_⟩⟩)
  rw [h.cell, Nat.zero_add, List.getElem?_map, getD_some l i 0 hi]
  rfl
/-- a number's eight bytes, but for the first t, which are not written yet -/
def eightTo (n t : Nat) : List (BitVec 8) := List.replicate t 0 ++ (be8 n).drop t
theorem eightTo_set (n t : Nat) (h : t < 8) : (eightTo n (t + 1)).set t (BitVec.ofNat 8 (n / 2 ^ (8 * (7 - t)))) = eightTo n t := by
  unfold eightTo
  have hl : t < (be8 n).length := by rw [be8_length]; exact h
  have hb := be8_at n t h
  rw [List.getElem?_eq_getElem hl] at hb
  rw [← List.getElem_cons_drop hl, Option.some.inj hb, List.replicate_succ', List.append_assoc, List.set_append_right _ _ (by simp)]
  simp
theorem eightTo_length (n t : Nat) (h : t ≤ 8) : (eightTo n t).length = 8 := by
  unfold eightTo; rw [List.length_append, List.length_replicate, List.length_drop, be8_length]; omega

set_option maxRecDepth 100000 in
set_option maxHeartbeats 1000000 in
theorem refEight_any (n : Nat) (w : World) (hn : n < 18446744073709551616) :
    Calls Tryz.prog 148 #[.int .u64 (n : Int)] w fun e w' =>
      e = .returned (.slice (some ⟨w.heap.size, 0, none⟩) 8 8) ∧ Row w' w.heap.size 5 ((be8 n).map V) ∧ w'.heap.size = w.heap.size + 1 ∧ Below w.heap.size w w' := by
  have hmk : ∀ w : World, (Instr.makeSlice 25 (.int .i64 8) (.int .i64 8)).run Tryz.prog w = .ok (.slice (some ⟨w.heap.size, 0, none⟩) 8 8) (w.alloc (.cells (List.replicate 8 (Value.int .u8 0)).toArray 5)) := fun _ => by kernel_rfl
  go_enter Tryz.func148, Tryz.ntmps148
  go_wp2_with fail
  clear hmk
  go_loopw [0, 4] (fun v i wr => ∃ t bc : Nat, t ≤ 8 ∧ i = .int .i64 ((t : Int) - 1) ∧ v = .int .u64 (bc : Int) ∧ Hid (bc = n / 2 ^ (8 * (8 - t))) ∧ Row wr w.heap.size 5 ((eightTo n t).map V) ∧ wr.heap.size = w.heap.size + 1 ∧ Below w.heap.size w wr)
    (fun _ i _ => (intOf i + 1).toNat)
  case atStart =>
    exact ⟨8, n, by omega, rfl, rfl, hid (by simp), Row.newAt w 5 ((eightTo n 8).map V) _ rfl, by simp, (Below.refl _ _).alloc (Nat.le_refl _) _⟩
  case round =>
    obtain ⟨t, bc, ht, rfl, rfl, HC, hrow, hsz, hbel⟩ := hrel
    cases t with
    | zero =>
      have HROW := hid hrow
      have HB := hid hbel
      clear hrow hbel
      go_wp2
      go_ret
      exact ⟨rfl, HROW.out, hsz, HB.out⟩
    | succ t =>
      rw [show (((t + 1 : Nat) : Int) - 1) = (t : Int) by omega]
      have hl := eightTo_length n (t + 1) ht
      have hfz : wr.frozen? ⟨w.heap.size, t, none⟩ = false := hrow.frozen _
      obtain ⟨v0, hv0⟩ : ∃ v0, wr.cell? ⟨w.heap.size, t, none⟩ = some v0 := by
        rw [hrow.cell]
        exact ⟨_, List.getElem?_eq_getElem (by rw [List.length_map, hl]; omega)⟩
      have hbc : bc = n / 2 ^ (8 * (7 - t)) := by rw [HC.out]; congr 3; omega
      have hbl : bc < 18446744073709551616 := by
        rw [hbc]; exact Nat.lt_of_le_of_lt (Nat.div_le_self _ _) hn
      have g1 : (bc : Int) % 256 = b8 (BitVec.ofNat 8 bc) := by unfold b8; simp
      have g1' : (bc : Int).tmod 256 = b8 (BitVec.ofNat 8 bc) := by rw [Int.tmod_eq_emod_of_nonneg (by omega)]; exact g1
      have g2 : IntKind.u8.wrap (b8 (BitVec.ofNat 8 bc)) = b8 (BitVec.ofNat 8 bc) := by
        rw [IntKind.wrap_u8']; have := b8_lo (BitVec.ofNat 8 bc); have := b8_hi (BitVec.ofNat 8 bc); omega
      obtain ⟨bc2, hbc2⟩ : ∃ bc2, bc / 256 = bc2 := ⟨_, rfl⟩
      have g3 : (bc : Int) / 256 = (bc2 : Int) := by omega
      have g3' : IntKind.u64.wrap (bc2 : Int) = (bc2 : Int) := w64 _ (by omega)
      have ht' : (t : Int) < 8 := by omega
      have HROW := hid hrow
      have HB := hid hbel
      have HBC := hid hbc
      have HBC2 := hid hbc2
      clear hrow hbel hbc hbc2 HC hl
      go_wp2
      go_roundw
      case rel =>
        refine ⟨t, bc2, by omega, by first | rfl | go_num, rfl, hid ?_, ?_, by simpa [World.setCell] using hsz, HB.out.setCell (Nat.le_refl _) _⟩
        · rw [← HBC2.out, HBC.out, Nat.div_div_eq_div_mul, show (256 : Nat) = 2 ^ 8 from rfl, ← Nat.pow_add, show 8 * (7 - t) + 8 = 8 * (8 - t) by omega]
        · have hs := HROW.out.set t (V (BitVec.ofNat 8 bc))
          rw [← List.map_set, HBC.out, eightTo_set n t (by omega)] at hs
          rw [HBC.out]
          exact hs
      case measure => simp [intOf]

set_option maxRecDepth 100000 in
set_option maxHeartbeats 1000000 in
theorem join_any (ls : List (List (BitVec 8))) (sv : Value) (N : Nat) (w : World) (hN : N ≤ w.heap.size) (hb : Lists w N sv ls) (hlen : ls.flatten.length ≤ 140737488355328) (hn : ls.length < 1099511627776) :
    Calls Tryz.prog 147 #[sv] w fun e w' =>
      ∃ v, e = .returned v ∧ w'.ownsRow w.heap.size 5 1 v ls.flatten.length (ls.flatten.map V) ∧ Below w.heap.size w w' := by
  obtain ⟨oa, cap, rfl, hcap⟩ := hb.shape
  have HBY := hid hb
  have HLEN := hid hlen
  have HNN := hid hn
  clear hb hlen hn
  generalize hn0 : ls.length = n at *
  have HN0 := hid hn0
  clear hn0
  go_enter Tryz.func147, Tryz.ntmps147
  go_wp2_with fail
  go_loopw [3, 8] (fun v i wr => ∃ k : Nat, k ≤ n ∧ i = .int .i64 k ∧ wr.ownsRow w.heap.size 5 1 v (ls.take k).flatten.length ((ls.take k).flatten.map V) ∧ Below w.heap.size w wr) (fun _ i _ => n - (intOf i).toNat)
  case atStart => exact ⟨0, by omega, rfl, World.ownsRow_nil _ _ _ _, Below.refl _ _⟩
  case round =>
    obtain ⟨k, hk, rfl, hown, hbe⟩ := hrel
    have hszr := hbe.size
    by_cases hlt : k < n
    · have h1 : Lists w N (.slice oa ls.length cap) ls := by rw [HN0.out]; exact HBY.out
      obtain ⟨b, off, rfl, hc⟩ := h1.some (by rw [HN0.out]; omega)
      obtain ⟨hbN, x, hx, hbx⟩ := hc k (by rw [HN0.out]; exact hlt)
      have hxr : wr.cell? ⟨b, off + k, none⟩ = some x := (hbe.cell (by show b < w.heap.size; omega)).trans hx
      have hfl := flatten_take_succ ls k (by rw [HN0.out]; exact hlt)
      have hle := flatten_take_le ls (k + 1)
      have HBX := hid (hbx.below (hbe.mono hN))
      have hm : (ls.take k).flatten.length + (ls.getD k []).length ≤ 140737488355328 := by
        have h3 := HLEN.out; rw [hfl, List.length_append] at hle; omega
      have hlt' : (k : Int) < (n : Int) := by omega
      have hn48 : (n : Int) < 1099511627776 := by have := HNN.out; omega
      have HO := hid hown
      have HB := hid hbe
      have HFL := hid hfl
      have HM := hid hm
      clear hown hbe hfl hle hx hbx hc h1 hm
      go_wp2_with (at_builtin; refine wpList_append_bytes rfl (.tmp 12) (.tmp 13) rfl w.heap.size _ _ _ rfl HO.out x (ls.getD k []) rfl HBX.out HM.out hszr ?_; intro v' w' hown' hgrow)
      go_roundw
      case rel =>
        refine ⟨k + 1, by omega, by go_num, ?_, HB.out.trans hgrow⟩
        rw [HFL.out, List.length_append, List.map_append]; exact hown'
      case measure => simp [intOf]; omega
    · have hkn : k = n := by omega
      subst hkn
      have hall : ls.take k = ls := List.take_of_length_le (by rw [HN0.out]; omega)
      rw [hall] at hown
      have HO := hid hown
      have HB := hid hbe
      clear hown hbe hall
      go_wp2
      go_ret
      exact ⟨_, rfl, HO.out, HB.out⟩
end Go.Proofs.YtiflkkelbnpniaaGreatDoor
