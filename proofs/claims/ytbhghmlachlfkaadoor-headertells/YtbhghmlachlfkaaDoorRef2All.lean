/-
  What the document's Eight and join answer: a number's eight bytes; parts, one behind the other. They turn nothing that was there.
  What the document's Times and Power answer: a product by doubling, a power bit by bit, under a modulus. They turn nothing.
  What the document's Number, Secret, Key and Ask answer. They turn nothing that was there.
  What the document's Good answers: whether a seal is good. It turns nothing that was there.
  What the document's Sign answers: the seal. It turns nothing that was there.
-/
import Derived.Test.YtbhghmlachlfkaaDoorSealAll
import Derived.Test.YtbhghmlachlfkaaDoorAppendB
import Derived.Test.YtbhghmlachlfkaaDoorWords
import Derived.Test.YtbhghmlachlfkaaDoorSealDivs
import Derived.Test.YtbhghmlachlfkaaDoorRef1All
import Derived.Deep.RegionHeld3
namespace Go.Proofs.YtbhghmlachlfkaaDoor
open Go.RowKit

/-- a row's bytes -/
theorem row_bytes {w : World} {g : Nat} {t : TypeId} {l : List (BitVec 8)} {n : Nat} (h : Row w g t (l.map V)) (cap : Nat) (hc : n ≤ cap) (hl : l.length = n) : Bytes w w.heap.size (.slice (some ⟨g, 0, none⟩) n cap) l := by
  subst hl
  refine .inr (.inr ⟨g, 0, cap, rfl, hc, fun i hi => ⟨h.lt, ?_⟩⟩)
  rw [h.cell, Nat.zero_add, List.getElem?_map, getD_some l i 0 hi]
  rfl
/-- a number's eight bytes, but for the first t, which are not written yet -/
def eightTo (n t : Nat) : List (BitVec 8) := List.replicate t 0 ++ (be8 n).drop t
theorem eightTo_set (n t : Nat) (h : t < 8) : (eightTo n (t + 1)).set t (BitVec.ofNat 8 (n / 2 ^ (8 * (7 - t)))) = eightTo n t := by
  unfold eightTo
  have hl : t < (be8 n).length := by rw [be8_length]; exact h
  have hb := be8_at n t h
  rw [List.getElem?_eq_getElem hl] at hb
  rw [← List.getElem_cons_drop hl, Option.some.inj hb, List.replicate_succ', List.append_assoc, List.set_append_right _ _ (by simp)]
  simp
theorem eightTo_length (n t : Nat) (h : t ≤ 8) : (eightTo n t).length = 8 := by
  unfold eightTo; rw [List.length_append, List.length_replicate, List.length_drop, be8_length]; omega

set_option maxRecDepth 100000 in
set_option maxHeartbeats 1000000 in
theorem refEight_any (n : Nat) (w : World) (hn : n < 18446744073709551616) :
    Calls Tryd.prog 66 #[.int .u64 (n : Int)] w fun e w' =>
      e = .returned (.slice (some ⟨w.heap.size, 0, none⟩) 8 8) ∧ Row w' w.heap.size 5 ((be8 n).map V) ∧ w'.heap.size = w.heap.size + 1 ∧ Below w.heap.size w w' := by
  have hmk : ∀ w : World, (Instr.makeSlice 23 (.int .i64 8) (.int .i64 8)).run Tryd.prog w = .ok (.slice (some ⟨w.heap.size, 0, none⟩) 8 8) (w.alloc (.cells (List.replicate 8 (Value.int .u8 0)).toArray 5)) := fun _ => by kernel_rfl
  go_enter Tryd.func66, Tryd.ntmps66
  go_wp2_with fail
  clear hmk
  go_loopw [0, 4] (fun v i wr => ∃ t bc : Nat, t ≤ 8 ∧ i = .int .i64 ((t : Int) - 1) ∧ v = .int .u64 (bc : Int) ∧ Hid (bc = n / 2 ^ (8 * (8 - t))) ∧ Row wr w.heap.size 5 ((eightTo n t).map V) ∧ wr.heap.size = w.heap.size + 1 ∧ Below w.heap.size w wr)
    (fun _ i _ => (intOf i + 1).toNat)
  case atStart =>
    exact ⟨8, n, by omega, rfl, rfl, hid (by simp), Row.newAt w 5 ((eightTo n 8).map V) _ rfl, by simp, (Below.refl _ _).alloc (Nat.le_refl _) _⟩
  case round =>
    obtain ⟨t, bc, ht, rfl, rfl, HC, hrow, hsz, hbel⟩ := hrel
    cases t with
    | zero =>
      have HROW := hid hrow
      have HB := hid hbel
      clear hrow hbel
      go_wp2
      go_ret
      exact ⟨rfl, HROW.out, hsz, HB.out⟩
    | succ t =>
      rw [show (((t + 1 : Nat) : Int) - 1) = (t : Int) by omega]
      have hl := eightTo_length n (t + 1) ht
      have hfz : wr.frozen? ⟨w.heap.size, t, none⟩ = false := hrow.frozen _
      obtain ⟨v0, hv0⟩ : ∃ v0, wr.cell? ⟨w.heap.size, t, none⟩ = some v0 := by
        rw [hrow.cell]
        exact ⟨_, List.getElem?_eq_getElem (by rw [List.length_map, hl]; omega)⟩
      have hbc : bc = n / 2 ^ (8 * (7 - t)) := by rw [HC.out]; congr 3; omega
      have hbl : bc < 18446744073709551616 := by
        rw [hbc]; exact Nat.lt_of_le_of_lt (Nat.div_le_self _ _) hn
      have g1 : (bc : Int) % 256 = b8 (BitVec.ofNat 8 bc) := by unfold b8; simp
      have g1' : (bc : Int).tmod 256 = b8 (BitVec.ofNat 8 bc) := by rw [Int.tmod_eq_emod_of_nonneg (by omega)]; exact g1
      have g2 : IntKind.u8.wrap (b8 (BitVec.ofNat 8 bc)) = b8 (BitVec.ofNat 8 bc) := by
        rw [IntKind.wrap_u8']; have := b8_lo (BitVec.ofNat 8 bc); have := b8_hi (BitVec.ofNat 8 bc); omega
      obtain ⟨bc2, hbc2⟩ : ∃ bc2, bc / 256 = bc2 := ⟨_, rfl⟩
      have g3 : (bc : Int) / 256 = (bc2 : Int) := by omega
      have g3' : IntKind.u64.wrap (bc2 : Int) = (bc2 : Int) := w64 _ (by omega)
      have ht' : (t : Int) < 8 := by omega
      have HROW := hid hrow
      have HB := hid hbel
      have HBC := hid hbc
      have HBC2 := hid hbc2
      clear hrow hbel hbc hbc2 HC hl
      go_wp2
      go_roundw
      case rel =>
        refine ⟨t, bc2, by omega, by first | rfl | go_num, rfl, hid ?_, ?_, by simpa [World.setCell] using hsz, HB.out.setCell (Nat.le_refl _) _⟩
        · rw [← HBC2.out, HBC.out, Nat.div_div_eq_div_mul, show (256 : Nat) = 2 ^ 8 from rfl, ← Nat.pow_add, show 8 * (7 - t) + 8 = 8 * (8 - t) by omega]
        · have hs := HROW.out.set t (V (BitVec.ofNat 8 bc))
          rw [← List.map_set, HBC.out, eightTo_set n t (by omega)] at hs
          rw [HBC.out]
          exact hs
      case measure => simp [intOf]

set_option maxRecDepth 100000 in
set_option maxHeartbeats 1000000 in
theorem join_any (ls : List (List (BitVec 8))) (sv : Value) (N : Nat) (w : World) (hN : N ≤ w.heap.size) (hb : Lists w N sv ls) (hlen : ls.flatten.length ≤ 140737488355328) (hn : ls.length < 1099511627776) :
    Calls Tryd.prog 65 #[sv] w fun e w' =>
      ∃ v, e = .returned v ∧ w'.ownsRow w.heap.size 5 1 v ls.flatten.length (ls.flatten.map V) ∧ Below w.heap.size w w' := by
  obtain ⟨oa, cap, rfl, hcap⟩ := hb.shape
  have HBY := hid hb
  have HLEN := hid hlen
  have HNN := hid hn
  clear hb hlen hn
  generalize hn0 : ls.length = n at *
  have HN0 := hid hn0
  clear hn0
  go_enter Tryd.func65, Tryd.ntmps65
  go_wp2_with fail
  go_loopw [3, 8] (fun v i wr => ∃ k : Nat, k ≤ n ∧ i = .int .i64 k ∧ wr.ownsRow w.heap.size 5 1 v (ls.take k).flatten.length ((ls.take k).flatten.map V) ∧ Below w.heap.size w wr) (fun _ i _ => n - (intOf i).toNat)
  case atStart => exact ⟨0, by omega, rfl, World.ownsRow_nil _ _ _ _, Below.refl _ _⟩
  case round =>
    obtain ⟨k, hk, rfl, hown, hbe⟩ := hrel
    have hszr := hbe.size
    by_cases hlt : k < n
    · have h1 : Lists w N (.slice oa ls.length cap) ls := by rw [HN0.out]; exact HBY.out
      obtain ⟨b, off, rfl, hc⟩ := h1.some (by rw [HN0.out]; omega)
      obtain ⟨hbN, x, hx, hbx⟩ := hc k (by rw [HN0.out]; exact hlt)
      have hxr : wr.cell? ⟨b, off + k, none⟩ = some x := (hbe.cell (by show b < w.heap.size; omega)).trans hx
      have hfl := flatten_take_succ ls k (by rw [HN0.out]; exact hlt)
      have hle := flatten_take_le ls (k + 1)
      have HBX := hid (hbx.below (hbe.mono hN))
      have hm : (ls.take k).flatten.length + (ls.getD k []).length ≤ 140737488355328 := by
        have h3 := HLEN.out; rw [hfl, List.length_append] at hle; omega
      have hlt' : (k : Int) < (n : Int) := by omega
      have hn48 : (n : Int) < 1099511627776 := by have := HNN.out; omega
      have HO := hid hown
      have HB := hid hbe
      have HFL := hid hfl
      have HM := hid hm
      clear hown hbe hfl hle hx hbx hc h1 hm
      go_wp2_with (at_builtin; refine wpList_append_bytes rfl (.tmp 12) (.tmp 13) rfl w.heap.size _ _ _ rfl HO.out x (ls.getD k []) rfl HBX.out HM.out hszr ?_; intro v' w' hown' hgrow)
      go_roundw
      case rel =>
        refine ⟨k + 1, by omega, by go_num, ?_, HB.out.trans hgrow⟩
        rw [HFL.out, List.length_append, List.map_append]; exact hown'
      case measure => simp [intOf]; omega
    · have hkn : k = n := by omega
      subst hkn
      have hall : ls.take k = ls := List.take_of_length_le (by rw [HN0.out]; omega)
      rw [hall] at hown
      have HO := hid hown
      have HB := hid hbe
      clear hown hbe hall
      go_wp2
      go_ret
      exact ⟨_, rfl, HO.out, HB.out⟩
end Go.Proofs.YtbhghmlachlfkaaDoor
namespace Go.Proofs.YtbhghmlachlfkaaDoor
open Go.RowKit

/-- what a product by doubling keeps -/
def MulAt (a b m r x k : Nat) : Prop := r < m ∧ x < m ∧ k < 18446744073709551616 ∧ (r + x * k) % m = a * b % m
theorem mulAt_start {a b m : Nat} (hm : 0 < m) (hb : b < 18446744073709551616) : MulAt a b m 0 (a % m) b := by
  refine ⟨hm, Nat.mod_lt _ hm, hb, ?_⟩
  rw [Nat.zero_add]
  exact mulmod (Nat.mod_mod _ _) rfl
theorem mulAt_odd {a b m r x k : Nat} (h : MulAt a b m r x k) (hk : k % 2 = 1) : MulAt a b m ((r + x) % m) ((x + x) % m) (k / 2) := by
  obtain ⟨h1, h2, h3, h4⟩ := h
  refine ⟨Nat.mod_lt _ (by omega), Nat.mod_lt _ (by omega), by omega, ?_⟩
  rw [← h4, Nat.add_mod, mulmod (Nat.mod_mod (x + x) m) (rfl : (k / 2) % m = (k / 2) % m), Nat.mod_mod, ← Nat.add_mod]
  have e : x * k = x + (x + x) * (k / 2) := by
    have : k = 1 + 2 * (k / 2) := by omega
    rw (occs := .pos [1]) [this]
    rw [Nat.mul_add, Nat.mul_one, ← Nat.mul_assoc, Nat.mul_two]
  rw [e, Nat.add_assoc]
theorem mulAt_even {a b m r x k : Nat} (h : MulAt a b m r x k) (hk : k % 2 = 0) : MulAt a b m r ((x + x) % m) (k / 2) := by
  obtain ⟨h1, h2, h3, h4⟩ := h
  refine ⟨h1, Nat.mod_lt _ (by omega), by omega, ?_⟩
  rw [← h4, Nat.add_mod, mulmod (Nat.mod_mod (x + x) m) (rfl : (k / 2) % m = (k / 2) % m), ← Nat.add_mod]
  have e : x * k = (x + x) * (k / 2) := by
    have : k = 2 * (k / 2) := by omega
    rw (occs := .pos [1]) [this]
    rw [← Nat.mul_assoc, Nat.mul_two]
  rw [e]
theorem mulAt_end {a b m r x : Nat} (h : MulAt a b m r x 0) : r = a * b % m := by
  obtain ⟨h1, _, _, h4⟩ := h
  rw [Nat.mul_zero, Nat.add_zero, Nat.mod_eq_of_lt h1] at h4
  exact h4

set_option maxRecDepth 100000 in
set_option maxHeartbeats 1000000 in
theorem refTimes_any (a b m z : Nat) (w : World) (hm : 0 < m) (hm' : m ≤ 4611686018427387904) (hb : b < 18446744073709551616) (hz : a * b % m = z) :
    Calls Tryd.prog 55 #[.int .u64 (a : Int), .int .u64 (b : Int), .int .u64 (m : Int)] w fun e w' => e = .returned (.int .u64 (z : Int)) ∧ w' = w := by
  have HST := hid (mulAt_start (a := a) hm hb)
  have g0 : ((m : Int) == 0) = false := by simp; omega
  obtain ⟨a1, ha1⟩ : ∃ a1, a % m = a1 := ⟨_, rfl⟩
  have g1 : (a : Int).tmod (m : Int) = (a1 : Int) := by rw [Int.tmod_eq_emod_of_nonneg (by omega), ← Int.natCast_emod, ha1]
  rw [ha1] at HST
  have HZ := hid hz
  clear ha1 hz
  go_enter Tryd.func55, Tryd.ntmps55
  go_wp2_with fail
  go_loop [0, 1, 7] (fun x k r => ∃ x' k' r' : Nat, x = .int .u64 (x' : Int) ∧ k = .int .u64 (k' : Int) ∧ r = .int .u64 (r' : Int) ∧ MulAt a b m r' x' k') (fun _ k _ => (intOf k).toNat)
  case atStart => exact ⟨_, _, _, rfl, rfl, rfl, HST.out⟩
  case round =>
    obtain ⟨x, k, r, rfl, rfl, rfl, hp⟩ := hrel
    clear HST g1
    by_cases hk : k = 0
    · subst hk
      have HE := hid (mulAt_end hp)
      clear hp
      go_wp2
      go_ret
      rw [← HZ.out, ← HE.out]
      exact ⟨rfl, rfl⟩
    · have d1 : decide ((0 : Int) < (k : Int)) = true := by simp; omega
      have d1' : decide (0 < k) = true := by simp; omega
      have hr := hp.1
      have hx := hp.2.1
      obtain ⟨k2, hk2⟩ : ∃ k2, k / 2 = k2 := ⟨_, rfl⟩
      have g2 : (k : Int) / 2 = (k2 : Int) := by omega
      have g2' : IntKind.u64.wrap (k2 : Int) = (k2 : Int) := w64 _ (by have := hp.2.2.1; omega)
      have g3 : (k : Int) % 2 = ((k % 2 : Nat) : Int) := by omega
      obtain ⟨x2, hx2⟩ : ∃ x2, x + x = x2 := ⟨_, rfl⟩
      obtain ⟨x3, hx3⟩ : ∃ x3, x2 % m = x3 := ⟨_, rfl⟩
      have g4 : IntKind.u64.wrap ((x : Int) + (x : Int)) = (x2 : Int) := by rw [w64_add _ _ (by omega), hx2]
      have g5 : (x2 : Int).tmod (m : Int) = (x3 : Int) := by rw [Int.tmod_eq_emod_of_nonneg (by omega), ← Int.natCast_emod, hx3]
      have HLT := hid (show k2 < k by omega)
      rcases (show k % 2 = 1 ∨ k % 2 = 0 by omega) with hpar | hpar
      · have hn := mulAt_odd hp hpar
        obtain ⟨r2, hr2⟩ : ∃ r2, r + x = r2 := ⟨_, rfl⟩
        obtain ⟨r3, hr3⟩ : ∃ r3, r2 % m = r3 := ⟨_, rfl⟩
        have g6 : IntKind.u64.wrap ((r : Int) + (x : Int)) = (r2 : Int) := by rw [w64_add _ _ (by omega), hr2]
        have g7 : (r2 : Int).tmod (m : Int) = (r3 : Int) := by rw [Int.tmod_eq_emod_of_nonneg (by omega), ← Int.natCast_emod, hr3]
        rw [hr2, hr3, hx2, hx3, hk2] at hn
        rw [hpar] at g3
        have g3' : (k : Int) % 2 = 1 := g3
        have HN := hid hn
        clear hn hp hr2 hr3 hx2 hx3 hk2 hpar g3 hr hx
        go_wp2
        go_round
        case rel => exact ⟨_, _, _, rfl, rfl, rfl, HN.out⟩
        case measure => have := HLT.out; simp [intOf]; omega
      · have hn := mulAt_even hp hpar
        rw [hx2, hx3, hk2] at hn
        rw [hpar] at g3
        have g3' : (k : Int) % 2 = 0 := g3
        have HN := hid hn
        clear hn hp hx2 hx3 hk2 hpar g3 hr hx
        go_wp2
        go_round
        case rel => exact ⟨_, _, _, rfl, rfl, rfl, HN.out⟩
        case measure => have := HLT.out; simp [intOf]; omega

/-- one bit more of the exponent -/
theorem bit_next (e t : Nat) : e / 2 ^ t = 2 * (e / 2 ^ (t + 1)) + e / 2 ^ t % 2 := by
  rw [Nat.pow_succ, ← Nat.div_div_eq_div_mul]; omega
theorem pow_odd (b e t m : Nat) (h : e / 2 ^ t % 2 = 1) : b ^ (e / 2 ^ t) % m = (b ^ (e / 2 ^ (t + 1)) % m) * (b ^ (e / 2 ^ (t + 1)) % m) % m * b % m := by
  have h1 := bit_next e t
  rw [h] at h1
  rw [h1]
  have e1 : b ^ (2 * (e / 2 ^ (t + 1)) + 1) = b ^ (e / 2 ^ (t + 1)) * b ^ (e / 2 ^ (t + 1)) * b := by
    rw [Nat.pow_succ, Nat.two_mul, Nat.pow_add]
  rw [e1]
  exact mulmod ((mulmod (Nat.mod_mod _ m) (Nat.mod_mod _ m)).symm.trans (Nat.mod_mod _ m).symm) rfl
theorem pow_even (b e t m : Nat) (h : e / 2 ^ t % 2 = 0) : b ^ (e / 2 ^ t) % m = (b ^ (e / 2 ^ (t + 1)) % m) * (b ^ (e / 2 ^ (t + 1)) % m) % m := by
  have h1 := bit_next e t
  rw [h] at h1
  rw [h1, Nat.add_zero, Nat.two_mul, Nat.pow_add]
  exact (mulmod (Nat.mod_mod _ m) (Nat.mod_mod _ m)).symm

set_option maxRecDepth 100000 in
set_option maxHeartbeats 1000000 in
theorem refPower_any (b e m z : Nat) (w : World) (hm : 1 < m) (hm' : m ≤ 4611686018427387904) (hb : b < 18446744073709551616) (he : e < 18446744073709551616) (hz : b ^ e % m = z) :
    Calls Tryd.prog 53 #[.int .u64 (b : Int), .int .u64 (e : Int), .int .u64 (m : Int)] w fun e' w' => e' = .returned (.int .u64 (z : Int)) ∧ w' = w := by
  have HZ := hid hz
  have HST := hid (show 1 = b ^ (e / 2 ^ 64) % m by rw [Nat.div_eq_of_lt he, Nat.pow_zero, Nat.mod_eq_of_lt hm])
  clear hz
  go_enter Tryd.func53, Tryd.ntmps53
  go_wp2_with fail
  go_loopw [7, 8] (fun r k wr => ∃ t r' : Nat, t ≤ 64 ∧ k = .int .i64 ((t : Int) - 1) ∧ r = .int .u64 (r' : Int) ∧ r' = b ^ (e / 2 ^ t) % m ∧ wr = w) (fun _ k _ => (intOf k + 1).toNat)
  case atStart => exact ⟨64, 1, by omega, rfl, rfl, HST.out, rfl⟩
  case round =>
    obtain ⟨t, r, ht, rfl, rfl, hr, rfl⟩ := hrel
    clear HST
    by_cases ht0 : t = 0
    · subst ht0
      rw [Nat.pow_zero, Nat.div_one] at hr
      have HR := hid hr
      clear hr
      go_wp2
      go_ret
      rw [← HZ.out, ← HR.out]
      exact ⟨rfl, rfl⟩
    · obtain ⟨t, rfl⟩ : ∃ k, t = k + 1 := ⟨t - 1, by omega⟩
      rw [show (((t + 1 : Nat) : Int) - 1) = (t : Int) by omega]
      have hrl : r < m := by rw [hr]; exact Nat.mod_lt _ (by omega)
      have hnn : (0 : Int) ≤ (t : Int) := by omega
      have ht' : (t : Int) < 64 := by omega
      obtain ⟨s, hs⟩ : ∃ s, r * r % m = s := ⟨_, rfl⟩
      obtain ⟨y, hy⟩ : ∃ y, e / 2 ^ t = y := ⟨_, rfl⟩
      have g1 : (e : Int) / 2 ^ t = (y : Int) := by rw [← hy]; simp
      have HT1 := hid (fun w => refTimes_any r r m s w (by omega) hm' (by omega) hs)
      rcases (show y % 2 = 1 ∨ y % 2 = 0 by omega) with hpar | hpar
      · obtain ⟨v, hv⟩ : ∃ v, s * b % m = v := ⟨_, rfl⟩
        have g2 : (y : Int) % 2 = 1 := by omega
        have HT2 := hid (fun w => refTimes_any s b m v w (by omega) hm' hb hv)
        have HN := hid (show v = b ^ (e / 2 ^ t) % m by rw [pow_odd b e t m (by rw [hy]; exact hpar), ← hr, hs, hv])
        clear hr hs hy hv hpar
        go_wp2_with fail
        refine (HT1.out _).mono ?_
        rintro e1 w1 ⟨rfl, rfl⟩
        go_wp2_with fail
        refine (HT2.out _).mono ?_
        rintro e2 w2 ⟨rfl, rfl⟩
        go_wp2
        go_roundw
        case rel => exact ⟨t, v, by omega, rfl, rfl, HN.out, by trivial⟩
        case measure => simp [intOf]
      · have g2 : (y : Int) % 2 = 0 := by omega
        have HN := hid (show s = b ^ (e / 2 ^ t) % m by rw [pow_even b e t m (by rw [hy]; exact hpar), ← hr, hs])
        clear hr hs hy hpar
        go_wp2_with fail
        refine (HT1.out _).mono ?_
        rintro e1 w1 ⟨rfl, rfl⟩
        go_wp2
        go_roundw
        case rel => exact ⟨t, s, by omega, rfl, rfl, HN.out, by trivial⟩
        case measure => simp [intOf]
end Go.Proofs.YtbhghmlachlfkaaDoor
namespace Go.Proofs.YtbhghmlachlfkaaDoor
open Go.RowKit

theorem mul_byte (n : Nat) (b : BitVec 8) (hn : n < 72057594037927936) : IntKind.u64.wrap (IntKind.u64.wrap (256 * (n : Int)) + b8 b) = ((n * 256 + b.toNat : Nat) : Int) := by
  have hb := b.isLt
  have h1 : IntKind.u64.wrap (256 * (n : Int)) = ((256 * n : Nat) : Int) := w64_mul 256 n (by omega)
  have h2 : b8 b = ((b.toNat : Nat) : Int) := rfl
  rw [h1, h2, w64_add _ _ (by omega)]
  omega

set_option maxRecDepth 100000 in
set_option maxHeartbeats 1000000 in
theorem refNumber_any (b : List (BitVec 8)) (sv : Value) (N : Nat) (w : World) (hN : N ≤ w.heap.size) (hb : Bytes w N sv b) (hlen : b.length ≤ 140737488352232) :
    Calls Tryd.prog 64 #[sv] w fun e w' => e = .returned (.int .u64 (shaN b : Int)) ∧ Below w.heap.size w w' := by
  have HP := hid (refSum_any b sv N w hN hb hlen)
  clear hb hlen
  go_enter Tryd.func64, Tryd.ntmps64
  go_wp2_with fail
  refine HP.out.mono ?_
  rintro e w1 ⟨v, rfl, hown, hb1⟩
  obtain ⟨ov, capv, rfl, hcap, hsv⟩ := ownsRow_shape hown
  obtain ⟨gv, rfl, _, _, hcell⟩ := hsv (by omega)
  have hc : ∀ k, k < 8 → w1.cell? ⟨gv, k, none⟩ = some (.int .u8 (b8 ((sha b).getD k 0))) := by
    intro k hk
    rw [(hcell k (by omega)).1, List.getElem?_map, getD_some _ k 0 (by rw [sha_length]; omega)]
    rfl
  have hcap8 : (8 : Int) ≤ (capv : Int) := by omega
  have HC := hid hc
  have HB1 := hid hb1
  have hsl := sha_length b
  obtain ⟨l, hl⟩ : ∃ l, sha b = l := ⟨_, rfl⟩
  have HSH := hid (show shaN b = numL (l.take 8) by rw [← hl]; rfl)
  rw [hl] at hsl HC
  have HL := hid hsl
  clear hsv hcell hc hb1 hown HP hsl hl
  go_wp2_with fail
  go_loop [3, 10] (fun n i => ∃ k : Nat, k ≤ 8 ∧ i = .int .i64 k ∧ n = .int .u64 (numL (l.take k) : Int)) (fun _ i => 8 - (intOf i).toNat)
  case atStart => exact ⟨0, by omega, rfl, rfl⟩
  case round =>
    obtain ⟨k, hk, rfl, rfl⟩ := hrel
    by_cases hlt : k < 8
    · have hck := HC.out k hlt
      have hlt' : (k : Int) < 8 := by omega
      have hkl : k < l.length := by rw [HL.out]; omega
      have hnx : numL (l.take (k + 1)) = numL (l.take k) * 256 + (l.getD k 0).toNat := by
        rw [List.take_succ_eq_append_getElem hkl, numL_snoc]; simp [hkl]
      have hsm : numL (l.take k) < 72057594037927936 := by
        have h1 := numL_lt k (l.take k) (by rw [List.length_take]; omega)
        have h2 := Nat.pow_le_pow_right (show 0 < 256 by omega) (show k ≤ 7 by omega)
        omega
      have hor := mul_byte (numL (l.take k)) (l.getD k 0) hsm
      rw [← hnx] at hor
      obtain ⟨c, hb⟩ : ∃ c, l.getD k 0 = c := ⟨_, rfl⟩
      obtain ⟨n0, hn0⟩ : ∃ n0, numL (l.take k) = n0 := ⟨_, rfl⟩
      obtain ⟨n1, hn1⟩ : ∃ n1, numL (l.take (k + 1)) = n1 := ⟨_, rfl⟩
      rw [hb] at hck hor
      rw [hn0, hn1] at hor
      rw [hn0]
      have HN1 := hid hn1
      have hw8 : IntKind.u64.wrap (b8 c) = b8 c := by
        have h1 : b8 c = ((c.toNat : Nat) : Int) := rfl
        have := c.isLt
        rw [h1]; exact w64 _ (by omega)
      have hb0 := b8_lo c
      have hb1 := b8_hi c
      clear hn0 hn1 hb hnx hsm HC
      go_wp2
      go_round
      case rel => exact ⟨k + 1, by omega, by go_num, by rw [HN1.out]⟩
      case measure => simp [intOf]; omega
    · have hk8 : k = 8 := by omega
      subst hk8
      go_wp2
      go_ret
      rw [HSH.out]
      exact ⟨rfl, HB1.out⟩

/-- the number of joined parts -/
theorem flat_len2 (a b : List (BitVec 8)) : [a, b].flatten.length = a.length + b.length := by simp
theorem flat_len3 (a b c : List (BitVec 8)) : [a, b, c].flatten.length = a.length + b.length + c.length := by simp; omega

set_option maxHeartbeats 1000000 in
theorem refSecret_any (l : List (BitVec 8)) (sv : Value) (N : Nat) (w : World) (hN : N ≤ w.heap.size) (hb : Bytes w N sv l) (hlen : l.length ≤ 140737488351232) :
    Calls Tryd.prog 54 #[sv] w fun e w' => e = .returned (.int .u64 (secretN l : Int)) ∧ Below w.heap.size w w' := by
  obtain ⟨oa, cap, rfl, _⟩ := hb.shape
  have hcv := conv_const
  obtain ⟨w1, hw1⟩ : ∃ w1, w.alloc (.cells #[Value.int .u8 107, .int .u8 101, .int .u8 121] 5 (3, 4)) = w1 := ⟨_, rfl⟩
  have hsz1 : w1.heap.size = w.heap.size + 1 := by rw [← hw1]; simp
  have hb1 : Below w.heap.size w w1 := by rw [← hw1]; exact (Below.refl _ _).alloc (Nat.le_refl _) _
  have hk : Bytes w1 w1.heap.size (.slice (some ⟨w.heap.size, 0, none⟩) 3 3) keyB := by rw [hsz1, ← hw1]; exact bytes_new w keyB 5 (3, 4) 3 (by decide)
  have hs : Bytes w1 w1.heap.size (.slice oa l.length cap) l := (hb.below (hb1.mono hN)).mono (by omega)
  have hli := lists2 (t := 23) hk hs
  have hb2 : Below w1.heap.size w1 (w1.alloc (.cells #[.slice (some ⟨w.heap.size, 0, none⟩) 3 3, .slice oa l.length cap] 23)) := (Below.refl _ _).alloc (Nat.le_refl _) _
  have hjo := join_any [keyB, l] _ _ _ (by simp) hli (by rw [flat_len2]; simp [keyB]; omega) (by simp)
  rw [flat2, hsz1] at hjo
  have HJ := hid hjo
  have HB1 := hid hb1
  have HB2 := hid hb2
  clear hjo hli hs hk hb hb1 hb2
  go_enter Tryd.func54, Tryd.ntmps54
  go_wp2_with fail
  refine HJ.out.mono ?_
  rintro e w2 ⟨v, rfl, hown, hb3⟩
  have hb13 : Below w.heap.size w w2 := HB1.out.trans ((HB2.out.mono (by omega)).trans (hb3.mono (by simp; omega)))
  have hsz2 := hb13.size
  have HN := hid (refNumber_any (keyB ++ l) v w2.heap.size w2 (Nat.le_refl _) (ownsRow_bytes hown) (by simp [keyB]; omega))
  have HB := hid hb13
  have hz := shaN_lt (keyB ++ l)
  have hex : secretN l = 1 + shaN (keyB ++ l) % 576460752303424852 := rfl
  obtain ⟨z, hz0⟩ : ∃ z, shaN (keyB ++ l) = z := ⟨_, rfl⟩
  rw [hz0] at HN hz hex
  obtain ⟨r, hr⟩ : ∃ r, z % 576460752303424852 = r := ⟨_, rfl⟩
  have e1 : (z : Int) % 576460752303424852 = (r : Int) := by omega
  rw [hr] at hex
  have hrl : r < 576460752303424852 := by omega
  have e2 : IntKind.u64.wrap (1 + (r : Int)) = ((1 + r : Nat) : Int) := w64_add 1 r (by omega)
  have HEX := hid hex
  clear hown hb3 hb13 hz0 hr hex HJ HB1 HB2
  go_wp2_with fail
  refine HN.out.mono ?_
  rintro e w4 ⟨rfl, hb4⟩
  go_wp2
  go_ret
  rw [HEX.out]
  exact ⟨by simp, HB.out.trans (hb4.mono hsz2)⟩

theorem refPower_p (b e : Nat) (w : World) (hb : b < 18446744073709551616) (he : e < 18446744073709551616) :
    Calls Tryd.prog 53 #[.int .u64 (b : Int), .int .u64 (e : Int), .int .u64 (1152921504606849707 : Int)] w fun e' w' => e' = .returned (.int .u64 (powP b e : Int)) ∧ w' = w := by
  have h := refPower_any b e pP (powP b e) w (by decide) (by decide) hb he rfl
  rw [show ((pP : Nat) : Int) = (1152921504606849707 : Int) from by decide] at h
  exact h
theorem refPower_four (e : Nat) (w : World) (he : e < 18446744073709551616) :
    Calls Tryd.prog 53 #[.int .u64 (4 : Int), .int .u64 (e : Int), .int .u64 (1152921504606849707 : Int)] w fun e' w' => e' = .returned (.int .u64 (powP 4 e : Int)) ∧ w' = w :=
  refPower_p 4 e w (by omega) he
theorem refTimes_p (a b : Nat) (w : World) (hb : b < 18446744073709551616) :
    Calls Tryd.prog 55 #[.int .u64 (a : Int), .int .u64 (b : Int), .int .u64 (1152921504606849707 : Int)] w fun e' w' => e' = .returned (.int .u64 (mulP a b : Int)) ∧ w' = w := by
  have h := refTimes_any a b pP (mulP a b) w (by decide) (by decide) hb rfl
  rw [show ((pP : Nat) : Int) = (1152921504606849707 : Int) from by decide] at h
  exact h
theorem refTimes_q (a b : Nat) (w : World) (hb : b < 18446744073709551616) :
    Calls Tryd.prog 55 #[.int .u64 (a : Int), .int .u64 (b : Int), .int .u64 (576460752303424853 : Int)] w fun e' w' => e' = .returned (.int .u64 (mulQ a b : Int)) ∧ w' = w := by
  have h := refTimes_any a b qQ (mulQ a b) w (by decide) (by decide) hb rfl
  rw [show ((qQ : Nat) : Int) = (576460752303424853 : Int) from by decide] at h
  exact h

set_option maxHeartbeats 400000 in
theorem refKey_any (l : List (BitVec 8)) (sv : Value) (N : Nat) (w : World) (hN : N ≤ w.heap.size) (hb : Bytes w N sv l) (hlen : l.length ≤ 140737488351232) :
    Calls Tryd.prog 26 #[sv] w fun e w' => e = .returned (.int .u64 (keyN l : Int)) ∧ Below w.heap.size w w' := by
  have HS := hid (refSecret_any l sv N w hN hb hlen)
  have HP := hid (fun w => refPower_four (secretN l) w (by have := expN_lt (keyB ++ l); unfold secretN; omega))
  clear hb hlen
  go_enter Tryd.func26, Tryd.ntmps26
  go_wp2_with fail
  refine HS.out.mono ?_
  rintro e w1 ⟨rfl, hb1⟩
  have HB1 := hid hb1
  clear hb1
  go_wp2_with fail
  refine (HP.out _).mono ?_
  rintro e w2 ⟨rfl, rfl⟩
  go_wp2
  go_ret
  exact ⟨rfl, HB1.out⟩

set_option maxHeartbeats 1000000 in
theorem refAsk_any (r k : Nat) (m : List (BitVec 8)) (sv : Value) (N : Nat) (w : World) (hr : r < 18446744073709551616) (hk : k < 18446744073709551616) (hN : N ≤ w.heap.size) (hb : Bytes w N sv m) (hlen : m.length ≤ 140737488351232) :
    Calls Tryd.prog 56 #[.int .u64 (r : Int), .int .u64 (k : Int), sv] w fun e w' => e = .returned (.int .u64 (askN r k m : Int)) ∧ Below w.heap.size w w' := by
  obtain ⟨oa, cap, rfl, _⟩ := hb.shape
  have HBY := hid hb
  have HE1 := hid (refEight_any r w hr)
  clear hb
  go_enter Tryd.func56, Tryd.ntmps56
  go_wp2_with fail
  refine HE1.out.mono ?_
  rintro e w1 ⟨rfl, hrow1, hsz1, hb1⟩
  have HE2 := hid (refEight_any k w1 hk)
  rw [hsz1] at HE2
  have HROW1 := hid hrow1
  have HB1 := hid hb1
  clear hrow1 hb1 HE1
  go_wp2_with fail
  refine HE2.out.mono ?_
  rintro e w2 ⟨rfl, hrow2, hsz2, hb2⟩
  have hr8 : Bytes w2 w2.heap.size (.slice (some ⟨w.heap.size, 0, none⟩) 8 8) (be8 r) := row_bytes (HROW1.out.below hb2 (by omega)) 8 (Nat.le_refl _) (be8_length r)
  have hk8 : Bytes w2 w2.heap.size (.slice (some ⟨w.heap.size + 1, 0, none⟩) 8 8) (be8 k) := row_bytes hrow2 8 (Nat.le_refl _) (be8_length k)
  have hb02 : Below w.heap.size w w2 := HB1.out.trans (hb2.mono (by omega))
  have hs : Bytes w2 w2.heap.size (.slice oa m.length cap) m := (HBY.out.below (hb02.mono hN)).mono (by omega)
  have hli := lists3 (t := 23) hr8 hk8 hs
  have hb3 : Below w2.heap.size w2 (w2.alloc (.cells #[.slice (some ⟨w.heap.size, 0, none⟩) 8 8, .slice (some ⟨w.heap.size + 1, 0, none⟩) 8 8, .slice oa m.length cap] 23)) := (Below.refl _ _).alloc (Nat.le_refl _) _
  have hjo := join_any [be8 r, be8 k, m] _ _ _ (by simp) hli (by rw [flat_len3]; simp only [be8_length]; omega) (by simp)
  rw [flat3, hsz2] at hjo
  have HJ := hid hjo
  have HB03 := hid (hb02.trans (hb3.mono (by omega)))
  clear hjo hli hs hr8 hk8 hrow2 hb2 hb02 hb3 HE2 HROW1 HB1
  go_wp2_with fail
  refine HJ.out.mono ?_
  rintro e w4 ⟨v, rfl, hown, hb4⟩
  have hb04 : Below w.heap.size w w4 := HB03.out.trans (hb4.mono (by simp; omega))
  have hsz4 := hb04.size
  have HN := hid (refNumber_any (be8 r ++ (be8 k ++ m)) v w4.heap.size w4 (Nat.le_refl _) (ownsRow_bytes hown) (by simp only [List.length_append, be8_length]; omega))
  have HB := hid hb04
  have hz := shaN_lt (be8 r ++ (be8 k ++ m))
  have hex : askN r k m = shaN (be8 r ++ (be8 k ++ m)) % 576460752303424853 := rfl
  obtain ⟨z, hz0⟩ : ∃ z, shaN (be8 r ++ (be8 k ++ m)) = z := ⟨_, rfl⟩
  rw [hz0] at HN hz hex
  obtain ⟨q, hq⟩ : ∃ q, z % 576460752303424853 = q := ⟨_, rfl⟩
  have e1 : (z : Int) % 576460752303424853 = (q : Int) := by omega
  rw [hq] at hex
  have HEX := hid hex
  clear hown hb4 hb04 hz0 hq hex HJ HB03
  go_wp2_with fail
  refine HN.out.mono ?_
  rintro e w5 ⟨rfl, hb5⟩
  go_wp2
  go_ret
  rw [HEX.out, ← e1]
  exact ⟨rfl, HB.out.trans (hb5.mono hsz4)⟩
end Go.Proofs.YtbhghmlachlfkaaDoor
namespace Go.Proofs.YtbhghmlachlfkaaDoor
open Go.RowKit

theorem refPower_order2 (k : Nat) (w : World) (hk : k < 18446744073709551616) :
    Calls Tryd.prog 53 #[.int .u64 (k : Int), .int .u64 (576460752303424853 : Int), .int .u64 (1152921504606849707 : Int)] w fun e w' => e = .returned (.int .u64 (powQ k : Int)) ∧ w' = w := by
  have h := refPower_any k qQ pP (powQ k) w (by decide) (by decide) hk (by decide) rfl
  rw [show ((qQ : Nat) : Int) = (576460752303424853 : Int) from by decide, show ((pP : Nat) : Int) = (1152921504606849707 : Int) from by decide] at h
  exact h

set_option maxRecDepth 100000 in
set_option maxHeartbeats 1000000 in
theorem refGood_any (key : Nat) (m : List (BitVec 8)) (r s : Nat) (mv : Value) (N : Nat) (w : World) (hk : key < 18446744073709551616) (hr : r < 18446744073709551616) (hs : s < 18446744073709551616) (hN : N ≤ w.heap.size) (hm : Bytes w N mv m) (hlen : m.length ≤ 140737488351232) :
    Calls Tryd.prog 27 #[.int .u64 (key : Int), mv, .agg #[.int .u64 (r : Int), .int .u64 (s : Int)]] w fun e w' => ∃ b : Bool, e = .returned (.bool b) ∧ (b = true ↔ goodN key m r s) ∧ Below w.heap.size w w' := by
  obtain ⟨w1, hw1⟩ : ∃ w1, w.alloc (.cells #[.int .u64 (r : Int), .int .u64 (s : Int)] 49) = w1 := ⟨_, rfl⟩
  have hsz1 : w1.heap.size = w.heap.size + 1 := by rw [← hw1]; simp
  have hb1 : Below w.heap.size w w1 := by rw [← hw1]; exact (Below.refl _ _).alloc (Nat.le_refl _) _
  have hrow1 : Row w1 w.heap.size 49 [.int .u64 (r : Int), .int .u64 (s : Int)] := by rw [← hw1]; exact Row.new _ _ _
  have c0 : w1.cell? ⟨w.heap.size, 0, none⟩ = some (.int .u64 (r : Int)) := hrow1.cell 0
  have c1 : w1.cell? ⟨w.heap.size, 1, none⟩ = some (.int .u64 (s : Int)) := hrow1.cell 1
  have HB1 := hid hb1
  have HM1 := hid (hm.below (hb1.mono hN))
  clear hb1 hrow1 hm
  by_cases h1 : key = 0
  · have d1 : ((key : Int) == 0) = true := by rw [beq_iff_eq]; omega
    have HE := hid (show (false = true ↔ goodN key m r s) from ⟨fun h => by simp at h, fun h => by have := h.1.1; omega⟩)
    clear h1
    go_enter Tryd.func27, Tryd.ntmps27
    go_wp2
    go_ret
    exact ⟨false, rfl, HE.out, HB1.out⟩
  have d1 : ((key : Int) == 0) = false := by rw [beq_eq_false_iff_ne]; omega
  by_cases h2 : 1152921504606849707 ≤ key
  · have d2 : decide ((1152921504606849707 : Int) ≤ (key : Int)) = true := by simp; omega
    have HE := hid (show (false = true ↔ goodN key m r s) from ⟨fun h => by simp at h, fun h => by have := h.1.2; omega⟩)
    clear h1 h2
    go_enter Tryd.func27, Tryd.ntmps27
    go_wp2
    go_ret
    exact ⟨false, rfl, HE.out, HB1.out⟩
  have d2 : decide ((1152921504606849707 : Int) ≤ (key : Int)) = false := by simp; omega
  by_cases h3 : r = 0
  · have d3 : ((r : Int) == 0) = true := by rw [beq_iff_eq]; omega
    have HE := hid (show (false = true ↔ goodN key m r s) from ⟨fun h => by simp at h, fun h => by have := h.2.1.1; omega⟩)
    clear h1 h2 h3
    go_enter Tryd.func27, Tryd.ntmps27
    go_wp2
    go_ret
    exact ⟨false, rfl, HE.out, HB1.out⟩
  have d3 : ((r : Int) == 0) = false := by rw [beq_eq_false_iff_ne]; omega
  by_cases h4 : 1152921504606849707 ≤ r
  · have d4 : decide ((1152921504606849707 : Int) ≤ (r : Int)) = true := by simp; omega
    have HE := hid (show (false = true ↔ goodN key m r s) from ⟨fun h => by simp at h, fun h => by have := h.2.1.2; omega⟩)
    clear h1 h2 h3 h4
    go_enter Tryd.func27, Tryd.ntmps27
    go_wp2
    go_ret
    exact ⟨false, rfl, HE.out, HB1.out⟩
  have d4 : decide ((1152921504606849707 : Int) ≤ (r : Int)) = false := by simp; omega
  by_cases h5 : 576460752303424853 ≤ s
  · have d5 : decide ((576460752303424853 : Int) ≤ (s : Int)) = true := by simp; omega
    have HE := hid (show (false = true ↔ goodN key m r s) from ⟨fun h => by simp at h, fun h => by have := h.2.2.1; omega⟩)
    clear h1 h2 h3 h4 h5
    go_enter Tryd.func27, Tryd.ntmps27
    go_wp2
    go_ret
    exact ⟨false, rfl, HE.out, HB1.out⟩
  have d5 : decide ((576460752303424853 : Int) ≤ (s : Int)) = false := by simp; omega
  have HH := hid (show (1 ≤ key ∧ key < 1152921504606849707) ∧ (1 ≤ r ∧ r < 1152921504606849707) ∧ s < 576460752303424853 by omega)
  clear h1 h2 h3 h4 h5
  have HP1 := hid (fun w => refPower_order2 key w hk)
  obtain ⟨z, hz⟩ : ∃ z, powQ key = z := ⟨_, rfl⟩
  rw [hz] at HP1
  have HZ := hid hz
  clear hz
  by_cases h6 : z = 1
  · subst h6
    have HC := hid (fun (wx : World) (hx : Below w1.heap.size w1 wx) => refAsk_any r key m mv N wx hr hk (by have := hx.size; omega) (HM1.out.below (hx.mono (by omega))) hlen)
    obtain ⟨c, hc⟩ : ∃ c, askN r key m = c := ⟨_, rfl⟩
    have hcl := askN_lt r key m
    rw [hc] at HC hcl
    obtain ⟨a, ha⟩ : ∃ a, powP 4 s = a := ⟨_, rfl⟩
    obtain ⟨b, hb⟩ : ∃ b, powP key c = b := ⟨_, rfl⟩
    obtain ⟨d, hd⟩ : ∃ d, mulP r b = d := ⟨_, rfl⟩
    have hbl := powP_lt key c
    rw [hb] at hbl
    have HPA := hid (fun w => refPower_four s w hs)
    have HPB := hid (fun w => refPower_p key c w hk (by omega))
    have HPD := hid (fun w => refTimes_p r b w (by omega))
    rw [ha] at HPA
    rw [hb] at HPB
    rw [hd] at HPD
    have HE := hid (show (decide (a = d) = true ↔ goodN key m r s) by
      have h := HH.out
      have hz := HZ.out
      unfold goodN
      rw [decide_eq_true_iff, hc, hb, hd, ha]
      exact ⟨fun e => ⟨h.1, h.2.1, h.2.2, hz, e⟩, fun e => e.2.2.2.2⟩)
    clear hc ha hb hd HZ HH
    go_enter Tryd.func27, Tryd.ntmps27
    go_wp2_with fail
    refine (HP1.out _).mono ?_
    rintro e w4 ⟨rfl, hw4⟩
    obtain rfl := hw4.symm
    go_wp2_with fail
    have g0 : w1.drew.cell? ⟨w.heap.size, 0, none⟩ = some (.int .u64 (r : Int)) := c0
    have g1 : w1.drew.cell? ⟨w.heap.size, 1, none⟩ = some (.int .u64 (s : Int)) := c1
    have HBD : Hid (Below w1.heap.size w1 w1.drew) := hid ((Below.refl _ _).drew)
    go_region_held3 (fun wx => wx.cell? ⟨w.heap.size, 0, none⟩ = some (.int .u64 (r : Int)) ∧ wx.cell? ⟨w.heap.size, 1, none⟩ = some (.int .u64 (s : Int)) ∧ Hid (Below w1.heap.size w1 wx)) (first | assumption | (refine ⟨?_, ?_, ?_⟩ <;> assumption))
      (first
        | (go_at_call_of 53 (Value.int .u64 (s : Int)); refine (HPA.out _).mono ?_; rintro e wa ⟨rfl, rfl⟩)
        | (go_at_call_of 53 (Value.int .u64 (c : Int)); refine (HPB.out _).mono ?_; rintro e wb ⟨rfl, rfl⟩)
        | (go_at_call 55; refine (HPD.out _).mono ?_; rintro e wd ⟨rfl, rfl⟩)
        | (go_at_call 56; refine (HC.out _ (Hid.out ?_)).mono ?_; assumption; rintro e w5 ⟨rfl, hb5⟩; have HB5 : Hid (Below w1.heap.size w1 w5) := hid ((Hid.out HBD).trans hb5); have f0 := (HB5.out.cell (p := ⟨w.heap.size, 0, none⟩) (by show w.heap.size < w1.heap.size; omega)).trans c0; have f1 := (HB5.out.cell (p := ⟨w.heap.size, 1, none⟩) (by show w.heap.size < w1.heap.size; omega)).trans c1; clear hb5))
    all_goals
      go_wp2
      go_ret
      have hfin : (((a : Int) == (d : Int)) = true ↔ goodN key m r s) := by
        rw [beq_iff_eq, Int.ofNat_inj]
        exact decide_eq_true_iff.symm.trans HE.out
      exact ⟨_, rfl, hfin, HB1.out.trans (HB5.out.mono (by omega))⟩
  · have d6 : ((z : Int) != 1) = true := by simp; omega
    have HE := hid (show (false = true ↔ goodN key m r s) by
      refine ⟨fun h => by simp at h, fun h => ?_⟩
      have := HZ.out
      exact absurd (this.symm.trans h.2.2.2.1) h6)
    clear HZ HH HM1
    go_enter Tryd.func27, Tryd.ntmps27
    go_wp2_with fail
    refine (HP1.out _).mono ?_
    rintro e w4 ⟨rfl, hw4⟩
    obtain rfl := hw4.symm
    go_wp2
    go_ret
    exact ⟨false, rfl, HE.out, HB1.out⟩
end Go.Proofs.YtbhghmlachlfkaaDoor
namespace Go.Proofs.YtbhghmlachlfkaaDoor
open Go.RowKit

set_option maxRecDepth 100000 in
set_option maxHeartbeats 1000000 in
theorem refSign_any (l m : List (BitVec 8)) (sv mv : Value) (N : Nat) (w : World) (hN : N ≤ w.heap.size) (hb : Bytes w N sv l) (hm : Bytes w N mv m) (hlen : l.length ≤ 140737488351232) (hlenm : m.length ≤ 140737488351232) :
    Calls Tryd.prog 39 #[sv, mv] w fun e w' => e = .returned (.agg #[.int .u64 (sealR l m : Int), .int .u64 (sealS l m : Int)]) ∧ Below w.heap.size w w' := by
  obtain ⟨oa, cap, rfl, _⟩ := hm.shape
  have hcv := conv_const
  obtain ⟨w0, hw0⟩ : ∃ w0, w.alloc (.cells #[.int .u64 0, .int .u64 0] 49) = w0 := ⟨_, rfl⟩
  have hsz0 : w0.heap.size = w.heap.size + 1 := by rw [← hw0]; simp
  have hb0 : Below w.heap.size w w0 := by rw [← hw0]; exact (Below.refl _ _).alloc (Nat.le_refl _) _
  have hrow0 : Row w0 w.heap.size 49 [.int .u64 0, .int .u64 0] := by rw [← hw0]; exact Row.new _ _ _
  have HS := hid (refSecret_any l sv N w0 (by omega) (hb.below (hb0.mono hN)) hlen)
  have HM := hid (hm.below (hb0.mono hN))
  have HL := hid (hb.below (hb0.mono hN))
  have HB0 := hid hb0
  have HR0 := hid hrow0
  clear hb hm hb0 hrow0
  go_enter Tryd.func39, Tryd.ntmps39
  go_wp2_with fail
  refine HS.out.mono ?_
  rintro e w1 ⟨rfl, hb1⟩
  clear hw0 HS
  have hsx := secretN_lt l
  obtain ⟨x, hx⟩ : ∃ x, secretN l = x := ⟨_, rfl⟩
  rw [hx]
  rw [hx] at hsx
  have HX := hid hx
  clear hx
  have hsz1 := hb1.size
  have HM1 := hid (HM.out.below (hb1.mono (by omega)))
  have HL1 := hid (HL.out.below (hb1.mono (by omega)))
  have HR1 := hid (HR0.out.below hb1 (by omega))
  have HB1 := hid (HB0.out.trans (hb1.mono (by omega)))
  clear hb1 HM HL HR0 HB0
  obtain ⟨w2, hw2⟩ : ∃ w2, w1.alloc (.cells #[Value.int .u8 111, .int .u8 110, .int .u8 99, .int .u8 101] 5 (4, 5)) = w2 := ⟨_, rfl⟩
  have hsz2 : w2.heap.size = w1.heap.size + 1 := by rw [← hw2]; simp
  have hb2 : Below w1.heap.size w1 w2 := by rw [← hw2]; exact (Below.refl _ _).alloc (Nat.le_refl _) _
  have ho : Bytes w2 w2.heap.size (.slice (some ⟨w1.heap.size, 0, none⟩) 4 4) onceB := by rw [hsz2, ← hw2]; exact bytes_new w1 onceB 5 (4, 5) 4 (by decide)
  have HO := hid ho
  have HB2 := hid hb2
  have HE := hid (refEight_any x w2 (by omega))
  rw [hsz2] at HE
  clear ho hb2
  go_wp2_with fail
  refine HE.out.mono ?_
  rintro e w3 ⟨rfl, hrow3, hsz3, hb3⟩
  have hx8 : Bytes w3 w3.heap.size (.slice (some ⟨w1.heap.size + 1, 0, none⟩) 8 8) (be8 x) := row_bytes hrow3 8 (Nat.le_refl _) (be8_length x)
  have ho' : Bytes w3 w3.heap.size (.slice (some ⟨w1.heap.size, 0, none⟩) 4 4) onceB := (HO.out.below (hb3.mono (by omega))).mono (by omega)
  have hb13 : Below w1.heap.size w1 w3 := HB2.out.trans (hb3.mono (by omega))
  have hs : Bytes w3 w3.heap.size (.slice oa m.length cap) m := (HM1.out.below (hb13.mono (by omega))).mono (by omega)
  have hli := lists3 (t := 23) ho' hx8 hs
  have hb4 : Below w3.heap.size w3 (w3.alloc (.cells #[.slice (some ⟨w1.heap.size, 0, none⟩) 4 4, .slice (some ⟨w1.heap.size + 1, 0, none⟩) 8 8, .slice oa m.length cap] 23)) := (Below.refl _ _).alloc (Nat.le_refl _) _
  have hjo := join_any [onceB, be8 x, m] _ _ _ (by simp) hli (by rw [flat_len3]; simp only [be8_length, onceB, List.length_cons, List.length_nil]; omega) (by simp)
  rw [flat3, hsz3] at hjo
  have HJ := hid hjo
  have HB14 := hid (hb13.trans (hb4.mono (by omega)))
  clear hjo hli hs hx8 ho' hrow3 hb3 hb13 hb4 HE HO HB2 hw2
  go_wp2_with fail
  refine HJ.out.mono ?_
  rintro e w5 ⟨v, rfl, hown, hb5⟩
  have hb15 : Below w1.heap.size w1 w5 := HB14.out.trans (hb5.mono (by simp; omega))
  have hsz5 := hb15.size
  have HN := hid (refNumber_any (onceB ++ (be8 x ++ m)) v w5.heap.size w5 (Nat.le_refl _) (ownsRow_bytes hown) (by simp only [List.length_append, be8_length, onceB, List.length_cons, List.length_nil]; omega))
  have HM5 := hid (HM1.out.below (hb15.mono (by omega)))
  have HL5 := hid (HL1.out.below (hb15.mono (by omega)))
  have HR5 := hid (HR1.out.below hb15 (by omega))
  have HB5 := hid (HB1.out.trans (hb15.mono (by omega)))
  have hz := shaN_lt (onceB ++ (be8 x ++ m))
  have hex : onceN l m = 1 + shaN (onceB ++ (be8 x ++ m)) % 576460752303424852 := by unfold onceN; rw [HX.out]; rfl
  obtain ⟨z, hz0⟩ : ∃ z, shaN (onceB ++ (be8 x ++ m)) = z := ⟨_, rfl⟩
  rw [hz0] at HN hz hex
  obtain ⟨r, hr⟩ : ∃ r, z % 576460752303424852 = r := ⟨_, rfl⟩
  have e1 : (z : Int) % 576460752303424852 = (r : Int) := by omega
  rw [hr] at hex
  have hrl : r < 576460752303424852 := by omega
  obtain ⟨kk, hkk⟩ : ∃ kk, onceN l m = kk := ⟨_, rfl⟩
  have e2 : IntKind.u64.wrap (1 + (r : Int)) = (kk : Int) := by rw [← hkk, hex]; exact w64_add 1 r (by omega)
  have hkl : kk < 576460752303424853 := by rw [← hkk]; exact onceN_lt l m
  have HKK := hid hkk
  clear hown hb5 hb15 hz0 hr hex hkk HJ HB14 HM1 HL1 HR1 HB1
  go_wp2_with fail
  refine HN.out.mono ?_
  rintro e w6 ⟨rfl, hb6⟩
  have hsz6 := hb6.size
  have HM6 := hid (HM5.out.below (hb6.mono (by omega)))
  have HL6 := hid (HL5.out.below (hb6.mono (by omega)))
  have HR6 := hid (HR5.out.below hb6 (by omega))
  have HB6 := hid (HB5.out.trans (hb6.mono (by omega)))
  have HP1 := hid (fun w => refPower_four kk w (by omega))
  rw [show powP 4 kk = sealR l m by unfold sealR; rw [HKK.out]] at HP1
  have HKEY := hid (refKey_any l sv N w6 (by omega) HL6.out hlen)
  clear hb6 HM5 HL5 HR5 HB5 HN
  go_wp2_with fail
  refine (HP1.out _).mono ?_
  rintro e w7 ⟨rfl, hw7⟩
  obtain rfl := hw7.symm
  go_wp2_with fail
  refine HKEY.out.mono ?_
  rintro e w8 ⟨rfl, hb8⟩
  have hsz8 := hb8.size
  have HR8 := hid (HR6.out.below hb8 (by omega))
  have HB8 := hid (HB6.out.trans (hb8.mono (by omega)))
  have HA := hid (refAsk_any (sealR l m) (keyN l) m (.slice oa m.length cap) N w8 (by have := sealR_lt l m; omega) (by have := keyN_lt l; omega) (by omega) (HM6.out.below (hb8.mono (by omega))) hlenm)
  rw [show askN (sealR l m) (keyN l) m = sealE l m from rfl] at HA
  clear hb8 HM6 HL6 HR6 HB6 HKEY HP1
  go_wp2_with fail
  refine HA.out.mono ?_
  rintro e w9 ⟨rfl, hb9⟩
  have hsz9 := hb9.size
  have HR9 := hid (HR8.out.below hb9 (by omega))
  have HB9 := hid (HB8.out.trans (hb9.mono (by omega)))
  have HT := hid (fun w => refTimes_q (sealE l m) x w (by omega))
  have hml := mulQ_lt (sealE l m) x
  obtain ⟨s1, hs1⟩ : ∃ s1, mulQ (sealE l m) x + kk = s1 := ⟨_, rfl⟩
  have g1 : IntKind.u64.wrap ((mulQ (sealE l m) x : Int) + (kk : Int)) = (s1 : Int) := by rw [w64_add _ _ (by omega), hs1]
  have g2 : (s1 : Int) % 576460752303424853 = (sealS l m : Int) := by
    have : sealS l m = s1 % 576460752303424853 := by rw [← hs1, ← HX.out, ← HKK.out, Nat.add_comm]; rfl
    rw [this]; omega
  have c0 : w9.cell? ⟨w.heap.size, 0, none⟩ = some (.int .u64 0) := HR9.out.cell 0
  have c1 : w9.cell? ⟨w.heap.size, 1, none⟩ = some (.int .u64 0) := HR9.out.cell 1
  have z0 : w9.frozen? ⟨w.heap.size, 0, none⟩ = false := HR9.out.frozen 0
  have z1 : w9.frozen? ⟨w.heap.size, 1, none⟩ = false := HR9.out.frozen 1
  clear hb9 HR8 HB8 HA HX HKK
  go_wp2_with fail
  refine (HT.out _).mono ?_
  rintro e w10 ⟨rfl, hw10⟩
  obtain rfl := hw10.symm
  go_wp2
  have r2 := (HR9.out.set 0 (.int .u64 (sealR l m : Int))).set 1 (.int .u64 (sealS l m : Int))
  have d0 := r2.cell 0
  have d1 := r2.cell 1
  refine bodyPost_ret (v := .agg #[.int .u64 (sealR l m : Int), .int .u64 (sealS l m : Int)]) (by simp [results, Tryd.results39, go_sem, d0, d1]) rfl ⟨rfl, ?_⟩
  exact (HB9.out.setCell (Nat.le_refl _) _).setCell (Nat.le_refl _) _
end Go.Proofs.YtbhghmlachlfkaaDoor
