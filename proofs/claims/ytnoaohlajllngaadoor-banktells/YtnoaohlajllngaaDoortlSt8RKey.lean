/-
  The document's From, Digits and Key.
-/
import Derived.Test.YtnoaohlajllngaaDoortlStApp
import Derived.Test.YtnoaohlajllngaaDoortlStMem
import Derived.Test.YtnoaohlajllngaaDoortlSameB
import Derived.Deep.RegionHeld3
import Derived.Deep.RegionWith
namespace Go.Proofs.YtnoaohlajllngaaDoor
open Go.RowKit

theorem one_new (w : World) (b : BitVec 8) : Bytes (w.alloc (.cells #[.int .u8 (b8 b)] 5)) (w.heap.size + 1) (.slice (some ⟨w.heap.size, 0, none⟩) 1 1) [b] := by
  refine .inr (.inr ⟨w.heap.size, 0, 1, rfl, by simp, fun i hi => ⟨by omega, ?_⟩⟩)
  obtain rfl : i = 0 := by simpa using hi
  rw [Row.cell (Row.new w 5 [.int .u8 (b8 b)])]
  rfl
end Go.Proofs.YtnoaohlajllngaaDoor
namespace Go.Proofs.YtnoaohlajllngaaDoor
open Go.RowKit

set_option maxRecDepth 100000 in
set_option maxHeartbeats 2000000 in
theorem refFrom_any (lo : Int) (ns : List Int) (g n : Nat) (w : World) (hr : Row w g 3 (ns.map (Value.int .i64))) (hn : n = ns.length) (hl : n ≤ 10) :
    Calls Tryd.prog 68 #[.int .i64 lo, .slice (some ⟨g, 0, none⟩) n n] w fun e w' => e = .returned (.bool (ns.all (fromB lo))) ∧ w' = w := by
  have HR := hid hr
  have HN := hid hn
  clear hr hn
  go_enter Tryd.func68, Tryd.ntmps68
  go_wp2_with fail
  go_loopw [9] (fun i wr => ∃ k : Nat, k ≤ n ∧ i = .int .i64 (k : Int) ∧ wr = w ∧ Hid (ns.all (fromB lo) = (ns.drop k).all (fromB lo))) (fun i _ => n - (intOf i).toNat)
  case atStart => exact ⟨0, by omega, rfl, rfl, hid (by simp)⟩
  case round =>
    obtain ⟨k, hk', rfl, rfl, HI⟩ := hrel
    by_cases hlt : k < n
    · obtain ⟨x, hx⟩ : ∃ x, ns[k]? = some x := ⟨ns[k]'(by rw [← HN.out]; exact hlt), List.getElem?_eq_getElem _⟩
      have hlt' : (k : Int) < (n : Int) := by omega
      have c0 : wr.cell? ⟨g, k, none⟩ = some (.int .i64 x) := by rw [HR.out.cell, List.getElem?_map, hx]; rfl
      have HX := hid (show (ns.drop k).all (fromB lo) = (fromB lo x && (ns.drop (k + 1)).all (fromB lo)) by
        obtain ⟨h1, h2⟩ := List.getElem?_eq_some_iff.1 hx
        rw [List.drop_eq_getElem_cons h1, h2, List.all_cons])
      clear hx
      by_cases q1 : x < lo
      · have e1 : decide (x < lo) = true := by simpa using q1
        have HF := hid (show fromB lo x = false by unfold fromB; simp; omega)
        clear q1
        go_wp2
        go_ret
        exact ⟨by rw [HI.out, HX.out, HF.out]; rfl, rfl⟩
      · have e1 : decide (x < lo) = false := by simpa using q1
        by_cases q2 : 1000000000000 < x
        · have e2 : decide (1000000000000 < x) = true := by simpa using q2
          have HF := hid (show fromB lo x = false by unfold fromB; simp; omega)
          clear q1 q2
          go_wp2
          go_ret
          exact ⟨by rw [HI.out, HX.out, HF.out]; rfl, rfl⟩
        · have e2 : decide (1000000000000 < x) = false := by simpa using q2
          have HF := hid (show fromB lo x = true by unfold fromB; simp; omega)
          clear q1 q2
          go_wp2
          go_roundw
          case rel => exact ⟨k + 1, by omega, by go_num, by first | trivial | rfl, hid (by rw [HI.out, HX.out, HF.out]; rfl)⟩
          case measure => simp [intOf]; omega
    · have hge : decide ((k : Int) < (n : Int)) = false := by simp; omega
      have HE := hid (show (ns.drop k).all (fromB lo) = true by rw [List.drop_eq_nil_of_le (by rw [← HN.out]; omega)]; rfl)
      go_wp2
      go_ret
      exact ⟨by rw [HI.out, HE.out]; rfl, rfl⟩
theorem lets_append (a b : ByteArray) : lets (a ++ b) = lets a ++ lets b := by
  unfold lets
  simp
theorem lets_str (l : List (BitVec 8)) : lets (strOfNums (l.map b8)) = l := by
  unfold lets strOfNums
  simp only [List.map_map]
  conv => rhs; rw [← List.map_id l]
  apply List.map_congr_left
  intro x _
  simp [b8]
set_option maxRecDepth 100000 in
set_option maxHeartbeats 2000000 in
theorem refDigits_any : ∀ (n : Nat), n ≤ 9223372036854775807 → ∀ (w : World), Calls Tryd.prog 35 #[.int .i64 (n : Int)] w fun e w' => ∃ s, e = .returned (.string s) ∧ lets s = digN n ∧ Below w.heap.size w w' := by
  intro n
  induction n using Nat.strongRecOn with
  | _ n ih =>
    intro hn w
    by_cases h : n < 10
    · have h' : (n : Int) < 10 := by omega
      have HD := hid (digN_small h)
      have ho := one_new w (BitVec.ofNat 8 (48 + n))
      have hb8 : b8 (BitVec.ofNat 8 (48 + n)) = 48 + (n : Int) := by unfold b8; rw [BitVec.toNat_ofNat]; omega
      have hcv := conv_str ho
      obtain ⟨s, hs⟩ : ∃ s, strOfNums (List.map b8 [BitVec.ofNat 8 (48 + n)]) = s := ⟨_, rfl⟩
      have HS := hid (show lets s = digN n by rw [← hs, HD.out]; exact lets_str _)
      rw [hs, hb8] at hcv
      have HB := hid (show Below w.heap.size w (w.alloc (.cells #[.int .u8 (48 + (n : Int))] 5)) from (Below.refl _ _).alloc (Nat.le_refl _) _)
      clear ih hs hb8 ho HD h
      go_enter Tryd.func35, Tryd.ntmps35
      go_wp2
      go_ret
      exact ⟨s, rfl, HS.out, HB.out⟩
    · have h' : decide ((n : Int) < 10) = false := by simp; omega
      have HD := hid (digN_big h)
      have HD2 := hid (digN_small (show n % 10 < 10 by omega))
      have HC1 := hid (ih (n / 10) (by omega) (by omega))
      have HC2 := hid (ih (n % 10) (by omega) (by omega))
      have q1 : ((n / 10 : Nat) : Int) = (n : Int) / 10 := by omega
      have q2 : ((n % 10 : Nat) : Int) = (n : Int) % 10 := by omega
      rw [q1] at HC1
      rw [q2] at HC2
      clear ih q1 q2
      go_enter Tryd.func35, Tryd.ntmps35
      go_wp2_with fail
      refine (HC1.out w).mono ?_
      rintro e w1 ⟨s1, rfl, hs1, hb1⟩
      have HS1 := hid hs1
      have HB1 := hid hb1
      clear hs1 hb1
      go_wp2_with fail
      refine (HC2.out w1).mono ?_
      rintro e w2 ⟨s2, rfl, hs2, hb2⟩
      have HS2 := hid hs2
      have HB2 := hid hb2
      have hz1 : s1.size ≤ 19 := by rw [← lets_length, HS1.out]; exact digN_len 18 _ (by omega)
      have hz2 : s2.size ≤ 19 := by rw [← lets_length, HS2.out]; exact digN_len 18 _ (by omega)
      have hz : ¬ (9223372036854775807 < s1.size + s2.size) := by omega
      clear hs2 hb2
      go_wp2
      go_ret
      exact ⟨_, rfl, by rw [lets_append, HS1.out, HS2.out, HD.out, HD2.out], HB1.out.trans (HB2.out.mono HB1.out.size)⟩
end Go.Proofs.YtnoaohlajllngaaDoor
