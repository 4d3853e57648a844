/-
  ShaParts answers true of every list of lists that are together not too long, and turns nothing that was there.
-/
import Derived.Test.YtcedgmnpapbkgaaDoorShaPartsC
import Derived.Test.YtcedgmnpapbkgaaDoorShaAlive
import Derived.Laws.AppendOwnNone
namespace Go.Proofs.YtcedgmnpapbkgaaDoor
open Go.RowKit

/-- a slice that reads as l, as a source of cells -/
theorem bytes_source {w : World} {N : Nat} {x : Value} {l : List (BitVec 8)} (h : Bytes w N x l) :
    (x = .slice none 0 0 ∧ l = []) ∨ ∃ ad cap, x = .slice (some ad) l.length cap ∧ ∀ j v, (l.map V)[j]? = some v → w.cell? (ad.add j) = some v := by
  rcases h with h | ⟨a, cap, rfl, rfl⟩ | ⟨b, off, cap, rfl, _, hc⟩
  · exact .inl h
  · exact .inr ⟨a, cap, rfl, fun j v hv => by simp at hv⟩
  · refine .inr ⟨_, cap, rfl, fun j v hv => ?_⟩
    have hj : j < l.length := by have := (List.getElem?_eq_some_iff.1 hv).1; simpa using this
    have hadd : (⟨b, off, none⟩ : Addr).add j = ⟨b, off + j, none⟩ := by unfold Addr.add; split <;> simp_all
    rw [hadd, (hc j hj).2, ← hv, List.getElem?_map, getD_some l j 0 hj]
    rfl

set_option maxRecDepth 100000 in
set_option maxHeartbeats 1000000 in
theorem partsLaw_any (ls : List (List (BitVec 8))) (sv : Value) (N : Nat) (w : World) (hN : N ≤ w.heap.size) (hb : Lists w N sv ls) (hK : tableAt w) (hlen : ls.flatten.length < 1099511627776) (hn : ls.length < 1099511627776) :
    Calls Tryd.prog 4 #[sv] w fun e w' => e = .returned (.bool true) ∧ Below w.heap.size w w' := by
  obtain ⟨i0, hi0, hz0, hz1, hz2⟩ := info_parts info_u8
  obtain ⟨oa, cap, rfl, hcap⟩ := hb.shape
  have HBY := hid hb
  have HK := hid hK
  have HLEN := hid hlen
  have HNN := hid hn
  clear hb hK hlen
  go_enter Tryd.func4, Tryd.ntmps4
  go_wp2_with fail
  refine (alive_any _ HK.out).mono ?_
  rintro e w1 ⟨rfl, hb1⟩
  have hsz1 := hb1.size
  have HB1 := hid hb1
  clear hb1
  generalize hn0 : ls.length = n at *
  have HN0 := hid hn0
  clear hn0
  go_wp2_with fail
  go_loopw [3, 10] (fun v i wr => ∃ k : Nat, k ≤ n ∧ i = .int .i64 k ∧ wr.ownsRow w1.heap.size 5 1 v (ls.take k).flatten.length ((ls.take k).flatten.map V) ∧ Below w1.heap.size w1 wr) (fun _ i _ => n - (intOf i).toNat)
  case atStart => exact ⟨0, by omega, rfl, World.ownsRow_nil _ _ _ _, Below.refl _ _⟩
  case round =>
    obtain ⟨k, hk, rfl, hown, hbe⟩ := hrel
    have hszr := hbe.size
    have hbelr : Below w.heap.size w wr := HB1.out.trans (hbe.mono hsz1)
    by_cases hlt : k < n
    · have h1 : Lists w N (.slice oa ls.length cap) ls := by rw [HN0.out]; exact HBY.out
      obtain ⟨b, off, rfl, hc⟩ := h1.some (by rw [HN0.out]; omega)
      obtain ⟨hbN, x, hx, hbx⟩ := hc k (by rw [HN0.out]; exact hlt)
      have hxr : wr.cell? ⟨b, off + k, none⟩ = some x := (hbelr.cell (by show b < w.heap.size; omega)).trans hx
      have hfl := flatten_take_succ ls k (by rw [HN0.out]; exact hlt)
      have hle := flatten_take_le ls (k + 1)
      have hbxr := bytes_source (hbx.below (hbelr.mono hN))
      have hlt' : (k : Int) < (n : Int) := by omega
      have HO := hid hown
      have HB := hid hbe
      have HFL := hid hfl
      have HLE := hid hle
      clear hown hbe hfl hle hx hbx hc h1 hbelr
      rcases hbxr with ⟨rfl, hnil⟩ | ⟨ad, c, rfl, hsrc⟩
      · have HNIL := hid hnil
        clear hnil
        go_wp2_with (at_builtin; refine wpList_append_own_none rfl (.tmp 14) (.tmp 15) 22 rfl w1.heap.size 5 i0 1 Tryd.underlying22 hi0 _ _ _ rfl HO.out rfl ?_)
        go_roundw
        case rel =>
          refine ⟨k + 1, by omega, by go_num, ?_, HB.out⟩
          rw [HFL.out, HNIL.out, List.append_nil]; exact HO.out
        case measure => simp [intOf]; omega
      · have hm : (ls.take k).flatten.length + (ls.getD k []).length < 1099511627776 := by
          have h2 := HLE.out; have h3 := HLEN.out; rw [HFL.out, List.length_append] at h2; omega
        have HSRC := hid hsrc
        have HM := hid hm
        clear hsrc hm
        obtain ⟨mm, hmm⟩ : ∃ mm, (ls.getD k []).length = mm := ⟨_, rfl⟩
        have HMM := hid hmm
        rw [hmm] at hxr
        clear hmm
        go_wp2_with (at_builtin; refine wpList_append_own _ rfl (.tmp 14) (.tmp 15) 22 rfl w1.heap.size 5 i0 (.int .u8 0) 1 1 Tryd.underlying22 hi0 hz0 hz1 hz2 rfl (by decide) _ _ _ rfl HO.out ad mm c ((ls.getD k []).map V) rfl (by rw [List.length_map, HMM.out, Nat.mul_one]) HSRC.out (fun y hy => by obtain ⟨z, _, rfl⟩ := List.mem_map.1 hy; rfl) (by have h4 := HM.out; have h5 := HMM.out; unfold maxLen; omega) (by have h4 := HM.out; have h5 := HMM.out; omega) hszr ?_; intro v' w3 hown' hgrow hnil)
        go_roundw
        case rel =>
          refine ⟨k + 1, by omega, by go_num, ?_, HB.out.grown hgrow hszr (fun j hj => (HO.out.lt j hj).1)⟩
          rw [HFL.out, List.length_append, List.map_append, HMM.out]; exact hown'
        case measure => simp [intOf]; omega
    · have hkn : k = n := by omega
      subst hkn
      have hall : ls.take k = ls := List.take_of_length_le (by rw [HN0.out]; omega)
      rw [hall] at hown
      have hparts := parts_any ls (.slice oa k cap) N wr (by omega) (HBY.out.below (hbelr.mono hN)) (HK.out.below hbelr HK.out.lt) (by have := HLEN.out; omega) (by have := HN0.out; have h2 := HNN.out; omega)
      have HP := hid hparts
      have HO := hid hown
      have HBR := hid hbelr
      clear hparts hown hbe hbelr hall
      go_wp2_with fail
      refine HP.out.mono ?_
      rintro e w4 ⟨v4, rfl, hown4, hb4⟩
      have hsz4 := hb4.size
      have hbel4 : Below w.heap.size w w4 := HBR.out.trans (hb4.mono (by omega))
      have hko : w4.ownsRow w1.heap.size 5 1 _ ls.flatten.length (ls.flatten.map V) := HO.out.kept (grown_below (r := none) hb4) (by cases hv : Value.ownBlock _ <;> simp)
      have hsum := sum_any ls.flatten _ w4.heap.size w4 (Nat.le_refl _) (ownsRow_bytes hko) (HK.out.below hbel4 HK.out.lt) (by have := HLEN.out; omega)
      have HS := hid hsum
      have HO4 := hid hown4
      have HB4 := hid hbel4
      clear hsum hown4 hbel4 hko hb4
      go_wp2_with fail
      refine HS.out.mono ?_
      rintro e w5 ⟨v5, rfl, hown5, hb5⟩
      have hsz5 := hb5.size
      have hsame := same_any (sha ls.flatten) v4 v5 _ _ w5 (ownsRow_bytes (HO4.out.kept (grown_below (r := none) hb5) (by cases hv : v4.ownBlock <;> simp))) (ownsRow_bytes hown5) (by rw [sha_length]; omega)
      have HSAME := hid hsame
      have HB5 := hid hb5
      clear hsame hown5 hb5
      go_wp2_with fail
      refine HSAME.out.mono ?_
      rintro e w6 ⟨rfl, n6, rfl⟩
      go_wp2
      go_ret
      exact ⟨rfl, HB4.out.trans ((HB5.out.mono (by omega)).trans ⟨rfl, rfl, rfl, Nat.le_refl _, fun _ _ => rfl⟩)⟩
end Go.Proofs.YtcedgmnpapbkgaaDoor
