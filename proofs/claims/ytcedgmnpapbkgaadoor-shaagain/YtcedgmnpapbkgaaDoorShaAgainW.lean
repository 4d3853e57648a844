/-
  ShaAgain answers true of every argument, and turns nothing that was there.
-/
import Derived.Test.YtcedgmnpapbkgaaDoorShaAlive
namespace Go.Proofs.YtcedgmnpapbkgaaDoor
open Go.RowKit

theorem ownsRow_slice {w : World} {base e n : Nat} {v : Value} {xs : List Value} (h : w.ownsRow base e 1 v n xs) (hn : 0 < n) :
    ∃ g cap, v = .slice (some ⟨g, 0, none⟩) n cap ∧ base ≤ g ∧ n ≤ cap ∧ g < w.heap.size ∧ ∀ j, j < n → w.cell? ⟨g, j, none⟩ = xs[j]? ∧ w.frozen? ⟨g, j, none⟩ = false := by
  obtain ⟨h1, h2⟩ := h
  rcases h2 with ⟨_, h3⟩ | ⟨g, cap, cur, rfl, hb, hg, hc, _, hs, hx⟩
  · omega
  · refine ⟨g, cap, rfl, hb, hc, (Array.getElem?_eq_some_iff.1 hg).1, fun j hj => ⟨?_, frozen_of_row w g j cur e hg⟩⟩
    rw [cell_of_row w g j cur _ _ hg, ← hx, Nat.mul_one, List.getElem?_take, if_pos hj, Array.getElem?_toList]

set_option maxRecDepth 100000 in
set_option maxHeartbeats 1000000 in
theorem again_any (l : List (BitVec 8)) (sv : Value) (N : Nat) (w : World) (hN : N ≤ w.heap.size) (hb : Bytes w N sv l) (hK : tableAt w) (hlen : l.length < 2305843009213693952) :
    Calls Tryd.prog 6 #[sv] w fun e w' => e = .returned (.bool true) ∧ Below w.heap.size w w' := by
  obtain ⟨i0, hi0, hz0, hz1, hz2⟩ := info_parts info_u8
  have HBY := hid hb
  have HK := hid hK
  have HLEN := hid hlen
  clear hb hK hlen
  go_enter Tryd.func6, Tryd.ntmps6
  go_wp2_with fail
  refine (alive_any _ HK.out).mono ?_
  rintro e w1 ⟨rfl, hb1⟩
  have hsz1 := hb1.size
  have hsum := sum_any l sv N w1 (by omega) (HBY.out.below (hb1.mono hN)) (HK.out.below hb1 HK.out.lt) HLEN.out
  have HSUM := hid hsum
  have HB1 := hid hb1
  clear hsum hb1
  go_wp2_with fail
  refine HSUM.out.mono ?_
  rintro e w2 ⟨v, rfl, hown, hb2⟩
  have hsz2 := hb2.size
  obtain ⟨g1, cap1, rfl, hg1, hc1, hgl1, hcell⟩ := ownsRow_slice hown (by omega)
  have hbel2 : Below w.heap.size w w2 := HB1.out.trans (hb2.mono hsz1)
  have hby2 : Bytes w2 N sv l := HBY.out.below (hbel2.mono hN)
  have HC := hid hcell
  have HBY2 := hid hby2
  have HB2 := hid hbel2
  have HK2 := hid (HK.out.below hbel2 HK.out.lt)
  clear hown hb2 hcell hby2 hbel2 HSUM
  have hmt : ∀ w : World, (w.alloc (.cells #[] 5)).ownsRow w.heap.size 5 1 (.slice (some ⟨w.heap.size, 0, none⟩) 0 0) 0 [] := fun w => World.ownsRow_made w #[] 0 (Nat.le_refl _) (by decide) rfl
  have hsl := sha_length l
  have hc32 : ∀ j x, ((sha l).map V)[j]? = some x → (w2.alloc (.cells #[] 5)).cell? ((⟨g1, 0, none⟩ : Addr).add j) = some x := fun j x hx => by
    have hj : j < 32 := by have := (List.getElem?_eq_some_iff.1 hx).1; simpa [hsl] using this
    have hadd : (⟨g1, 0, none⟩ : Addr).add j = ⟨g1, j, none⟩ := by unfold Addr.add; split <;> simp_all
    rw [hadd, World.cell?_alloc_past _ _ _ hgl1, (HC.out j hj).1, hx]
  have HMT := hid (hmt w2)
  have HC32 := hid hc32
  have HSL := hid hsl
  clear hmt hc32 hsl
  go_wp2_with (at_builtin; refine wpList_append_own _ rfl (.tmp 10) (.tmp 11) 22 rfl w2.heap.size 5 i0 (.int .u8 0) 1 1 Tryd.underlying22 hi0 hz0 hz1 hz2 rfl (by decide) _ _ _ rfl HMT.out ⟨g1, 0, none⟩ 32 cap1 ((sha l).map V) rfl (by simp [HSL.out]) HC32.out (fun x hx => by obtain ⟨y, _, rfl⟩ := List.mem_map.1 hx; rfl) (by unfold maxLen; omega) (by omega) (by simp) ?_; intro v' w3 hown' hgrow hnil)
  simp only [Nat.zero_add, List.nil_append] at hown'
  obtain ⟨g2, cap2, rfl, hg2, hc2, hgl2, _⟩ := ownsRow_slice hown' (by omega)
  have hbel3 : Below w2.heap.size w2 w3 := ((Below.refl _ _).alloc (Nat.le_refl _) _).grown hgrow (by simp) (fun k hk => by have h : w2.heap.size = k := Option.some.inj hk; omega)
  have hsz3 := hbel3.size
  have hc3 : ∀ j, j < 32 → w3.cell? ⟨g1, j, none⟩ = some (.int .u8 (b8 ((sha l).getD j 0))) ∧ w3.frozen? ⟨g1, j, none⟩ = false := fun j hj => by
    refine ⟨?_, (hbel3.frozen hgl1).trans (HC.out j hj).2⟩
    rw [hbel3.cell hgl1, (HC.out j hj).1, List.getElem?_map, getD_some _ j 0 (by rw [HSL.out]; exact hj)]
    rfl
  have HC3 := hid hc3
  have HO := hid hown'
  have HB3 := hid hbel3
  clear hc3 hown' hbel3 hgrow hnil HC HC32 HMT hi0 hz0 hz1 hz2
  go_loopw [15] (fun i wr => ∃ k : Nat, k ≤ 32 ∧ i = .int .i64 k ∧ w3.grownBy wr (some g1) ∧ ∀ j, k ≤ j → j < 32 → wr.cell? ⟨g1, j, none⟩ = some (.int .u8 (b8 ((sha l).getD j 0))) ∧ wr.frozen? ⟨g1, j, none⟩ = false) (fun i _ => 32 - (intOf i).toNat)
  case atStart => exact ⟨0, by omega, rfl, grown_refl _ _, fun j _ hj => HC3.out j hj⟩
  case round =>
    obtain ⟨k, hk, rfl, hgr, hcr⟩ := hrel
    by_cases hlt : k < 32
    · obtain ⟨dk, fk⟩ := hcr k (Nat.le_refl _) hlt
      obtain ⟨x, hx⟩ : ∃ x, (sha l).getD k 0 = x := ⟨_, rfl⟩
      rw [hx] at dk
      have HG := hid hgr
      have HCR := hid hcr
      clear hgr hcr hx
      have hlt' : (k : Int) < 32 := by omega
      go_wp2
      go_roundw
      case rel =>
        refine ⟨k + 1, by omega, by go_num, grown_trans HG.out (grown_set _ _ _ _), fun j hj hj2 => ?_⟩
        have h := HCR.out j (by omega) hj2
        refine ⟨?_, ?_⟩
        · rw [World.cell?_setCell_other _ _ _ _ (by intro e; injection e with _ e2; omega)]; exact h.1
        · rw [World.frozen?_setCell]; exact h.2
      case measure => simp [intOf]; omega
    · have HG := hid hgr
      have hszr := hgr.size
      have hown4 := HO.out.kept hgr (by right; intro h; have h2 : g2 = g1 := Option.some.inj h; omega)
      have hbelr : Below w.heap.size w wr := HB2.out.trans ((HB3.out.mono (by omega)).trans (below_grown hgr (by omega) (by omega)))
      have hsum2 := sum_any l sv N wr (by omega) (HBY.out.below (hbelr.mono hN)) (HK.out.below hbelr HK.out.lt) HLEN.out
      have HS2 := hid hsum2
      have HO4 := hid hown4
      have HBR := hid hbelr
      clear hsum2 hown4 hbelr hgr hcr
      go_wp2_with fail
      refine HS2.out.mono ?_
      rintro e w5 ⟨v5, rfl, hown5, hb5⟩
      have hsz5 := hb5.size
      have hby5 := ownsRow_bytes hown5
      have hby4 := ownsRow_bytes (HO4.out.kept (grown_below (r := none) hb5) (by right; simp [Value.ownBlock]))
      have hsame := same_any (sha l) v5 _ _ _ w5 hby5 hby4 (by rw [sha_length]; omega)
      have HSAME := hid hsame
      have HB5 := hid hb5
      clear hown5 hb5 hby5 hby4 hsame
      go_wp2_with fail
      refine HSAME.out.mono ?_
      rintro e w6 ⟨rfl, n6, rfl⟩
      go_wp2
      go_ret
      exact ⟨rfl, HBR.out.trans ((HB5.out.mono (by omega)).trans ⟨rfl, rfl, rfl, Nat.le_refl _, fun _ _ => rfl⟩)⟩
end Go.Proofs.YtcedgmnpapbkgaaDoor
