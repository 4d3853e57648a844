/-
  What package book's tree answers: the digest of pairs, by halves.
-/
import Derived.Test.YtjfhhlgblmjonaaDoorBookLeaf
import Derived.Test.YtjfhhlgblmjonaaDoorBookSplit
import Derived.Test.YtjfhhlgblmjonaaDoorRef4B
import Derived.Test.YtjfhhlgblmjonaaDoorShaSum
import Derived.Deep.RegionWith
namespace Go.Proofs.YtjfhhlgblmjonaaDoor
open Go.RowKit

theorem tableAt.past {w w' : World} (h : tableAt w) (hg : Below w.heap.size w w') : tableAt w' := h.below hg h.lt
theorem sumC (l : List (BitVec 8)) (sv : Value) (N : Nat) (w : World) (hN : N ≤ w.heap.size) (hb : Bytes w N sv l) (hK : tableAt w) (hlen : l.length ≤ 1000000) :
    Calls Tryd.prog 23 #[sv] w fun e w' => ∃ oa cap, e = .returned (.slice oa 32 cap) ∧ OwnB w' w.heap.size (.slice oa 32 cap) (sha l) ∧ Below w.heap.size w w' := by
  refine (sum_any l sv N w hN hb hK (by omega)).mono ?_
  rintro e w' ⟨v, rfl, h1, h2⟩
  have h3 : OwnB w' w.heap.size v (sha l) := by unfold OwnB; rw [sha_length]; exact h1
  obtain ⟨oa, cap, rfl, _⟩ := h3.shape
  rw [sha_length] at h3 ⊢
  exact ⟨oa, cap, rfl, h3, h2⟩
set_option maxRecDepth 100000 in
set_option maxHeartbeats 2000000 in
theorem tree_any (n : Nat) : ∀ (ps : List PrV) (sv : Value) (N M : Nat) (w : World), ps.length ≤ n → tableAt w → N ≤ w.heap.size → M ≤ w.heap.size → SrcPr w M sv ps → (∀ q ∈ ps, q.ok w N) → (∀ q ∈ ps, q.short) → ps.length ≤ 256 →
    Calls Tryd.prog 38 #[sv] w fun e w' => ∃ oa nv cap, e = .returned (.slice oa nv cap) ∧ OwnB w' w.heap.size (.slice oa nv cap) (treeD (ps.map (·.p))) ∧ Below w.heap.size w w' := by
  induction n using Nat.strongRecOn with
  | _ n ih =>
    intro ps sv N M w hn hT hN hM hs hok hsh hlen
    obtain ⟨oa, ca, rfl, hca⟩ := hs.shape
    by_cases h0 : ps.length = 0
    · obtain rfl := List.length_eq_zero_iff.1 h0
      clear hs hok hsh ih hca h0
      go_enter Tryd.func38, Tryd.ntmps38
      go_wp2
      go_ret
      exact ⟨_, _, _, rfl, by rw [List.map_nil, treeD_nil]; exact OwnB.nil _ _, Below.refl _ _⟩
    · by_cases h1 : ps.length = 1
      · obtain ⟨q, rfl⟩ := List.length_eq_one_iff.1 h1
        obtain ⟨b, o, rfl, hc⟩ := hs.some (by simp)
        obtain ⟨_, d0, d1⟩ := hc 0 q rfl
        have hq := hok q (by simp)
        have hqs := hsh q (by simp)
        obtain ⟨o1, c1, e1, _⟩ := hq.1.shape
        obtain ⟨o2, c2, e2, _⟩ := hq.2.shape
        have HLF := hid (pairBytes_any q.p.key q.p.val q.k q.v N w hN hq.1 hq.2 hqs.1 hqs.2)
        have HQS := hid hqs
        have HT := hid hT
        obtain ⟨p, qk, qv⟩ := q
        simp only at d0 d1 e1 e2 HLF
        subst e1
        subst e2
        have d0' : w.cell? ⟨b, o, none⟩ = some (.slice o1 p.key.length c1) := by simpa using d0
        have d1' : w.cell? ⟨b, o + 1, none⟩ = some (.slice o2 p.val.length c2) := by simpa using d1
        clear hc d0 d1 hq hqs hok hsh hs ih h0 h1 hca hT
        go_enter Tryd.func38, Tryd.ntmps38
        go_wp2_with fail
        refine HLF.out.mono ?_
        rintro e w2 ⟨o3, n3, c3, rfl, hown3, hb3⟩
        have HB3 := hid hb3
        have HS := hid (sumC _ _ w2.heap.size w2 (Nat.le_refl _) hown3.bytes (HT.out.past hb3) (by have := HQS.out; simp [fourB]; unfold PrV.short at this; simp only at this; omega))
        have HSZ := hid (show w.heap.size ≤ w2.heap.size from hb3.size)
        clear hown3 hb3
        go_wp2_with fail
        refine HS.out.mono ?_
        rintro e w4 ⟨o4, c4, rfl, hown4, hb4⟩
        have HO4 := hid (hown4.mono HSZ.out)
        have HB4 := hid (HB3.out.trans (hb4.mono HSZ.out))
        clear hown4 hb4
        go_wp2
        go_ret
        exact ⟨_, _, _, rfl, by rw [List.map_cons, List.map_nil, treeD_one]; exact HO4.out, HB4.out⟩
      · generalize hL : ps.length = L at *
        obtain ⟨h, hh⟩ : ∃ h, halfN L = h := ⟨_, rfl⟩
        have hhl := halfN_lt L (by omega)
        rw [hh] at hhl
        obtain ⟨v24, hsl1, hs1⟩ := src_to hs .i64 h (by omega)
        obtain ⟨v28, hsl2, hs2⟩ := src_from hs .i64 h (by omega)
        have HH := hid (split_any L w (by omega) (by omega))
        rw [hh] at HH
        have HT1 := hid (ih h (by omega) (ps.take h) v24 N M (w.drewN 1) (by simp; omega) (hT.past (drewN_belowT _ _ _)) hN hM (hs1.below (drewN_belowT _ _ _)) (fun q hq => (hok q (List.mem_of_mem_take hq)).below (drewN_belowT _ _ _)) (fun q hq => hsh q (List.mem_of_mem_take hq)) (by simp; omega))
        have HT2 := hid (fun (w1 : World) (hb1 : Below w.heap.size w w1) => ih (L - h) (by omega) (ps.drop h) v28 N M w1 (by simp [hL]) (hT.past hb1) (Nat.le_trans hN hb1.size) (Nat.le_trans hM hb1.size) (hs2.below (hb1.mono hM)) (fun q hq => (hok q (List.mem_of_mem_drop hq)).below (hb1.mono hN)) (fun q hq => hsh q (List.mem_of_mem_drop hq)) (by simp [hL]; omega))
        have HEQ := hid (show treeD (ps.map (·.p)) = nodeD (treeD ((ps.take h).map (·.p))) (treeD ((ps.drop h).map (·.p))) by rw [treeD_more _ (by simp [hL]; omega), List.length_map, hL, hh, List.map_take, List.map_drop])
        have e1 : ((L : Int) == 0) = false := by simp; omega
        have e2 : ((L : Int) == 1) = false := by simp; omega
        have HT := hid hT
        have HTL := hid (fun l : List Pr => treeD_len l)
        clear hs hok hsh ih hs1 hs2 hh h0 h1 hT
        have HL := hid hL
        clear hL
        go_enter Tryd.func38, Tryd.ntmps38
        go_wp2_with fail
        refine HH.out.mono ?_
        rintro e w' ⟨rfl, hw'⟩
        obtain rfl := hw'.symm
        go_wp2_with fail
        go_region_with (first
          | (go_at_call_of 38 v24; refine HT1.out.mono ?_; rintro e w1 ⟨oa1, n1, c1, rfl, hown1, hbe1⟩; have HO1 := hid hown1; have HBE1 := hid ((drewN_belowT w 1 _).trans hbe1); clear hown1 hbe1)
          | (go_at_call_of 38 v28; refine (HT2.out w1 HBE1.out).mono ?_; rintro e w2 ⟨oa2, n2, c2, rfl, hown2, hbe2⟩; have HO2 := hid hown2; have HN1 := hid ((HO1.out.bytes.below hbe2).mono hbe2.size); have HBE2 := hid (HBE1.out.trans (hbe2.mono HBE1.out.size)); clear hown2 hbe2)
          | (go_at_call 49; refine (forkBytes_any _ _ (.slice oa1 n1 c1) (.slice oa2 n2 c2) w2.heap.size w2 (Nat.le_refl _) HN1.out HO2.out.bytes (Nat.le_trans (HTL.out _) (by decide)) (Nat.le_trans (HTL.out _) (by decide))).mono ?_; rintro e w3 ⟨oa3, n3, c3, rfl, hown3, hbe3⟩; have HO3 := hid hown3; have HBE3 := hid (HBE2.out.trans (hbe3.mono HBE2.out.size)); clear hown3 hbe3)
          | (go_at_call 23; refine (sumC _ (.slice oa3 n3 c3) w3.heap.size w3 (Nat.le_refl _) HO3.out.bytes (HT.out.past HBE3.out) (by have h1 := HTL.out ((ps.take h).map (·.p)); have h2 := HTL.out ((ps.drop h).map (·.p)); rw [List.length_cons, List.length_append]; omega)).mono ?_; rintro e w4 ⟨oa4, c4, rfl, hown4, hbe4⟩; have HO4 := hid (hown4.mono HBE3.out.size); have HBE4 := hid (HBE3.out.trans (hbe4.mono HBE3.out.size)); clear hown4 hbe4))
        all_goals
          go_wp2
          go_ret
          exact ⟨_, _, _, rfl, by rw [HEQ.out]; exact HO4.out, HBE4.out⟩
end Go.Proofs.YtjfhhlgblmjonaaDoor
