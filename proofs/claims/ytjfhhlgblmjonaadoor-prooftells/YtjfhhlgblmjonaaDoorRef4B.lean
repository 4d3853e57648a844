/-
  What the document's Leaf, Node and Top answer: digests, in new memory.
  What the document's Tree and Root answer: the digest of pairs, by halves; a book's digest, or what is wrong with it.
  What the document's Root answers: a book's digest, in new memory; or what is wrong with it.
-/
import Derived.Test.YtjfhhlgblmjonaaDoorRef4Join
import Derived.Test.YtjfhhlgblmjonaaDoorRefSumA
import Derived.Test.YtjfhhlgblmjonaaDoorRef4W
import Derived.Test.YtjfhhlgblmjonaaDoorPairsAll
import Derived.Deep.RegionWith
import Derived.Deep.Slices
namespace Go.Proofs.YtjfhhlgblmjonaaDoor
open Go.RowKit

theorem fours (n : Nat) (w : World) (hn : n < 1000000) : Calls Tryd.prog 53 #[.int .i64 (n : Int)] w fun e w' =>
    e = .returned (.slice (some ⟨w.heap.size, 0, none⟩) 4 4) ∧ Bytes w' w'.heap.size (.slice (some ⟨w.heap.size, 0, none⟩) 4 4) (fourB n) ∧ Below w.heap.size w w' := by
  refine (refFour_any n w hn).mono ?_
  rintro e w' ⟨rfl, rfl⟩
  have h := bytes_new w (fourB n) 5 (0, 0) 4 (by simp [fourB])
  refine ⟨rfl, ?_, (Below.refl _ _).alloc (Nat.le_refl _) _⟩
  rw [show (w.alloc (.cells ((fourB n).map V).toArray 5)).heap.size = w.heap.size + 1 by simp]
  exact h
theorem sums (l : List (BitVec 8)) (sv : Value) (N : Nat) (w : World) (hN : N ≤ w.heap.size) (hb : Bytes w N sv l) (hlen : l.length ≤ 1000000) :
    Calls Tryd.prog 51 #[sv] w fun e w' => ∃ oa cap, e = .returned (.slice oa 32 cap) ∧ OwnB w' w.heap.size (.slice oa 32 cap) (sha l) ∧ Below w.heap.size w w' := by
  refine (refSum_any l sv N w hN hb (by omega)).mono ?_
  rintro e w' ⟨v, rfl, h1, h2⟩
  have h3 : OwnB w' w.heap.size v (sha l) := by unfold OwnB; rw [sha_length]; exact h1
  obtain ⟨oa, cap, rfl, _⟩ := h3.shape
  rw [sha_length] at h3 ⊢
  exact ⟨oa, cap, rfl, h3, h2⟩
theorem letter_new (w : World) (b : BitVec 8) (y : Int) (hy : y = b8 b) : Bytes (w.alloc (.cells #[.int .u8 y] 5)) (w.heap.size + 1) (.slice (some ⟨w.heap.size, 0, none⟩) 1 1) [b] := by
  subst hy
  exact bytes_new w [b] 5 (0, 0) 1 (by simp)
set_option maxRecDepth 100000 in
set_option maxHeartbeats 1000000 in
theorem refLeaf_any (k v : List (BitVec 8)) (kv vv : Value) (N : Nat) (w : World) (hN : N ≤ w.heap.size) (hk : Bytes w N kv k) (hv : Bytes w N vv v) (hkl : k.length ≤ 100000) (hvl : v.length ≤ 100000) :
    Calls Tryd.prog 26 #[kv, vv] w fun e w' => ∃ oa cap, e = .returned (.slice oa 32 cap) ∧ OwnB w' w.heap.size (.slice oa 32 cap) (leafD k v) ∧ Below w.heap.size w w' := by
  obtain ⟨o1, c1, rfl, _⟩ := hk.shape
  obtain ⟨o2, c2, rfl, _⟩ := hv.shape
  obtain ⟨w1, hw1⟩ : ∃ w1, w.alloc (.cells #[.int .u8 0] 5) = w1 := ⟨_, rfl⟩
  have hsz1 : w1.heap.size = w.heap.size + 1 := by rw [← hw1]; simp
  have hb1 : Below w.heap.size w w1 := by rw [← hw1]; exact (Below.refl _ _).alloc (Nat.le_refl _) _
  have hl1 : Bytes w1 w1.heap.size (.slice (some ⟨w.heap.size, 0, none⟩) 1 1) [0] := by rw [hsz1, ← hw1]; exact letter_new w 0 0 rfl
  have HF := hid (fours k.length w1 (by omega))
  have HK := hid (hk.below (hb1.mono hN))
  have HV := hid (hv.below (hb1.mono hN))
  have HB1 := hid hb1
  have HL1 := hid hl1
  clear hk hv hb1 hl1
  go_enter Tryd.func26, Tryd.ntmps26
  go_wp2_with fail
  refine HF.out.mono ?_
  rintro e w2 ⟨rfl, hf2, hb2⟩
  have hsz2 := hb2.size
  obtain ⟨w3, hw3⟩ : ∃ w3, w2.alloc (.cells #[.slice (some ⟨w.heap.size, 0, none⟩) 1 1, .slice (some ⟨w1.heap.size, 0, none⟩) 4 4, .slice o1 k.length c1, .slice o2 v.length c2] 23) = w3 := ⟨_, rfl⟩
  have hsz3 : w3.heap.size = w2.heap.size + 1 := by rw [← hw3]; simp
  have hb3 : Below w2.heap.size w2 w3 := by rw [← hw3]; exact (Below.refl _ _).alloc (Nat.le_refl _) _
  have hls : Lists w3 w3.heap.size (.slice (some ⟨w2.heap.size, 0, none⟩) 4 4) [[0], fourB k.length, k, v] := by
    rw [hsz3, ← hw3]
    exact lists4 ((HL1.out.below hb2).mono hsz2) hf2 ((HK.out.below (hb2.mono (by omega))).mono (by omega)) ((HV.out.below (hb2.mono (by omega))).mono (by omega))
  have hfl : [[0], fourB k.length, k, v].flatten = 0 :: (fourB k.length ++ (k ++ v)) := by rw [flat4]; rfl
  have HJ := hid (refJoin_any [[0], fourB k.length, k, v] _ w3.heap.size w3 (Nat.le_refl _) hls (by rw [hfl]; simp [fourB]; omega) (by simp))
  rw [hfl] at HJ
  have HB3 := hid (HB1.out.trans ((hb2.trans (hb3.mono (by omega))).mono (by omega)))
  have HSZ := hid (show w.heap.size ≤ w3.heap.size by omega)
  rw [hsz1] at hw3
  clear hb2 hb3 hf2 hls hfl HF hw1
  go_wp2_with fail
  refine HJ.out.mono ?_
  rintro e w4 ⟨v4, rfl, hown4, hb4⟩
  have HS := hid (sums _ v4 w4.heap.size w4 (Nat.le_refl _) hown4.bytes (by simp [fourB]; omega))
  have HB4 := hid (HB3.out.trans (hb4.mono HSZ.out))
  have HSZ4 := hid (show w.heap.size ≤ w4.heap.size from Nat.le_trans HSZ.out hb4.size)
  clear hown4 hb4 HJ hw3
  go_wp2_with fail
  refine HS.out.mono ?_
  rintro e w5 ⟨oa, cap, rfl, hown5, hb5⟩
  go_wp2
  go_ret
  exact ⟨_, _, rfl, hown5.mono HSZ4.out, HB4.out.trans (hb5.mono HSZ4.out)⟩
set_option maxRecDepth 100000 in
set_option maxHeartbeats 1000000 in
theorem refNode_any (k v : List (BitVec 8)) (kv vv : Value) (N : Nat) (w : World) (hN : N ≤ w.heap.size) (hk : Bytes w N kv k) (hv : Bytes w N vv v) (hkl : k.length ≤ 100000) (hvl : v.length ≤ 100000) :
    Calls Tryd.prog 27 #[kv, vv] w fun e w' => ∃ oa cap, e = .returned (.slice oa 32 cap) ∧ OwnB w' w.heap.size (.slice oa 32 cap) (nodeD k v) ∧ Below w.heap.size w w' := by
  obtain ⟨o1, c1, rfl, _⟩ := hk.shape
  obtain ⟨o2, c2, rfl, _⟩ := hv.shape
  obtain ⟨w1, hw1⟩ : ∃ w1, w.alloc (.cells #[.int .u8 1] 5) = w1 := ⟨_, rfl⟩
  have hsz1 : w1.heap.size = w.heap.size + 1 := by rw [← hw1]; simp
  have hb1 : Below w.heap.size w w1 := by rw [← hw1]; exact (Below.refl _ _).alloc (Nat.le_refl _) _
  have hl1 : Bytes w1 w1.heap.size (.slice (some ⟨w.heap.size, 0, none⟩) 1 1) [1] := by rw [hsz1, ← hw1]; exact letter_new w 1 1 rfl
  obtain ⟨w3, hw3⟩ : ∃ w3, w1.alloc (.cells #[.slice (some ⟨w.heap.size, 0, none⟩) 1 1, .slice o1 k.length c1, .slice o2 v.length c2] 23) = w3 := ⟨_, rfl⟩
  have hsz3 : w3.heap.size = w1.heap.size + 1 := by rw [← hw3]; simp
  have hb3 : Below w1.heap.size w1 w3 := by rw [← hw3]; exact (Below.refl _ _).alloc (Nat.le_refl _) _
  have hls : Lists w3 w3.heap.size (.slice (some ⟨w1.heap.size, 0, none⟩) 3 3) [[1], k, v] := by
    rw [hsz3, ← hw3]
    exact lists3 hl1 ((hk.below (hb1.mono hN)).mono (by omega)) ((hv.below (hb1.mono hN)).mono (by omega))
  have hfl : [[1], k, v].flatten = 1 :: (k ++ v) := by rw [flat3]; rfl
  have HJ := hid (refJoin_any [[1], k, v] _ w3.heap.size w3 (Nat.le_refl _) hls (by rw [hfl]; simp; omega) (by simp))
  rw [hfl, hsz1] at HJ
  have HB3 := hid (hb1.trans (hb3.mono (by omega)))
  have HSZ := hid (show w.heap.size ≤ w3.heap.size by omega)
  clear hb1 hb3 hl1 hls hfl hk hv
  go_enter Tryd.func27, Tryd.ntmps27
  go_wp2_with fail
  refine HJ.out.mono ?_
  rintro e w4 ⟨v4, rfl, hown4, hb4⟩
  have HS := hid (sums _ v4 w4.heap.size w4 (Nat.le_refl _) hown4.bytes (by simp; omega))
  have HB4 := hid (HB3.out.trans (hb4.mono HSZ.out))
  have HSZ4 := hid (show w.heap.size ≤ w4.heap.size from Nat.le_trans HSZ.out hb4.size)
  clear hown4 hb4 HJ hw3 hw1
  go_wp2_with fail
  refine HS.out.mono ?_
  rintro e w5 ⟨oa, cap, rfl, hown5, hb5⟩
  go_wp2
  go_ret
  exact ⟨_, _, rfl, hown5.mono HSZ4.out, HB4.out.trans (hb5.mono HSZ4.out)⟩
set_option maxRecDepth 100000 in
set_option maxHeartbeats 1000000 in
theorem refTop_any (n : Nat) (t : List (BitVec 8)) (tv : Value) (N : Nat) (w : World) (hN : N ≤ w.heap.size) (ht : Bytes w N tv t) (hn : n < 1000000) (htl : t.length ≤ 100000) :
    Calls Tryd.prog 28 #[.int .i64 (n : Int), tv] w fun e w' => ∃ oa cap, e = .returned (.slice oa 32 cap) ∧ OwnB w' w.heap.size (.slice oa 32 cap) (topD n t) ∧ Below w.heap.size w w' := by
  obtain ⟨o1, c1, rfl, _⟩ := ht.shape
  obtain ⟨w1, hw1⟩ : ∃ w1, w.alloc (.cells #[.int .u8 2] 5) = w1 := ⟨_, rfl⟩
  have hsz1 : w1.heap.size = w.heap.size + 1 := by rw [← hw1]; simp
  have hb1 : Below w.heap.size w w1 := by rw [← hw1]; exact (Below.refl _ _).alloc (Nat.le_refl _) _
  have hl1 : Bytes w1 w1.heap.size (.slice (some ⟨w.heap.size, 0, none⟩) 1 1) [2] := by rw [hsz1, ← hw1]; exact letter_new w 2 2 rfl
  have HF := hid (fours n w1 hn)
  have HT := hid (ht.below (hb1.mono hN))
  have HB1 := hid hb1
  have HL1 := hid hl1
  clear ht hb1 hl1
  go_enter Tryd.func28, Tryd.ntmps28
  go_wp2_with fail
  refine HF.out.mono ?_
  rintro e w2 ⟨rfl, hf2, hb2⟩
  have hsz2 := hb2.size
  obtain ⟨w3, hw3⟩ : ∃ w3, w2.alloc (.cells #[.slice (some ⟨w.heap.size, 0, none⟩) 1 1, .slice (some ⟨w1.heap.size, 0, none⟩) 4 4, .slice o1 t.length c1] 23) = w3 := ⟨_, rfl⟩
  have hsz3 : w3.heap.size = w2.heap.size + 1 := by rw [← hw3]; simp
  have hb3 : Below w2.heap.size w2 w3 := by rw [← hw3]; exact (Below.refl _ _).alloc (Nat.le_refl _) _
  have hls : Lists w3 w3.heap.size (.slice (some ⟨w2.heap.size, 0, none⟩) 3 3) [[2], fourB n, t] := by
    rw [hsz3, ← hw3]
    exact lists3 ((HL1.out.below hb2).mono hsz2) hf2 ((HT.out.below (hb2.mono (by omega))).mono (by omega))
  have hfl : [[2], fourB n, t].flatten = 2 :: (fourB n ++ t) := by rw [flat3]; rfl
  have HJ := hid (refJoin_any [[2], fourB n, t] _ w3.heap.size w3 (Nat.le_refl _) hls (by rw [hfl]; simp [fourB]; omega) (by simp))
  rw [hfl] at HJ
  have HB3 := hid (HB1.out.trans ((hb2.trans (hb3.mono (by omega))).mono (by omega)))
  have HSZ := hid (show w.heap.size ≤ w3.heap.size by omega)
  rw [hsz1] at hw3
  clear hb2 hb3 hf2 hls hfl HF hw1
  go_wp2_with fail
  refine HJ.out.mono ?_
  rintro e w4 ⟨v4, rfl, hown4, hb4⟩
  have HS := hid (sums _ v4 w4.heap.size w4 (Nat.le_refl _) hown4.bytes (by simp [fourB]; omega))
  have HB4 := hid (HB3.out.trans (hb4.mono HSZ.out))
  have HSZ4 := hid (show w.heap.size ≤ w4.heap.size from Nat.le_trans HSZ.out hb4.size)
  clear hown4 hb4 HJ hw3
  go_wp2_with fail
  refine HS.out.mono ?_
  rintro e w5 ⟨oa, cap, rfl, hown5, hb5⟩
  go_wp2
  go_ret
  exact ⟨_, _, rfl, hown5.mono HSZ4.out, HB4.out.trans (hb5.mono HSZ4.out)⟩
end Go.Proofs.YtjfhhlgblmjonaaDoor
namespace Go.Proofs.YtjfhhlgblmjonaaDoor
open Go.RowKit

theorem drewN_belowT (w : World) (n N : Nat) : Below N w (w.drewN n) := ⟨rfl, rfl, rfl, Nat.le_refl _, fun _ _ => rfl⟩
theorem treeD_len (l : List Pr) : (treeD l).length ≤ 32 := by
  by_cases h : 2 ≤ l.length
  · rw [treeD_more l h]
    unfold nodeD
    rw [sha_length]
    exact Nat.le_refl _
  · match l, h with
    | [], _ => rw [treeD_nil]; simp
    | [p], _ => rw [treeD_one]; unfold leafD; rw [sha_length]; exact Nat.le_refl _
    | _ :: _ :: _, h => simp at h
/-- keys and values are short -/
def PrV.short (q : PrV) : Prop := q.p.key.length ≤ 100000 ∧ q.p.val.length ≤ 100000
set_option maxRecDepth 100000 in
set_option maxHeartbeats 2000000 in
theorem refTree_any (n : Nat) : ∀ (ps : List PrV) (sv : Value) (N M : Nat) (w : World), ps.length ≤ n → N ≤ w.heap.size → M ≤ w.heap.size → SrcPr w M sv ps → (∀ q ∈ ps, q.ok w N) → (∀ q ∈ ps, q.short) → ps.length ≤ 1000 →
    Calls Tryd.prog 41 #[sv] w fun e w' => ∃ oa nv cap, e = .returned (.slice oa nv cap) ∧ OwnB w' w.heap.size (.slice oa nv cap) (treeD (ps.map (·.p))) ∧ Below w.heap.size w w' := by
  induction n using Nat.strongRecOn with
  | _ n ih =>
    intro ps sv N M w hn hN hM hs hok hsh hlen
    obtain ⟨oa, ca, rfl, hca⟩ := hs.shape
    by_cases h0 : ps.length = 0
    · obtain rfl := List.length_eq_zero_iff.1 h0
      clear hs hok hsh ih hca h0
      go_enter Tryd.func41, Tryd.ntmps41
      go_wp2
      go_ret
      exact ⟨_, _, _, rfl, by rw [List.map_nil, treeD_nil]; exact OwnB.nil _ _, Below.refl _ _⟩
    · by_cases h1 : ps.length = 1
      · obtain ⟨q, rfl⟩ := List.length_eq_one_iff.1 h1
        obtain ⟨b, o, rfl, hc⟩ := hs.some (by simp)
        obtain ⟨_, d0, d1⟩ := hc 0 q rfl
        have hq := hok q (by simp)
        have hqs := hsh q (by simp)
        obtain ⟨o1, c1, e1, _⟩ := hq.1.shape
        obtain ⟨o2, c2, e2, _⟩ := hq.2.shape
        have HLF := hid (fun x : Nat => refLeaf_any q.p.key q.p.val q.k q.v N (w.drewN x) hN (hq.1.below (drewN_belowT _ _ _)) (hq.2.below (drewN_belowT _ _ _)) hqs.1 hqs.2)
        obtain ⟨p, qk, qv⟩ := q
        simp only at d0 d1 e1 e2 HLF
        subst e1
        subst e2
        have d0' : w.cell? ⟨b, o, none⟩ = some (.slice o1 p.key.length c1) := by simpa using d0
        have d1' : w.cell? ⟨b, o + 1, none⟩ = some (.slice o2 p.val.length c2) := by simpa using d1
        clear hc d0 d1 hq hqs hok hsh hs ih h0 h1 hca
        go_enter Tryd.func41, Tryd.ntmps41
        go_wp2_with fail
        go_region_with (first | (go_at_call 26; refine (HLF.out 1).mono ?_; rintro e wc ⟨oc, cc, rfl, hoc, hbc⟩))
        all_goals
          go_wp2
          go_ret
          exact ⟨_, _, _, rfl, by rw [List.map_cons, List.map_nil, treeD_one]; exact hoc, (drewN_belowT w 1 _).trans hbc⟩
      · generalize hL : ps.length = L at *
        obtain ⟨h, hh⟩ : ∃ h, halfN L = h := ⟨_, rfl⟩
        have hhl := halfN_lt L (by omega)
        rw [hh] at hhl
        obtain ⟨v24, hsl1, hs1⟩ := src_to hs .i64 h (by omega)
        obtain ⟨v28, hsl2, hs2⟩ := src_from hs .i64 h (by omega)
        have HH := hid (refHalf_any L w (by omega))
        rw [hh] at HH
        have HT1 := hid (ih h (by omega) (ps.take h) v24 N M (w.drewN 1) (by simp; omega) hN hM (hs1.below (drewN_belowT _ _ _)) (fun q hq => (hok q (List.mem_of_mem_take hq)).below (drewN_belowT _ _ _)) (fun q hq => hsh q (List.mem_of_mem_take hq)) (by simp; omega))
        have HT2 := hid (fun (w1 : World) (hb1 : Below w.heap.size w w1) => ih (L - h) (by omega) (ps.drop h) v28 N M w1 (by simp [hL]) (Nat.le_trans hN hb1.size) (Nat.le_trans hM hb1.size) (hs2.below (hb1.mono hM)) (fun q hq => (hok q (List.mem_of_mem_drop hq)).below (hb1.mono hN)) (fun q hq => hsh q (List.mem_of_mem_drop hq)) (by simp [hL]; omega))
        have HEQ := hid (show treeD (ps.map (·.p)) = nodeD (treeD ((ps.take h).map (·.p))) (treeD ((ps.drop h).map (·.p))) by rw [treeD_more _ (by simp [hL]; omega), List.length_map, hL, hh, List.map_take, List.map_drop])
        have e1 : ((L : Int) == 0) = false := by simp; omega
        have e2 : ((L : Int) == 1) = false := by simp; omega
        clear hs hok hsh ih hs1 hs2 hh h0 h1
        have HL := hid hL
        clear hL
        go_enter Tryd.func41, Tryd.ntmps41
        go_wp2_with fail
        refine HH.out.mono ?_
        rintro e w' ⟨rfl, hw'⟩
        obtain rfl := hw'.symm
        go_wp2_with fail
        go_region_with (first
          | (go_at_call_of 41 v24; refine HT1.out.mono ?_; rintro e w1 ⟨oa1, n1, c1, rfl, hown1, hbe1⟩; have HO1 := hid hown1; have HBE1 := hid ((drewN_belowT w 1 _).trans hbe1); clear hown1 hbe1)
          | (go_at_call_of 41 v28; refine (HT2.out w1 HBE1.out).mono ?_; rintro e w2 ⟨oa2, n2, c2, rfl, hown2, hbe2⟩; have HO2 := hid hown2; have HN1 := hid ((HO1.out.bytes.below hbe2).mono hbe2.size); have HBE2 := hid (HBE1.out.trans (hbe2.mono HBE1.out.size)); clear hown2 hbe2)
          | (go_at_call 27; refine (refNode_any _ _ (.slice oa1 n1 c1) (.slice oa2 n2 c2) w2.heap.size w2 (Nat.le_refl _) HN1.out HO2.out.bytes (Nat.le_trans (treeD_len _) (by decide)) (Nat.le_trans (treeD_len _) (by decide))).mono ?_; rintro e w3 ⟨oa3, c3, rfl, hown3, hbe3⟩; have HO3 := hid (hown3.mono HBE2.out.size); have HBE3 := hid (HBE2.out.trans (hbe3.mono HBE2.out.size)); clear hown3 hbe3))
        all_goals
          go_wp2
          go_ret
          exact ⟨_, _, _, rfl, by rw [HEQ.out]; exact HO3.out, HBE3.out⟩
end Go.Proofs.YtjfhhlgblmjonaaDoor
namespace Go.Proofs.YtjfhhlgblmjonaaDoor
open Go.RowKit

theorem pairs_src {w : World} {N : Nat} {sv : Value} {l : List Pr} (h : Pairs w N sv l) : ∃ ps : List PrV, ps.map (·.p) = l ∧ SrcPr w N sv ps ∧ ∀ q ∈ ps, q.ok w N := by
  rcases h with ⟨rfl, rfl⟩ | ⟨a, cap, rfl, rfl⟩ | ⟨b, off, cap, rfl, hc, hcell⟩
  · exact ⟨[], rfl, .inl ⟨rfl, rfl⟩, fun q hq => by simp at hq⟩
  · exact ⟨[], rfl, .inr (.inl ⟨a, cap, rfl, rfl⟩), fun q hq => by simp at hq⟩
  · have each : ∀ i, i < l.length → ∃ x : PrV, l[i]? = some x.p ∧ b < N ∧ w.cell? ⟨b, off + i * 2, none⟩ = some x.k ∧ w.cell? ⟨b, off + i * 2 + 1, none⟩ = some x.v ∧ x.ok w N := fun i hi => by
      obtain ⟨hb, vk, vv, d0, d1, d2, d3⟩ := hcell i l[i] (List.getElem?_eq_getElem hi)
      exact ⟨⟨l[i], vk, vv⟩, List.getElem?_eq_getElem hi, hb, d0, d1, d2, d3⟩
    haveI : Inhabited PrV := ⟨⟨⟨[], []⟩, undef, undef⟩⟩
    obtain ⟨f, hf⟩ := Deep.choose_lt each
    refine ⟨(List.range l.length).map f, ?_, ?_, ?_⟩
    · apply List.ext_getElem?
      intro i
      by_cases hi : i < l.length
      · rw [List.getElem?_map, List.getElem?_map, List.getElem?_range hi, (hf i hi).1]
        rfl
      · rw [List.getElem?_eq_none (by simp; omega), List.getElem?_eq_none (by omega)]
    · refine .inr (.inr ⟨b, off, cap, by simp, by simpa using hc, fun i q hq => ?_⟩)
      have hi : i < l.length := by have := (List.getElem?_eq_some_iff.1 hq).1; simpa using this
      obtain rfl : f i = q := by rw [List.getElem?_map, List.getElem?_range hi] at hq; simpa using hq
      exact ⟨(hf i hi).2.1, (hf i hi).2.2.1, (hf i hi).2.2.2.1⟩
    · intro q hq
      obtain ⟨i, hi, rfl⟩ := List.mem_map.1 hq
      exact (hf i (List.mem_range.1 hi)).2.2.2.2
theorem wrongL_short (l : List Pr) (n : Nat) (c : Int) (i : Nat) (hn : l.length = n) (h : wrongL l = (c, i)) (hc : c = 0) : n ≤ 200 ∧ ∀ p ∈ l, p.key.length ≤ 100000 ∧ p.val.length ≤ 100000 := by
  subst hc
  unfold wrongL at h
  split at h
  · simp at h
  · have := (wrongGo_ok l 0 none i h).2.1
    exact ⟨by omega, fun p hp => by have := this p hp; omega⟩
end Go.Proofs.YtjfhhlgblmjonaaDoor
