/-
  What slices.Insert does with a row of pairs that a call owns, of one pair that lies in a block of its own.
-/
import Derived.Test.YtooemgkjkngpcaaDoorBookRow
namespace Go.Proofs.YtooemgkjkngpcaaDoor
open Go.RowKit

def insV (ps : List PrV) (i : Nat) (q : PrV) : List PrV := ps.take i ++ q :: ps.drop i
theorem insV_length (ps : List PrV) (i : Nat) (q : PrV) (hi : i ≤ ps.length) : (insV ps i q).length = ps.length + 1 := by
  unfold insV
  simp
  omega
theorem flat_insV (ps : List PrV) (i : Nat) (q : PrV) : (insV ps i q).flatMap prCells = (ps.flatMap prCells).take (i * 2) ++ [q.k, q.v] ++ (ps.flatMap prCells).drop (i * 2) := by
  unfold insV
  rw [List.flatMap_append, List.flatMap_cons, flat_take, flat_drop]
  simp [prCells]
set_option maxRecDepth 100000 in
set_option maxHeartbeats 2000000 in
/-- behind all -/
theorem insert_end (ps : List PrV) (q : PrV) (base vb : Nat) (v : Value) (w : World) (h : RowPr w base v ps) (hb : base ≤ w.heap.size) (hv : Row w vb 48 [q.k, q.v]) (h1 : q.k.oneCell' = true ∧ q.v.oneCell' = true) (hl : ps.length ≤ 1000) :
    Calls Tryd.prog 57 #[v, .int .i64 (ps.length : Int), .slice (some ⟨vb, 0, none⟩) 1 1] w fun e w' => w.grownBy w' v.ownBlock ∧ ∃ v', e = .returned v' ∧ RowPr w' base v' (insV ps ps.length q) := by
  obtain ⟨oa, c, rfl, hc⟩ := h.shape
  have HO := hid h
  have HV := hid hv
  have H1 := hid h1
  have HE := hid (show insV ps ps.length q = ps ++ [q] by simp [insV])
  have HL := hid (show ps.length ≤ 1000 from hl)
  clear h hv h1
  generalize hn : ps.length = n at *
  have HN := hid hn
  clear hn
  cases oa with
  | none =>
    go_enter Tryd.func57, Tryd.ntmps57
    go_wp2_with (at_builtin; refine wpList_plain rfl fun _ hK => wp_append_prs (.tmp 23) (.tmp 24) rfl base _ ps rfl HO.out _ [q] rfl (src_one (HV.out.cell 0) (HV.out.cell 1)) (by intro x hx; simp at hx; rw [hx]; exact H1.out) (by have := HL.out; rw [HN.out]; simp; omega) hb ?_; intro v' w' g1 g2 g3; refine hK _ _ ?_; have G1 := hid g1; have G3 := hid g3; clear g1 g2 g3)
    go_ret
    exact ⟨G3.out, _, rfl, by rw [HE.out]; exact G1.out⟩
  | some a =>
    go_enter Tryd.func57, Tryd.ntmps57
    go_wp2_with (at_builtin; refine wpList_plain rfl fun _ hK => wp_append_prs (.tmp 23) (.tmp 24) rfl base _ ps rfl HO.out _ [q] rfl (src_one (HV.out.cell 0) (HV.out.cell 1)) (by intro x hx; simp at hx; rw [hx]; exact H1.out) (by have := HL.out; rw [HN.out]; simp; omega) hb ?_; intro v' w' g1 g2 g3; refine hK _ _ ?_; have G1 := hid g1; have G3 := hid g3; clear g1 g2 g3)
    all_goals
      go_ret
      exact ⟨G3.out, _, rfl, by rw [HE.out]; exact G1.out⟩
set_option maxRecDepth 100000 in
set_option maxHeartbeats 2000000 in
/-- ahead of others, where there is room -/
theorem insert_shift (ps : List PrV) (i : Nat) (q : PrV) (base g vb c : Nat) (cs : List Value) (w : World) (hbase : base ≤ g) (hrow : Row w g 48 cs) (hcl : cs.length = c * 2) (hcm : c ≤ maxLen) (htk : cs.take (ps.length * 2) = ps.flatMap prCells) (hone : ∀ q ∈ ps, q.k.oneCell' = true ∧ q.v.oneCell' = true)
    (hv : Row w vb 48 [q.k, q.v]) (h1 : q.k.oneCell' = true ∧ q.v.oneCell' = true) (hne : vb ≠ g) (hi : i < ps.length) (hroom : ps.length + 1 ≤ c) :
    Calls Tryd.prog 57 #[.slice (some ⟨g, 0, none⟩) ps.length c, .int .i64 (i : Int), .slice (some ⟨vb, 0, none⟩) 1 1] w fun e w' => w.grownBy w' (some g) ∧ ∃ v', e = .returned v' ∧ RowPr w' base v' (insV ps i q) := by
  have hsz : (Tryd.prog.info? 48).map (·.size) = some 2 := by kernel_rfl
  have hcell : ∀ j, w.drew.cell? ⟨g, j, none⟩ = cs[j]? := fun j => hrow.drew.cell j
  obtain ⟨n, hn⟩ : ∃ n, ps.length = n := ⟨_, rfl⟩
  rw [hn] at hi hroom htk ⊢
  have hfl : (ps.flatMap prCells).length = n * 2 := by rw [flatPr_len, hn]
  obtain ⟨mv, hmv⟩ : ∃ mv, mv = (ps.flatMap prCells).drop (i * 2) := ⟨_, rfl⟩
  have hml : mv.length = (n - i) * 2 := by rw [hmv, List.length_drop, hfl]; omega
  have hov : ∀ x lb cb, (callFunc 65 #[.slice (some ⟨vb, 0, none⟩) 1 1, .slice (some ⟨g, x, none⟩) lb cb]).run Tryd.prog w = .ok (.value (.bool false)) w := fun x lb cb => by
    rw [run_callFunc_extern Tryd.func65 (by kernel_rfl) (by kernel_rfl) (by kernel_rfl) (e := Extern.SlicesOverlaps.overlaps #[30, 30] #[4]) (by kernel_rfl)]
    rw [Lib.run_overlaps_apart w 30 4 48 Tryd.underlying30 2 sizePr ⟨vb, 0, none⟩ ⟨g, x, none⟩ 1 1 lb cb hne 48 48 2 (c * 2) (by simp [World.shape?, show w.heap[vb]? = _ from hv]) (by simp [World.shape?, show w.heap[g]? = _ from hrow, hcl]) (by omega) (hv.frozen 0) (hv.frozen 2)]
    rfl
  have hcp1 : ∀ ty dc sc, (Builtin.copy_ #[30, 30] ty #[.slice (some ⟨g, (i + 1) * 2, none⟩) (n - i) dc, .slice (some ⟨g, i * 2, none⟩) (n + 1 - i) sc]).run Tryd.prog w.drew = .ok (goInt ((n - i : Nat) : Int)) (w.drew.setCells g ((i + 1) * 2) mv) := fun ty dc sc => by
    have e : Nat.min (n + 1 - i) (n - i) = n - i := by simp only [Nat.min_def]; split <;> omega
    have := run_copy_wide (P := Tryd.prog) w.drew 30 30 ty 48 2 g ((i + 1) * 2) (n - i) dc ⟨g, i * 2, none⟩ (n + 1 - i) sc mv Tryd.underlying30 hsz (by rw [hml, e])
      (fun j u hj => by
        have hadd : (⟨g, i * 2, none⟩ : Addr).add j = ⟨g, i * 2 + j, none⟩ := by unfold Addr.add; split <;> simp_all
        rw [hadd, hcell]
        rw [hmv, List.getElem?_drop] at hj
        exact flat_get_some htk _ u hj)
      (fun j hj => by rw [hcell, List.getElem?_eq_getElem (by rw [hml] at hj; omega)]; rfl) (fun j hj => hrow.drew.frozen _)
      (fun u hu => flat_one hone u (by rw [hmv] at hu; exact List.mem_of_mem_drop hu))
    rw [e] at this
    exact this
  obtain ⟨W1, hW1⟩ : ∃ W1, W1 = w.drew.setCells g ((i + 1) * 2) mv := ⟨_, rfl⟩
  have hr1 : Row W1 g 48 (putL cs ((i + 1) * 2) mv) := by
    rw [hW1]
    exact Row.setCells _ _ _ _ hrow.drew (by rw [hml]; omega)
  have hl1 : (putL cs ((i + 1) * 2) mv).length = c * 2 := by rw [putL_length _ _ _ (by rw [hml]; omega), hcl]
  have hg1 : w.grownBy W1 (some g) := by rw [hW1]; exact grown_trans (⟨rfl, rfl, rfl, Nat.le_refl _, fun _ _ _ => rfl⟩ : w.grownBy w.drew _) (grown_setCells g _ _ w.drew)
  have hv1 : Row W1 vb 48 [q.k, q.v] := hv.grown hg1 (by simpa using hne)
  have hcp2 : ∀ ty dc, (Builtin.copy_ #[30, 30] ty #[.slice (some ⟨g, i * 2, none⟩) (n + 1 - i) dc, .slice (some ⟨vb, 0, none⟩) 1 1]).run Tryd.prog W1 = .ok (goInt ((1 : Nat) : Int)) (W1.setCells g (i * 2) [q.k, q.v]) := fun ty dc => by
    have e : Nat.min 1 (n + 1 - i) = 1 := by simp only [Nat.min_def]; split <;> omega
    have := run_copy_wide (P := Tryd.prog) W1 30 30 ty 48 2 g (i * 2) (n + 1 - i) dc ⟨vb, 0, none⟩ 1 1 [q.k, q.v] Tryd.underlying30 hsz (by rw [e]; rfl)
      (fun j u hj => by
        have hadd : (⟨vb, 0, none⟩ : Addr).add j = ⟨vb, j, none⟩ := by unfold Addr.add; split <;> simp_all
        rw [hadd, hv1.cell]
        exact hj)
      (fun j hj => by rw [hr1.cell, List.getElem?_eq_getElem (by rw [hl1]; simp at hj; omega)]; rfl) (fun j hj => hr1.frozen _)
      (fun u hu => by
        simp at hu
        rcases hu with rfl | rfl
        · exact h1.1
        · exact h1.2)
    rw [e] at this
    exact this
  rw [← hW1] at hcp1
  have FIN := hid (show w.grownBy (W1.setCells g (i * 2) [q.k, q.v]) (some g) ∧ RowPr (W1.setCells g (i * 2) [q.k, q.v]) base (.slice (some ⟨g, 0, none⟩) (n + 1) c) (insV ps i q) from by
    refine ⟨grown_trans hg1 (grown_setCells g _ _ _), RowPr.of_row hbase (Row.setCells _ _ _ _ hr1 (by rw [hl1]; simp; omega)) (by rw [insV_length _ _ _ (by omega), hn]) hroom hcm (by rw [putL_length _ _ _ (by rw [hl1]; simp; omega), hl1]) ?_⟩
    rw [putL_take _ _ _ (by rw [hl1]; omega) _ (by simp; omega), putL_take_le _ _ _ (by omega) _ (by omega), show i * 2 + [q.k, q.v].length = (i + 1) * 2 by simp; omega, putL_drop _ _ _ (by omega)]
    rw [List.take_append_of_le_length (by rw [hml]; omega), show mv.take ((n + 1) * 2 - (i + 1) * 2) = mv from List.take_of_length_le (by rw [hml]; omega), flat_insV, hmv, ← htk, List.take_take, Nat.min_eq_left (by omega)])
  have hc63 : c ≤ 9223372036854775807 := by unfold maxLen at hcm; omega
  have HW := hid hW1
  clear hW1 hr1 hl1 hg1 hv1 hcell hml hmv hrow htk hone hcl hcm hfl hv hn h1
  have hw1 : IntKind.i64.wrap ((i : Int) + 1) = (i : Int) + 1 := by rw [IntKind.wrap_i64]; omega
  have hw2 : IntKind.i64.wrap ((n : Int) + 1) = (n : Int) + 1 := by rw [IntKind.wrap_i64]; omega
  have b1 : (0 : Int) ≤ (i : Int) + 1 := by omega
  have b2 : (0 : Int) ≤ (n : Int) + 1 := by omega
  have hin : i ≤ n := by omega
  have htn : ((i : Int) + 1).toNat = i + 1 := by omega
  have htn2 : ((n : Int) + 1).toNat = n + 1 := by omega
  have b3 : ¬ (c = i + 1) := by omega
  have b4 : (i : Int) ≤ (n : Int) + 1 := by omega
  have b5 : ¬ (c = i) := by omega
  have b6 : ¬ ((i : Int) = (n : Int)) := by omega
  have b7 : decide ((c : Int) < (n : Int) + 1) = false := by simp; omega
  have b8' : (n : Int) + 1 ≤ (c : Int) := by omega
  have b9 : (i : Int) + 1 ≤ (n : Int) + 1 := by omega
  have b10 : (i : Int) ≤ (n : Int) := by omega
  have b11 : n + 1 - (i + 1) = n - i := by omega
  go_enter Tryd.func57, Tryd.ntmps57
  go_wp2_with (simp only [hov])
  go_region_law (refine step_copy_run rfl (.tmp 73) (.tmp 76) 30 30 rfl _ _ (by simp [Act.eval, Act.put]; rfl) (by simp [Act.eval, Act.put]; rfl) (hcp1 _ _ _) ?_)
  go_wp2_with (at_builtin; refine wpList_copy_run _ rfl (.tmp 80) (.tmp 81) 30 30 rfl _ _ rfl rfl (hcp2 _ _) ?_)
  go_ret
  exact ⟨FIN.out.1, .slice (some ⟨g, 0, none⟩) (n + 1) c, rfl, FIN.out.2⟩
theorem grown_past {w w1 w2 : World} {r : Option Nat} {b : Nat} (h : w.grownBy w1 r) (hb : w.heap.size ≤ b) (k : w1.grownBy w2 (some b)) : w.grownBy w2 r :=
  ⟨k.os.trans h.os, k.tape.trans h.tape, k.output.trans h.output, Nat.le_trans h.size k.size, fun i hi hr => (k.block i (Nat.lt_of_lt_of_le hi h.size) (by simp; omega)).trans (h.block i hi hr)⟩
set_option maxRecDepth 100000 in
set_option maxHeartbeats 2000000 in
/-- ahead of others, where there is no room -/
theorem insert_grow (ps : List PrV) (i : Nat) (q : PrV) (base g vb c : Nat) (cs : List Value) (w : World) (hbase : base ≤ g) (hrow : Row w g 48 cs) (htk : cs.take (ps.length * 2) = ps.flatMap prCells) (hone : ∀ q ∈ ps, q.k.oneCell' = true ∧ q.v.oneCell' = true)
    (hv : Row w vb 48 [q.k, q.v]) (h1 : q.k.oneCell' = true ∧ q.v.oneCell' = true) (hi : i < ps.length) (hnc : ps.length ≤ c) (hroom : c < ps.length + 1) (hl : ps.length ≤ 1000) :
    Calls Tryd.prog 57 #[.slice (some ⟨g, 0, none⟩) ps.length c, .int .i64 (i : Int), .slice (some ⟨vb, 0, none⟩) 1 1] w fun e w' => w.grownBy w' (some g) ∧ ∃ v', e = .returned v' ∧ RowPr w' base v' (insV ps i q) := by
  obtain ⟨i0, hi0, hz0, hzs, hzb⟩ := info_parts info_pair
  have hsz : (Tryd.prog.info? 48).map (·.size) = some 2 := by kernel_rfl
  have hcell : ∀ j, w.drew.cell? ⟨g, j, none⟩ = cs[j]? := fun j => hrow.drew.cell j
  obtain ⟨n, hn⟩ : ∃ n, ps.length = n := ⟨_, rfl⟩
  rw [hn] at hi hroom htk hnc hl ⊢
  have hfl : (ps.flatMap prCells).length = n * 2 := by rw [flatPr_len, hn]
  obtain ⟨mv, hmv⟩ : ∃ mv, mv = (ps.flatMap prCells).drop (i * 2) := ⟨_, rfl⟩
  have hml : mv.length = (n - i) * 2 := by rw [hmv, List.length_drop, hfl]; omega
  obtain ⟨olds, holds⟩ : ∃ olds, olds = (ps.flatMap prCells).take (i * 2) := ⟨_, rfl⟩
  have hol : olds.length = i * 2 := by rw [holds, List.length_take, hfl]; omega
  have hold : (Builtin.firstCells i0.size i (.slice (some ⟨g, 0, none⟩) i c)).run Tryd.prog w.drew = .ok olds.toArray w.drew := by
    rw [hzs]
    exact run_firstCells_some w.drew 2 i ⟨g, 0, none⟩ i c olds hol (fun j u hj => by
      have hadd : (⟨g, 0, none⟩ : Addr).add j = ⟨g, j, none⟩ := by unfold Addr.add; split <;> simp_all
      rw [hadd, hcell]
      rw [holds, List.getElem?_take] at hj
      split at hj
      · exact flat_get_some htk _ u hj
      · cases hj)
  obtain ⟨G, hG⟩ : ∃ G, G = grownCap w (n + 1) c 48 := ⟨_, rfl⟩
  obtain ⟨zc, hzc⟩ : ∃ zc, zc = (Value.agg #[.slice none 0 0, .slice none 0 0]).cells := ⟨_, rfl⟩
  have hzl : zc.size = 2 := by rw [hzc]; rfl
  obtain ⟨W1, hW1⟩ : ∃ W1, W1 = w.drew.alloc (.cells (olds.toArray ++ Builtin.zeroCells zc (n + 1 - i) ++ Builtin.zeroCells zc (G - (n + 1))) 48) := ⟨_, rfl⟩
  have hGn : n + 1 ≤ G := by rw [hG]; exact grownCap_ge w _ _ _
  have hGm : G ≤ maxLen := by rw [hG]; exact grownCap_le_maxLen w (n + 1) c 48 (by unfold maxLen; omega)
  have hrz : ∀ ty, (Builtin.append_ #[30, 3] ty #[.slice (some ⟨g, 0, none⟩) i c, .int .i64 ((n : Int) + 1 - (i : Int))]).run Tryd.prog w = .ok (.slice (some ⟨w.heap.size, 0, none⟩) (n + 1) G) W1 := fun ty => by
    have h := Lib.run_append_grow_zeros w 30 3 ty 48 i0 _ .i64 .i64 Tryd.underlying30 Tryd.underlying3 hi0 hz0 (some ⟨g, 0, none⟩) i c olds hold (n + 1 - i) (by omega) (by omega) (by omega) (by omega) (by rw [hzb]; omega) (by rw [hzb, show i + (n + 1 - i) = n + 1 by omega]; exact growslice_fits hroom (by omega))
    rw [show i + (n + 1 - i) = n + 1 by omega] at h
    rw [show (n : Int) + 1 - (i : Int) = ((n + 1 - i : Nat) : Int) by omega, h, hW1, ← hG, hzc]
  obtain ⟨R0, hR0⟩ : ∃ R0 : List Value, R0 = olds ++ ((Builtin.zeroCells zc (n + 1 - i)).toList ++ (Builtin.zeroCells zc (G - (n + 1))).toList) := ⟨_, rfl⟩
  have hr1 : Row W1 w.heap.size 48 R0 := by
    have := Row.new w.drew 48 R0
    rw [hW1, show (olds.toArray ++ Builtin.zeroCells zc (n + 1 - i) ++ Builtin.zeroCells zc (G - (n + 1))) = R0.toArray by rw [hR0]; simp]
    exact this
  have hl1 : R0.length = G * 2 := by
    rw [hR0]
    simp only [List.length_append, Array.length_toList, size_zeroCells, hzl, hol]
    omega
  have htk1 : R0.take (i * 2) = olds := by
    rw [hR0, List.take_append_of_le_length (by omega), List.take_of_length_le (by omega)]
  have hg1 : w.grownBy W1 (some g) := by
    rw [hW1]
    exact grown_trans (⟨rfl, rfl, rfl, Nat.le_refl _, fun _ _ _ => rfl⟩ : w.grownBy w.drew _) (grown_alloc w.drew _ _)
  have hgw : g < w.heap.size := hrow.lt
  have hvw : vb < w.heap.size := hv.lt
  have hbl1 : Below w.heap.size w W1 := by
    rw [hW1]
    exact (show Below w.heap.size w w.drew from ⟨rfl, rfl, rfl, Nat.le_refl _, fun _ _ => rfl⟩).alloc (Nat.le_refl _) _
  have hv1 : Row W1 vb 48 [q.k, q.v] := hv.below hbl1 hvw
  obtain ⟨B, hB⟩ : ∃ B, w.heap.size = B := ⟨_, rfl⟩
  have hcpA : ∀ ty dc, (Builtin.copy_ #[30, 30] ty #[.slice (some ⟨B, i * 2, none⟩) (n + 1 - i) dc, .slice (some ⟨vb, 0, none⟩) 1 1]).run Tryd.prog W1 = .ok (goInt ((1 : Nat) : Int)) (W1.setCells B (i * 2) [q.k, q.v]) := fun ty dc => by
    rw [← hB]
    have e : Nat.min 1 (n + 1 - i) = 1 := by simp only [Nat.min_def]; split <;> omega
    have := run_copy_wide (P := Tryd.prog) W1 30 30 ty 48 2 w.heap.size (i * 2) (n + 1 - i) dc ⟨vb, 0, none⟩ 1 1 [q.k, q.v] Tryd.underlying30 hsz (by rw [e]; rfl)
      (fun j u hj => by
        have hadd : (⟨vb, 0, none⟩ : Addr).add j = ⟨vb, j, none⟩ := by unfold Addr.add; split <;> simp_all
        rw [hadd, hv1.cell]
        exact hj)
      (fun j hj => by rw [hr1.cell, List.getElem?_eq_getElem (by rw [hl1]; simp at hj; omega)]; rfl) (fun j hj => hr1.frozen _)
      (fun u hu => by
        simp at hu
        rcases hu with rfl | rfl
        · exact h1.1
        · exact h1.2)
    rw [e] at this
    exact this
  obtain ⟨W2, hW2⟩ : ∃ W2, W2 = W1.setCells B (i * 2) [q.k, q.v] := ⟨_, rfl⟩
  rw [← hW2] at hcpA
  have hr2 : Row W2 w.heap.size 48 (putL R0 (i * 2) [q.k, q.v]) := by
    rw [hW2, ← hB]
    exact Row.setCells _ _ _ _ hr1 (by rw [hl1]; simp; omega)
  have hl2 : (putL R0 (i * 2) [q.k, q.v]).length = G * 2 := by rw [putL_length _ _ _ (by rw [hl1]; simp; omega), hl1]
  have hg2 : w.grownBy W2 (some g) := by
    rw [hW2, ← hB]
    exact grown_past hg1 (Nat.le_refl _) (grown_setCells _ _ _ _)
  have hrg2 : Row W2 g 48 cs := by
    rw [hW2]
    exact (hrow.below hbl1 hgw).grown (grown_setCells B _ _ W1) (by simp; omega)
  have hcpB : ∀ ty dc sc, (Builtin.copy_ #[30, 30] ty #[.slice (some ⟨B, (i + 1) * 2, none⟩) (n - i) dc, .slice (some ⟨g, i * 2, none⟩) (n - i) sc]).run Tryd.prog W2.drew = .ok (goInt ((n - i : Nat) : Int)) (W2.drew.setCells B ((i + 1) * 2) mv) := fun ty dc sc => by
    rw [← hB]
    have e : Nat.min (n - i) (n - i) = n - i := Nat.min_self _
    have := run_copy_wide (P := Tryd.prog) W2.drew 30 30 ty 48 2 w.heap.size ((i + 1) * 2) (n - i) dc ⟨g, i * 2, none⟩ (n - i) sc mv Tryd.underlying30 hsz (by rw [hml, e])
      (fun j u hj => by
        have hadd : (⟨g, i * 2, none⟩ : Addr).add j = ⟨g, i * 2 + j, none⟩ := by unfold Addr.add; split <;> simp_all
        rw [hadd, hrg2.drew.cell]
        rw [hmv, List.getElem?_drop] at hj
        exact flat_get_some htk _ u hj)
      (fun j hj => by rw [hr2.drew.cell, List.getElem?_eq_getElem (by rw [hml] at hj; rw [hl2]; omega)]; rfl) (fun j hj => hr2.drew.frozen _)
      (fun u hu => flat_one hone u (by rw [hmv] at hu; exact List.mem_of_mem_drop hu))
    rw [e] at this
    exact this
  have FIN := hid (show w.grownBy (W2.drew.setCells B ((i + 1) * 2) mv) (some g) ∧ RowPr (W2.drew.setCells B ((i + 1) * 2) mv) base (.slice (some ⟨B, 0, none⟩) (n + 1) G) (insV ps i q) from by
    rw [← hB]
    refine ⟨grown_past (grown_drew hg2) (Nat.le_refl _) (grown_setCells _ _ _ _), RowPr.of_row (by omega) (Row.setCells _ _ _ _ hr2.drew (by rw [hl2, hml]; omega)) (by rw [insV_length _ _ _ (by omega), hn]) hGn hGm (by rw [putL_length _ _ _ (by rw [hl2, hml]; omega), hl2]) ?_⟩
    rw [putL_take _ _ _ (by rw [hl2]; omega) _ (by rw [hml]; omega), putL_take _ _ _ (by rw [hl1]; omega) _ (by simp; omega), hml, htk1]
    rw [show (i + 1) * 2 - (i * 2 + [q.k, q.v].length) = 0 by simp; omega, show (n + 1) * 2 - ((i + 1) * 2 + (n - i) * 2) = 0 by omega, List.take_zero, List.take_zero, List.append_nil, List.append_nil, flat_insV, holds, hmv])
  have hG63 : G ≤ 9223372036854775807 := by unfold maxLen at hGm; omega
  have HB := hid hB
  rw [hB] at hrz
  clear hW1 hW2 hr1 hr2 hrg2 hl1 hl2 hg1 hg2 hv1 hcell hml hmv hrow htk hone hfl hv hn h1 htk1 hR0 hold holds hol hG hzc hzl hbl1 hGm hB hi0 hz0 hzs hzb
  have hw1 : IntKind.i64.wrap ((i : Int) + 1) = (i : Int) + 1 := by rw [IntKind.wrap_i64]; omega
  have hw2 : IntKind.i64.wrap ((n : Int) + 1) = (n : Int) + 1 := by rw [IntKind.wrap_i64]; omega
  have hw3 : IntKind.i64.wrap ((n : Int) + 1 - (i : Int)) = (n : Int) + 1 - (i : Int) := by rw [IntKind.wrap_i64]; omega
  have b1 : (0 : Int) ≤ (i : Int) + 1 := by omega
  have hin : i ≤ n := by omega
  have htn : ((i : Int) + 1).toNat = i + 1 := by omega
  have b3 : ¬ (G = i + 1) := by omega
  have b4 : (i : Int) ≤ (n : Int) + 1 := by omega
  have b5 : ¬ (c = i) := by omega
  have b5' : ¬ (G = i) := by omega
  have b6 : ¬ ((i : Int) = (n : Int)) := by omega
  have b7 : decide ((c : Int) < (n : Int) + 1) = true := by simp; omega
  have b9 : (i : Int) + 1 ≤ (n : Int) + 1 := by omega
  have b10 : (i : Int) ≤ (n : Int) := by omega
  have b11 : n + 1 - (i + 1) = n - i := by omega
  have b12 : (i : Int) ≤ (c : Int) := by omega
  go_enter Tryd.func57, Tryd.ntmps57
  go_wp2_with (first
    | (at_builtin; refine Lib.wpList_append_run _ rfl (.tmp 34) (.tmp 39) _ _ rfl _ _ rfl rfl _ _ (hrz _) ?_)
    | (at_builtin; refine wpList_copy_run _ rfl (.tmp 43) (.tmp 44) 30 30 rfl _ _ rfl rfl (hcpA _ _) ?_))
  go_region_law (refine step_copy_run rfl (.tmp 50) (.tmp 53) 30 30 rfl _ _ (by simp [Act.eval, Act.put]; rfl) (by simp [Act.eval, Act.put]; rfl) (hcpB _ _ _) ?_)
  go_wp2
  go_ret
  exact ⟨FIN.out.1, .slice (some ⟨B, 0, none⟩) (n + 1) G, rfl, FIN.out.2⟩
theorem insert_any (ps : List PrV) (i : Nat) (q : PrV) (base vb : Nat) (v : Value) (w : World) (h : RowPr w base v ps) (hb : base ≤ w.heap.size) (hone : ∀ q ∈ ps, q.k.oneCell' = true ∧ q.v.oneCell' = true) (hv : Row w vb 48 [q.k, q.v]) (h1 : q.k.oneCell' = true ∧ q.v.oneCell' = true)
    (hne : ∀ g, v.ownBlock = some g → vb ≠ g) (hi : i ≤ ps.length) (hl : ps.length ≤ 1000) :
    Calls Tryd.prog 57 #[v, .int .i64 (i : Int), .slice (some ⟨vb, 0, none⟩) 1 1] w fun e w' => w.grownBy w' v.ownBlock ∧ ∃ v', e = .returned v' ∧ RowPr w' base v' (insV ps i q) := by
  by_cases he : i = ps.length
  · subst he
    exact insert_end ps q base vb v w h hb hv h1 hl
  · obtain ⟨g, c, cs, rfl, hbase, hrow, hnc, hcm, hcl, htk⟩ := h.row (by omega)
    by_cases hroom : ps.length + 1 ≤ c
    · exact insert_shift ps i q base g vb c cs w hbase hrow hcl hcm htk hone hv h1 (hne g rfl) (by omega) hroom
    · exact insert_grow ps i q base g vb c cs w hbase hrow htk hone hv h1 (by omega) hnc (by omega) hl
end Go.Proofs.YtooemgkjkngpcaaDoor
