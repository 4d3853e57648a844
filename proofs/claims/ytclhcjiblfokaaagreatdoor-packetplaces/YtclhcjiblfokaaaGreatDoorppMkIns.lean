/-
  What slices.Insert does with a row of marks that a call owns, of one mark that lies in a block of its own.
-/
import Derived.Test.YtclhcjiblfokaaaGreatDoorppBookRow
import Derived.Test.YtclhcjiblfokaaaGreatDoorppCoAdd
import Derived.Test.YtclhcjiblfokaaaGreatDoorppStClone
namespace Go.Proofs.YtclhcjiblfokaaaGreatDoor
open Go.RowKit

theorem grown_past {w w1 w2 : World} {r : Option Nat} {b : Nat} (h : w.grownBy w1 r) (hb : w.heap.size ≤ b) (k : w1.grownBy w2 (some b)) : w.grownBy w2 r :=
  ⟨k.os.trans h.os, k.tape.trans h.tape, k.output.trans h.output, Nat.le_trans h.size k.size, fun i hi hr => (k.block i (Nat.lt_of_lt_of_le hi h.size) (by simp; omega)).trans (h.block i hi hr)⟩
end Go.Proofs.YtclhcjiblfokaaaGreatDoor
namespace Go.Proofs.YtclhcjiblfokaaaGreatDoor
open Go.RowKit

theorem info_mark : (Tryz.prog.info? 59).map (fun i => (i.zero, i.size, i.bytes)) = some (some (.agg #[.int .i64 0, .int .i64 0, .slice none 0 0]), 3, 40) := by kernel_rfl
theorem sizeMk : ∀ w : World, (sizeOf 59).run Tryz.prog w = .ok 3 w := by intro w; kernel_rfl
theorem insR_ok {ps : List (List Value)} {i : Nat} {x0 x1 x2 : Value} (h : ∀ r ∈ ps, r.length = 3 ∧ ∀ x ∈ r, x.oneCell' = true) (h1 : x0.oneCell' = true ∧ x1.oneCell' = true ∧ x2.oneCell' = true) : ∀ r ∈ insR ps i [x0, x1, x2], r.length = 3 ∧ ∀ x ∈ r, x.oneCell' = true := by
  intro r hr
  unfold insR at hr
  rcases List.mem_append.1 hr with hr | hr
  · exact h r (List.mem_of_mem_take hr)
  · rcases List.mem_cons.1 hr with rfl | hr
    · refine ⟨rfl, fun x hx => ?_⟩
      simp at hx
      rcases hx with rfl | rfl | rfl
      · exact h1.1
      · exact h1.2.1
      · exact h1.2.2
    · exact h r (List.mem_of_mem_drop hr)
theorem mflat_get {ps : List (List Value)} {cs : List Value} {n : Nat} (h : cs.take (n * 3) = ps.flatten) (j : Nat) (u : Value) (hu : ps.flatten[j]? = some u) : cs[j]? = some u := by
  rw [← h, List.getElem?_take] at hu
  split at hu
  · exact hu
  · cases hu
theorem RowT.row {t : TypeId} {k : Nat} {w : World} {base : Nat} {v : Value} {ps : List (List Value)} (h : RowT t k w base v ps) (h0 : 0 < ps.length) : ∃ g c cs, v = .slice (some ⟨g, 0, none⟩) ps.length c ∧ base ≤ g ∧ Row w g t cs ∧ ps.length ≤ c ∧ c ≤ maxLen ∧ cs.length = c * k ∧ cs.take (ps.length * k) = ps.flatten := by
  obtain ⟨_, h1, h2⟩ := h
  rcases h2 with ⟨_, h3⟩ | ⟨g, c, cur, h3, h4, h5, h6, h7, h8, h9⟩
  · omega
  · exact ⟨g, c, cur.toList, h3, h4, h5, h6, h7, by simpa using h8, h9⟩
theorem RowT.of_row {t : TypeId} {k : Nat} {w : World} {base g n c : Nat} {cs : List Value} {ps : List (List Value)} (hok : ∀ r ∈ ps, r.length = k ∧ ∀ x ∈ r, x.oneCell' = true) (hb : base ≤ g) (hr : Row w g t cs) (hn : n = ps.length) (hc : n ≤ c) (hm : c ≤ maxLen) (hl : cs.length = c * k) (ht : cs.take (n * k) = ps.flatten) : RowT t k w base (.slice (some ⟨g, 0, none⟩) n c) ps := by
  subst hn
  exact ⟨hok, flat_lenR ps (fun r hr => (hok r hr).1), .inr ⟨g, c, cs.toArray, rfl, hb, hr, hc, hm, by simpa using hl, ht⟩⟩
set_option maxRecDepth 100000 in
set_option maxHeartbeats 2000000 in
/-- ahead of others, where there is room -/
theorem minsert_shift (ps : List (List Value)) (i : Nat) (x0 x1 x2 : Value) (base g vb c : Nat) (cs : List Value) (w : World) (hbase : base ≤ g) (hrow : Row w g 59 cs) (hcl : cs.length = c * 3) (hcm : c ≤ maxLen) (htk : cs.take (ps.length * 3) = ps.flatten) (hone : ∀ r ∈ ps, r.length = 3 ∧ ∀ x ∈ r, x.oneCell' = true)
    (hv : Row w vb 59 [x0, x1, x2]) (h1 : x0.oneCell' = true ∧ x1.oneCell' = true ∧ x2.oneCell' = true) (hne : vb ≠ g) (hi : i < ps.length) (hroom : ps.length + 1 ≤ c) :
    Calls Tryz.prog 91 #[.slice (some ⟨g, 0, none⟩) ps.length c, .int .i64 (i : Int), .slice (some ⟨vb, 0, none⟩) 1 1] w fun e w' => w.grownBy w' (some g) ∧ ∃ v', e = .returned v' ∧ RowT 59 3 w' base v' (insR ps i [x0, x1, x2]) ∧ ∀ b, v'.ownBlock = some b → b = g ∨ w.heap.size ≤ b := by
  have hsz : (Tryz.prog.info? 59).map (·.size) = some 3 := by kernel_rfl
  have hcell : ∀ j, w.drew.cell? ⟨g, j, none⟩ = cs[j]? := fun j => hrow.drew.cell j
  obtain ⟨n, hn⟩ : ∃ n, ps.length = n := ⟨_, rfl⟩
  rw [hn] at hi hroom htk ⊢
  have hfl : (ps.flatten).length = n * 3 := by rw [flat_lenR ps (fun r hr => (hone r hr).1), hn]
  obtain ⟨mv, hmv⟩ : ∃ mv, mv = (ps.flatten).drop (i * 3) := ⟨_, rfl⟩
  have hml : mv.length = (n - i) * 3 := by rw [hmv, List.length_drop, hfl]; omega
  have hov : ∀ x lb cb, (callFunc 131 #[.slice (some ⟨vb, 0, none⟩) 1 1, .slice (some ⟨g, x, none⟩) lb cb]).run Tryz.prog w = .ok (.value (.bool false)) w := fun x lb cb => by
    rw [run_callFunc_extern Tryz.func131 (by kernel_rfl) (by kernel_rfl) (by kernel_rfl) (e := Extern.SlicesOverlaps.overlaps #[25, 25] #[4]) (by kernel_rfl)]
    rw [Lib.run_overlaps_apart w 25 4 59 Tryz.underlying25 3 sizeMk ⟨vb, 0, none⟩ ⟨g, x, none⟩ 1 1 lb cb hne 59 59 3 (c * 3) (by simp [World.shape?, show w.heap[vb]? = _ from hv]) (by simp [World.shape?, show w.heap[g]? = _ from hrow, hcl]) (by omega) (hv.frozen 0) (hv.frozen 3)]
    rfl
  have hcp1 : ∀ ty dc sc, (Builtin.copy_ #[25, 25] ty #[.slice (some ⟨g, (i + 1) * 3, none⟩) (n - i) dc, .slice (some ⟨g, i * 3, none⟩) (n + 1 - i) sc]).run Tryz.prog w.drew = .ok (goInt ((n - i : Nat) : Int)) (w.drew.setCells g ((i + 1) * 3) mv) := fun ty dc sc => by
    have e : Nat.min (n + 1 - i) (n - i) = n - i := by simp only [Nat.min_def]; split <;> omega
    have := run_copy_wide (P := Tryz.prog) w.drew 25 25 ty 59 3 g ((i + 1) * 3) (n - i) dc ⟨g, i * 3, none⟩ (n + 1 - i) sc mv Tryz.underlying25 hsz (by rw [hml, e])
      (fun j u hj => by
        have hadd : (⟨g, i * 3, none⟩ : Addr).add j = ⟨g, i * 3 + j, none⟩ := by unfold Addr.add; split <;> simp_all
        rw [hadd, hcell]
        rw [hmv, List.getElem?_drop] at hj
        exact mflat_get htk _ u hj)
      (fun j hj => by rw [hcell, List.getElem?_eq_getElem (by rw [hml] at hj; omega)]; rfl) (fun j hj => hrow.drew.frozen _)
      (fun u hu => flatT_one hone u (by rw [hmv] at hu; exact List.mem_of_mem_drop hu))
    rw [e] at this
    exact this
  obtain ⟨W1, hW1⟩ : ∃ W1, W1 = w.drew.setCells g ((i + 1) * 3) mv := ⟨_, rfl⟩
  have hr1 : Row W1 g 59 (putL cs ((i + 1) * 3) mv) := by
    rw [hW1]
    exact Row.setCells _ _ _ _ hrow.drew (by rw [hml]; omega)
  have hl1 : (putL cs ((i + 1) * 3) mv).length = c * 3 := by rw [putL_length _ _ _ (by rw [hml]; omega), hcl]
  have hg1 : w.grownBy W1 (some g) := by rw [hW1]; exact grown_trans (⟨rfl, rfl, rfl, Nat.le_refl _, fun _ _ _ => rfl⟩ : w.grownBy w.drew _) (grown_setCells g _ _ w.drew)
  have hv1 : Row W1 vb 59 [x0, x1, x2] := hv.grown hg1 (by simpa using hne)
  have hcp2 : ∀ ty dc, (Builtin.copy_ #[25, 25] ty #[.slice (some ⟨g, i * 3, none⟩) (n + 1 - i) dc, .slice (some ⟨vb, 0, none⟩) 1 1]).run Tryz.prog W1 = .ok (goInt ((1 : Nat) : Int)) (W1.setCells g (i * 3) [x0, x1, x2]) := fun ty dc => by
    have e : Nat.min 1 (n + 1 - i) = 1 := by simp only [Nat.min_def]; split <;> omega
    have := run_copy_wide (P := Tryz.prog) W1 25 25 ty 59 3 g (i * 3) (n + 1 - i) dc ⟨vb, 0, none⟩ 1 1 [x0, x1, x2] Tryz.underlying25 hsz (by rw [e]; rfl)
      (fun j u hj => by
        have hadd : (⟨vb, 0, none⟩ : Addr).add j = ⟨vb, j, none⟩ := by unfold Addr.add; split <;> simp_all
        rw [hadd, hv1.cell]
        exact hj)
      (fun j hj => by rw [hr1.cell, List.getElem?_eq_getElem (by rw [hl1]; simp at hj; omega)]; rfl) (fun j hj => hr1.frozen _)
      (fun u hu => by
        simp at hu
        rcases hu with rfl | rfl | rfl
        · exact h1.1
        · exact h1.2.1
        · exact h1.2.2)
    rw [e] at this
    exact this
  rw [← hW1] at hcp1
  have FIN := hid (show w.grownBy (W1.setCells g (i * 3) [x0, x1, x2]) (some g) ∧ RowT 59 3 (W1.setCells g (i * 3) [x0, x1, x2]) base (.slice (some ⟨g, 0, none⟩) (n + 1) c) (insR ps i [x0, x1, x2]) from by
    refine ⟨grown_trans hg1 (grown_setCells g _ _ _), RowT.of_row (insR_ok hone h1) hbase (Row.setCells _ _ _ _ hr1 (by rw [hl1]; simp; omega)) (by rw [insR_length _ _ _ (by omega), hn]) hroom hcm (by rw [putL_length _ _ _ (by rw [hl1]; simp; omega), hl1]) ?_⟩
    rw [putL_take _ _ _ (by rw [hl1]; omega) _ (by simp; omega), putL_take_le _ _ _ (by omega) _ (by omega), show i * 3 + [x0, x1, x2].length = (i + 1) * 3 by simp; omega, putL_drop _ _ _ (by omega)]
    rw [List.take_append_of_le_length (by rw [hml]; omega), show mv.take ((n + 1) * 3 - (i + 1) * 3) = mv from List.take_of_length_le (by rw [hml]; omega), flat_insR (fun r hr => (hone r hr).1), hmv, ← htk, List.take_take, Nat.min_eq_left (by omega)])
  have hc63 : c ≤ 9223372036854775807 := by unfold maxLen at hcm; omega
  have HW := hid hW1
  clear hW1 hr1 hl1 hg1 hv1 hcell hml hmv hrow htk hone hcl hcm hfl hv hn h1
  have hw1 : IntKind.i64.wrap ((i : Int) + 1) = (i : Int) + 1 := by rw [IntKind.wrap_i64]; omega
  have hw2 : IntKind.i64.wrap ((n : Int) + 1) = (n : Int) + 1 := by rw [IntKind.wrap_i64]; omega
  have b1 : (0 : Int) ≤ (i : Int) + 1 := by omega
  have b2 : (0 : Int) ≤ (n : Int) + 1 := by omega
  have hin : i ≤ n := by omega
  have htn : ((i : Int) + 1).toNat = i + 1 := by omega
  have htn2 : ((n : Int) + 1).toNat = n + 1 := by omega
  have b3 : ¬ (c = i + 1) := by omega
  have b4 : (i : Int) ≤ (n : Int) + 1 := by omega
  have b5 : ¬ (c = i) := by omega
  have b6 : ¬ ((i : Int) = (n : Int)) := by omega
  have b7 : decide ((c : Int) < (n : Int) + 1) = false := by simp; omega
  have b8' : (n : Int) + 1 ≤ (c : Int) := by omega
  have b9 : (i : Int) + 1 ≤ (n : Int) + 1 := by omega
  have b10 : (i : Int) ≤ (n : Int) := by omega
  have b11 : n + 1 - (i + 1) = n - i := by omega
  go_enter Tryz.func91, Tryz.ntmps91
  go_wp2_with (simp only [hov])
  go_region_law (refine step_copy_run rfl (.tmp 73) (.tmp 76) 25 25 rfl _ _ (by simp [Act.eval, Act.put]; rfl) (by simp [Act.eval, Act.put]; rfl) (hcp1 _ _ _) ?_)
  go_wp2_with (at_builtin; refine wpList_copy_run _ rfl (.tmp 80) (.tmp 81) 25 25 rfl _ _ rfl rfl (hcp2 _ _) ?_)
  go_ret
  exact ⟨FIN.out.1, .slice (some ⟨g, 0, none⟩) (n + 1) c, rfl, FIN.out.2, fun b e => .inl (by simpa [Value.ownBlock] using e.symm)⟩
set_option maxRecDepth 100000 in
set_option maxHeartbeats 2000000 in
/-- ahead of others, where there is no room -/
theorem minsert_grow (ps : List (List Value)) (i : Nat) (x0 x1 x2 : Value) (base g vb c : Nat) (cs : List Value) (w : World) (hbase : base ≤ g) (hrow : Row w g 59 cs) (htk : cs.take (ps.length * 3) = ps.flatten) (hone : ∀ r ∈ ps, r.length = 3 ∧ ∀ x ∈ r, x.oneCell' = true)
    (hv : Row w vb 59 [x0, x1, x2]) (h1 : x0.oneCell' = true ∧ x1.oneCell' = true ∧ x2.oneCell' = true) (hi : i < ps.length) (hnc : ps.length ≤ c) (hroom : c < ps.length + 1) (hl : ps.length ≤ 1000) :
    Calls Tryz.prog 91 #[.slice (some ⟨g, 0, none⟩) ps.length c, .int .i64 (i : Int), .slice (some ⟨vb, 0, none⟩) 1 1] w fun e w' => w.grownBy w' (some g) ∧ ∃ v', e = .returned v' ∧ RowT 59 3 w' base v' (insR ps i [x0, x1, x2]) ∧ ∀ b, v'.ownBlock = some b → b = g ∨ w.heap.size ≤ b := by
  obtain ⟨i0, hi0, hz0, hzs, hzb⟩ := info_parts info_mark
  have hsz : (Tryz.prog.info? 59).map (·.size) = some 3 := by kernel_rfl
  have hcell : ∀ j, w.drew.cell? ⟨g, j, none⟩ = cs[j]? := fun j => hrow.drew.cell j
  obtain ⟨n, hn⟩ : ∃ n, ps.length = n := ⟨_, rfl⟩
  rw [hn] at hi hroom htk hnc hl ⊢
  have hfl : (ps.flatten).length = n * 3 := by rw [flat_lenR ps (fun r hr => (hone r hr).1), hn]
  obtain ⟨mv, hmv⟩ : ∃ mv, mv = (ps.flatten).drop (i * 3) := ⟨_, rfl⟩
  have hml : mv.length = (n - i) * 3 := by rw [hmv, List.length_drop, hfl]; omega
  obtain ⟨olds, holds⟩ : ∃ olds, olds = (ps.flatten).take (i * 3) := ⟨_, rfl⟩
  have hol : olds.length = i * 3 := by rw [holds, List.length_take, hfl]; omega
  have hold : (Builtin.firstCells i0.size i (.slice (some ⟨g, 0, none⟩) i c)).run Tryz.prog w.drew = .ok olds.toArray w.drew := by
    rw [hzs]
    exact run_firstCells_some w.drew 3 i ⟨g, 0, none⟩ i c olds hol (fun j u hj => by
      have hadd : (⟨g, 0, none⟩ : Addr).add j = ⟨g, j, none⟩ := by unfold Addr.add; split <;> simp_all
      rw [hadd, hcell]
      rw [holds, List.getElem?_take] at hj
      split at hj
      · exact mflat_get htk _ u hj
      · cases hj)
  obtain ⟨G, hG⟩ : ∃ G, G = grownCap w (n + 1) c 59 := ⟨_, rfl⟩
  obtain ⟨zc, hzc⟩ : ∃ zc, zc = (Value.agg #[.int .i64 0, .int .i64 0, .slice none 0 0]).cells := ⟨_, rfl⟩
  have hzl : zc.size = 3 := by rw [hzc]; rfl
  obtain ⟨W1, hW1⟩ : ∃ W1, W1 = w.drew.alloc (.cells (olds.toArray ++ Builtin.zeroCells zc (n + 1 - i) ++ Builtin.zeroCells zc (G - (n + 1))) 59) := ⟨_, rfl⟩
  have hGn : n + 1 ≤ G := by rw [hG]; exact grownCap_ge w _ _ _
  have hGm : G ≤ maxLen := by rw [hG]; exact grownCap_le_maxLen w (n + 1) c 59 (by unfold maxLen; omega)
  have hrz : ∀ ty, (Builtin.append_ #[25, 3] ty #[.slice (some ⟨g, 0, none⟩) i c, .int .i64 ((n : Int) + 1 - (i : Int))]).run Tryz.prog w = .ok (.slice (some ⟨w.heap.size, 0, none⟩) (n + 1) G) W1 := fun ty => by
    have h := Lib.run_append_grow_zeros w 25 3 ty 59 i0 _ .i64 .i64 Tryz.underlying25 Tryz.underlying3 hi0 hz0 (some ⟨g, 0, none⟩) i c olds hold (n + 1 - i) (by omega) (by omega) (by omega) (by omega) (by rw [hzb]; omega) (by rw [hzb, show i + (n + 1 - i) = n + 1 by omega]; exact growslice_fits hroom (by omega))
    rw [show i + (n + 1 - i) = n + 1 by omega] at h
    rw [show (n : Int) + 1 - (i : Int) = ((n + 1 - i : Nat) : Int) by omega, h, hW1, ← hG, hzc]
  obtain ⟨R0, hR0⟩ : ∃ R0 : List Value, R0 = olds ++ ((Builtin.zeroCells zc (n + 1 - i)).toList ++ (Builtin.zeroCells zc (G - (n + 1))).toList) := ⟨_, rfl⟩
  have hr1 : Row W1 w.heap.size 59 R0 := by
    have := Row.new w.drew 59 R0
    rw [hW1, show (olds.toArray ++ Builtin.zeroCells zc (n + 1 - i) ++ Builtin.zeroCells zc (G - (n + 1))) = R0.toArray by rw [hR0]; simp]
    exact this
  have hl1 : R0.length = G * 3 := by
    rw [hR0]
    simp only [List.length_append, Array.length_toList, size_zeroCells, hzl, hol]
    omega
  have htk1 : R0.take (i * 3) = olds := by
    rw [hR0, List.take_append_of_le_length (by omega), List.take_of_length_le (by omega)]
  have hg1 : w.grownBy W1 (some g) := by
    rw [hW1]
    exact grown_trans (⟨rfl, rfl, rfl, Nat.le_refl _, fun _ _ _ => rfl⟩ : w.grownBy w.drew _) (grown_alloc w.drew _ _)
  have hgw : g < w.heap.size := hrow.lt
  have hvw : vb < w.heap.size := hv.lt
  have hbl1 : Below w.heap.size w W1 := by
    rw [hW1]
    exact (show Below w.heap.size w w.drew from ⟨rfl, rfl, rfl, Nat.le_refl _, fun _ _ => rfl⟩).alloc (Nat.le_refl _) _
  have hv1 : Row W1 vb 59 [x0, x1, x2] := hv.below hbl1 hvw
  obtain ⟨B, hB⟩ : ∃ B, w.heap.size = B := ⟨_, rfl⟩
  have hcpA : ∀ ty dc, (Builtin.copy_ #[25, 25] ty #[.slice (some ⟨B, i * 3, none⟩) (n + 1 - i) dc, .slice (some ⟨vb, 0, none⟩) 1 1]).run Tryz.prog W1 = .ok (goInt ((1 : Nat) : Int)) (W1.setCells B (i * 3) [x0, x1, x2]) := fun ty dc => by
    rw [← hB]
    have e : Nat.min 1 (n + 1 - i) = 1 := by simp only [Nat.min_def]; split <;> omega
    have := run_copy_wide (P := Tryz.prog) W1 25 25 ty 59 3 w.heap.size (i * 3) (n + 1 - i) dc ⟨vb, 0, none⟩ 1 1 [x0, x1, x2] Tryz.underlying25 hsz (by rw [e]; rfl)
      (fun j u hj => by
        have hadd : (⟨vb, 0, none⟩ : Addr).add j = ⟨vb, j, none⟩ := by unfold Addr.add; split <;> simp_all
        rw [hadd, hv1.cell]
        exact hj)
      (fun j hj => by rw [hr1.cell, List.getElem?_eq_getElem (by rw [hl1]; simp at hj; omega)]; rfl) (fun j hj => hr1.frozen _)
      (fun u hu => by
        simp at hu
        rcases hu with rfl | rfl | rfl
        · exact h1.1
        · exact h1.2.1
        · exact h1.2.2)
    rw [e] at this
    exact this
  obtain ⟨W2, hW2⟩ : ∃ W2, W2 = W1.setCells B (i * 3) [x0, x1, x2] := ⟨_, rfl⟩
  rw [← hW2] at hcpA
  have hr2 : Row W2 w.heap.size 59 (putL R0 (i * 3) [x0, x1, x2]) := by
    rw [hW2, ← hB]
    exact Row.setCells _ _ _ _ hr1 (by rw [hl1]; simp; omega)
  have hl2 : (putL R0 (i * 3) [x0, x1, x2]).length = G * 3 := by rw [putL_length _ _ _ (by rw [hl1]; simp; omega), hl1]
  have hg2 : w.grownBy W2 (some g) := by
    rw [hW2, ← hB]
    exact grown_past hg1 (Nat.le_refl _) (grown_setCells _ _ _ _)
  have hrg2 : Row W2 g 59 cs := by
    rw [hW2]
    exact (hrow.below hbl1 hgw).grown (grown_setCells B _ _ W1) (by simp; omega)
  have hcpB : ∀ ty dc sc, (Builtin.copy_ #[25, 25] ty #[.slice (some ⟨B, (i + 1) * 3, none⟩) (n - i) dc, .slice (some ⟨g, i * 3, none⟩) (n - i) sc]).run Tryz.prog W2.drew = .ok (goInt ((n - i : Nat) : Int)) (W2.drew.setCells B ((i + 1) * 3) mv) := fun ty dc sc => by
    rw [← hB]
    have e : Nat.min (n - i) (n - i) = n - i := Nat.min_self _
    have := run_copy_wide (P := Tryz.prog) W2.drew 25 25 ty 59 3 w.heap.size ((i + 1) * 3) (n - i) dc ⟨g, i * 3, none⟩ (n - i) sc mv Tryz.underlying25 hsz (by rw [hml, e])
      (fun j u hj => by
        have hadd : (⟨g, i * 3, none⟩ : Addr).add j = ⟨g, i * 3 + j, none⟩ := by unfold Addr.add; split <;> simp_all
        rw [hadd, hrg2.drew.cell]
        rw [hmv, List.getElem?_drop] at hj
        exact mflat_get htk _ u hj)
      (fun j hj => by rw [hr2.drew.cell, List.getElem?_eq_getElem (by rw [hml] at hj; rw [hl2]; omega)]; rfl) (fun j hj => hr2.drew.frozen _)
      (fun u hu => flatT_one hone u (by rw [hmv] at hu; exact List.mem_of_mem_drop hu))
    rw [e] at this
    exact this
  have FIN := hid (show w.grownBy (W2.drew.setCells B ((i + 1) * 3) mv) (some g) ∧ RowT 59 3 (W2.drew.setCells B ((i + 1) * 3) mv) base (.slice (some ⟨B, 0, none⟩) (n + 1) G) (insR ps i [x0, x1, x2]) from by
    rw [← hB]
    refine ⟨grown_past (grown_drew hg2) (Nat.le_refl _) (grown_setCells _ _ _ _), RowT.of_row (insR_ok hone h1) (by omega) (Row.setCells _ _ _ _ hr2.drew (by rw [hl2, hml]; omega)) (by rw [insR_length _ _ _ (by omega), hn]) hGn hGm (by rw [putL_length _ _ _ (by rw [hl2, hml]; omega), hl2]) ?_⟩
    rw [putL_take _ _ _ (by rw [hl2]; omega) _ (by rw [hml]; omega), putL_take _ _ _ (by rw [hl1]; omega) _ (by simp; omega), hml, htk1]
    rw [show (i + 1) * 3 - (i * 3 + [x0, x1, x2].length) = 0 by simp; omega, show (n + 1) * 3 - ((i + 1) * 3 + (n - i) * 3) = 0 by omega, List.take_zero, List.take_zero, List.append_nil, List.append_nil, flat_insR (fun r hr => (hone r hr).1), holds, hmv])
  have hG63 : G ≤ 9223372036854775807 := by unfold maxLen at hGm; omega
  have HB := hid hB
  rw [hB] at hrz
  clear hW1 hW2 hr1 hr2 hrg2 hl1 hl2 hg1 hg2 hv1 hcell hml hmv hrow htk hone hfl hv hn h1 htk1 hR0 hold holds hol hG hzc hzl hbl1 hGm hB hi0 hz0 hzs hzb
  have hw1 : IntKind.i64.wrap ((i : Int) + 1) = (i : Int) + 1 := by rw [IntKind.wrap_i64]; omega
  have hw2 : IntKind.i64.wrap ((n : Int) + 1) = (n : Int) + 1 := by rw [IntKind.wrap_i64]; omega
  have hw3 : IntKind.i64.wrap ((n : Int) + 1 - (i : Int)) = (n : Int) + 1 - (i : Int) := by rw [IntKind.wrap_i64]; omega
  have b1 : (0 : Int) ≤ (i : Int) + 1 := by omega
  have hin : i ≤ n := by omega
  have htn : ((i : Int) + 1).toNat = i + 1 := by omega
  have b3 : ¬ (G = i + 1) := by omega
  have b4 : (i : Int) ≤ (n : Int) + 1 := by omega
  have b5 : ¬ (c = i) := by omega
  have b5' : ¬ (G = i) := by omega
  have b6 : ¬ ((i : Int) = (n : Int)) := by omega
  have b7 : decide ((c : Int) < (n : Int) + 1) = true := by simp; omega
  have b9 : (i : Int) + 1 ≤ (n : Int) + 1 := by omega
  have b10 : (i : Int) ≤ (n : Int) := by omega
  have b11 : n + 1 - (i + 1) = n - i := by omega
  have b12 : (i : Int) ≤ (c : Int) := by omega
  go_enter Tryz.func91, Tryz.ntmps91
  go_wp2_with (first
    | (at_builtin; refine Lib.wpList_append_run _ rfl (.tmp 34) (.tmp 39) _ _ rfl _ _ rfl rfl _ _ (hrz _) ?_)
    | (at_builtin; refine wpList_copy_run _ rfl (.tmp 43) (.tmp 44) 25 25 rfl _ _ rfl rfl (hcpA _ _) ?_))
  go_region_law (refine step_copy_run rfl (.tmp 50) (.tmp 53) 25 25 rfl _ _ (by simp [Act.eval, Act.put]; rfl) (by simp [Act.eval, Act.put]; rfl) (hcpB _ _ _) ?_)
  go_wp2
  go_ret
  exact ⟨FIN.out.1, .slice (some ⟨B, 0, none⟩) (n + 1) G, rfl, FIN.out.2, fun b e => .inr (by obtain rfl : B = b := (by simpa [Value.ownBlock] using e); rw [HB.out]; exact Nat.le_refl _)⟩
set_option maxRecDepth 100000 in
set_option maxHeartbeats 2000000 in
/-- behind all -/
theorem minsert_end (ps : List (List Value)) (x0 x1 x2 : Value) (base vb : Nat) (v : Value) (w : World) (h : RowT 59 3 w base v ps) (hb : base ≤ w.heap.size) (hv : Row w vb 59 [x0, x1, x2]) (h1 : x0.oneCell' = true ∧ x1.oneCell' = true ∧ x2.oneCell' = true) (hl : ps.length ≤ 1000) :
    Calls Tryz.prog 91 #[v, .int .i64 (ps.length : Int), .slice (some ⟨vb, 0, none⟩) 1 1] w fun e w' => w.grownBy w' v.ownBlock ∧ ∃ v', e = .returned v' ∧ RowT 59 3 w' base v' (insR ps ps.length [x0, x1, x2]) ∧ ∀ b, v'.ownBlock = some b → v.ownBlock = some b ∨ w.heap.size ≤ b := by
  obtain ⟨oa, c, rfl, hc⟩ := h.shape
  have HO := hid h
  have HV := hid hv
  have HOK := hid (show ∀ q ∈ [[x0, x1, x2]], q.length = 3 ∧ ∀ x ∈ q, x.oneCell' = true from fun q hq => by
    obtain rfl := List.mem_singleton.1 hq
    refine ⟨rfl, fun x hx => ?_⟩
    simp at hx
    rcases hx with rfl | rfl | rfl
    · exact h1.1
    · exact h1.2.1
    · exact h1.2.2)
  have HE := hid (show insR ps ps.length [x0, x1, x2] = ps ++ [[x0, x1, x2]] by simp [insR])
  have HL := hid (show ps.length ≤ 1000 from hl)
  clear h hv h1
  generalize hn : ps.length = n at *
  have HN := hid hn
  clear hn
  cases oa with
  | none =>
    go_enter Tryz.func91, Tryz.ntmps91
    go_wp2_with (at_builtin; refine wpList_append1 recFMk rfl _ _ rfl base _ ps rfl HO.out _ _ [x0, x1, x2] rfl (one_rec HV.out) HOK.out (by have := HL.out; rw [HN.out]; omega) hb ?_; intro gg da w' g1 g2 g3 g4; have G1 := hid g1; have G3 := hid g3; have G4 := hid g4; clear g1 g2 g3 g4)
    go_ret
    exact ⟨G3.out, _, rfl, by rw [HE.out]; exact G1.out, fun b e => by obtain rfl : gg = b := (by simpa [Value.ownBlock] using e); exact G4.out.imp id (fun h => by omega)⟩
  | some a =>
    go_enter Tryz.func91, Tryz.ntmps91
    go_wp2_with (at_builtin; refine wpList_append1 recFMk rfl _ _ rfl base _ ps rfl HO.out _ _ [x0, x1, x2] rfl (one_rec HV.out) HOK.out (by have := HL.out; rw [HN.out]; omega) hb ?_; intro gg da w' g1 g2 g3 g4; have G1 := hid g1; have G3 := hid g3; have G4 := hid g4; clear g1 g2 g3 g4)
    all_goals
      go_ret
      exact ⟨G3.out, _, rfl, by rw [HE.out]; exact G1.out, fun b e => by obtain rfl : gg = b := (by simpa [Value.ownBlock] using e); exact G4.out.imp id (fun h => by omega)⟩
theorem minsert_any (ps : List (List Value)) (i : Nat) (x0 x1 x2 : Value) (base vb : Nat) (v : Value) (w : World) (h : RowT 59 3 w base v ps) (hb : base ≤ w.heap.size) (hv : Row w vb 59 [x0, x1, x2]) (h1 : x0.oneCell' = true ∧ x1.oneCell' = true ∧ x2.oneCell' = true)
    (hne : ∀ g, v.ownBlock = some g → vb ≠ g) (hi : i ≤ ps.length) (hl : ps.length ≤ 1000) :
    Calls Tryz.prog 91 #[v, .int .i64 (i : Int), .slice (some ⟨vb, 0, none⟩) 1 1] w fun e w' => w.grownBy w' v.ownBlock ∧ ∃ v', e = .returned v' ∧ RowT 59 3 w' base v' (insR ps i [x0, x1, x2]) ∧ ∀ b, v'.ownBlock = some b → v.ownBlock = some b ∨ w.heap.size ≤ b := by
  by_cases he : i = ps.length
  · subst he
    exact minsert_end ps x0 x1 x2 base vb v w h hb hv h1 hl
  · obtain ⟨g, c, cs, rfl, hbase, hrow, hnc, hcm, hcl, htk⟩ := h.row (by omega)
    have K : ∀ e w', (w.grownBy w' (some g) ∧ ∃ v', e = Ending.returned v' ∧ RowT 59 3 w' base v' (insR ps i [x0, x1, x2]) ∧ ∀ b, v'.ownBlock = some b → b = g ∨ w.heap.size ≤ b) → w.grownBy w' (Value.slice (some ⟨g, 0, none⟩) ps.length c).ownBlock ∧ ∃ v', e = .returned v' ∧ RowT 59 3 w' base v' (insR ps i [x0, x1, x2]) ∧ ∀ b, v'.ownBlock = some b → (Value.slice (some ⟨g, 0, none⟩) ps.length c).ownBlock = some b ∨ w.heap.size ≤ b := by
      rintro e w' ⟨h1, v', h2, h3, h4⟩
      exact ⟨h1, v', h2, h3, fun b hb => (h4 b hb).imp (fun e => by rw [e]; rfl) id⟩
    by_cases hroom : ps.length + 1 ≤ c
    · exact (minsert_shift ps i x0 x1 x2 base g vb c cs w hbase hrow hcl hcm htk h.1 hv h1 (hne g rfl) (by omega) hroom).mono K
    · exact (minsert_grow ps i x0 x1 x2 base g vb c cs w hbase hrow htk h.1 hv h1 (by omega) hnc (by omega) hl).mono K
end Go.Proofs.YtclhcjiblfokaaaGreatDoor
