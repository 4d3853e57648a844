/-
  What slices.Delete does with a row of marks that a call owns, of one mark.
-/
import Derived.Test.YtclhcjiblfokaaaGreatDoorppMkIns
import Derived.Test.YtclhcjiblfokaaaGreatDoorppBookRow
namespace Go.Proofs.YtclhcjiblfokaaaGreatDoor
open Go.RowKit

set_option maxRecDepth 100000 in
set_option maxHeartbeats 2000000 in
theorem mdelete_any (ps : List (List Value)) (i base : Nat) (v : Value) (w : World) (h : RowT 59 3 w base v ps) (hi : i < ps.length) (j : Nat) (hj : j = i + 1) :
    Calls Tryz.prog 103 #[v, .int .i64 (i : Int), .int .i64 (j : Int)] w fun e w' => w.grownBy w' v.ownBlock ∧ ∃ v', e = .returned v' ∧ RowT 59 3 w' base v' (ps.take i ++ ps.drop (i + 1)) ∧ v'.ownBlock = v.ownBlock := by
  have hone := h.1
  obtain ⟨g, c, cs, rfl, hbase, hrow, hnc, hcm, hcl, htk⟩ := h.row (by omega)
  obtain ⟨i0, hi0, hz0, hz1, hz2⟩ := info_parts info_mark
  obtain ⟨news, hnews⟩ : ∃ news, news = (ps.drop j).flatten := ⟨_, rfl⟩
  have hnl : news.length = (ps.length - j) * 3 := by rw [hnews, flat_lenR _ (fun r hr => (hone r (List.mem_of_mem_drop hr)).1)]; simp
  have hcell : ∀ j, w.drew.cell? ⟨g, j, none⟩ = cs[j]? := fun j => hrow.drew.cell j
  obtain ⟨A, hA, hsrc⟩ : ∃ A : Addr, (if c = j then some (⟨g, 0, none⟩ : Addr) else some ⟨g, j * 3, none⟩) = some A ∧ Hid (∀ t u, news[t]? = some u → w.drew.cell? (A.add t) = some u) := by
    by_cases hc : c = j
    · refine ⟨⟨g, 0, none⟩, by simp [hc], fun t u hu => ?_⟩
      have h0 : news.length = 0 := by rw [hnl]; omega
      rw [List.length_eq_zero_iff.1 h0] at hu
      simp at hu
    · refine ⟨⟨g, j * 3, none⟩, by simp [hc], fun t u hu => ?_⟩
      have hadd : (⟨g, j * 3, none⟩ : Addr).add t = ⟨g, j * 3 + t, none⟩ := by unfold Addr.add; split <;> simp_all
      rw [hadd, hcell]
      rw [hnews, flat_dropR ps (fun r hr => (hone r hr).1), List.getElem?_drop] at hu
      exact mflat_get htk _ u hu
  have s2 := hid (show ∀ u ∈ news, u.oneCell' = true by
    rw [hnews]
    exact flatT_one fun q hq => hone q (List.mem_of_mem_drop hq))
  have s3 := hid (show ∀ t, t < news.length → (w.drew.cell? ⟨g, 0 + i * 3 + t, none⟩).isSome = true ∧ w.drew.frozen? ⟨g, 0 + i * 3 + t, none⟩ = false by
    intro t ht
    rw [hnl] at ht
    rw [hcell]
    refine ⟨?_, hrow.drew.frozen _⟩
    rw [List.getElem?_eq_getElem (by omega)]
    rfl)
  obtain ⟨W1, hW1⟩ : ∃ W1, W1 = w.drew.setCells g (0 + i * 3) news := ⟨_, rfl⟩
  have hr1 : Row W1 g 59 (putL cs (i * 3) news) := by
    rw [hW1, Nat.zero_add]
    exact Row.setCells news (i * 3) _ _ hrow.drew (by rw [hnl]; omega)
  have hl1 : (putL cs (i * 3) news).length = c * 3 := by rw [putL_length _ _ _ (by rw [hnl]; omega), hcl]
  obtain ⟨nz, hnz⟩ : ∃ nz : Value, nz = .slice none 0 0 := ⟨_, rfl⟩
  have hg1 : w.grownBy W1 (some g) := by rw [hW1]; exact grown_trans (⟨rfl, rfl, rfl, Nat.le_refl _, fun _ _ _ => rfl⟩ : w.grownBy w.drew _) (grown_setCells g _ _ w.drew)
  obtain ⟨n, hn⟩ : ∃ n, ps.length = n := ⟨_, rfl⟩
  have hcl2 := hid (show ∀ ty (x y : Nat), x = n - 1 → (Builtin.clear_ #[25] ty #[.slice (some ⟨g, x * 3, none⟩) (n - x) y]).run Tryz.prog W1 = .ok (.tuple #[]) (W1.setCells g (x * 3) [.int .i64 0, .int .i64 0, .slice none 0 0]) from fun ty x y hx => by
    have hst := run_storeCells_cells (P := Tryz.prog) g (x * 3) [.int .i64 0, .int .i64 0, .slice none 0 0] 0 W1 (fun j hj => by
        rw [hr1.cell, List.getElem?_eq_getElem (by rw [hl1]; simp at hj; omega)]
        rfl) (fun j hj => hr1.frozen _) (fun u hu => by simp at hu; rcases hu with rfl | rfl <;> rfl)
    simp only [Nat.add_zero] at hst
    have e1 : n - x = 0 + 1 := by omega
    rw [e1]
    have hzv : ∀ w, (zeroValue 59).run Tryz.prog w = .ok (.agg #[.int .i64 0, .int .i64 0, .slice none 0 0]) w := by intro w; kernel_rfl
    have hzc : (Builtin.zeroCells (Value.agg #[.int .i64 0, .int .i64 0, .slice none 0 0]).cells (0 + 1)).toList = [.int .i64 0, .int .i64 0, .slice none 0 0] := by kernel_rfl
    simp [Builtin.clear_, run_underlying Tryz.underlying25, hzv, hzc, hst])
  have FIN := hid (show ∀ x m : Nat, x = n - 1 → m = n - 1 → w.grownBy (W1.setCells g (x * 3) [.int .i64 0, .int .i64 0, .slice none 0 0]) (some g) ∧ RowT 59 3 (W1.setCells g (x * 3) [.int .i64 0, .int .i64 0, .slice none 0 0]) base (.slice (some ⟨g, 0, none⟩) m c) (ps.take i ++ ps.drop j) from fun x m hx hm => by
    refine ⟨grown_trans hg1 (grown_setCells g _ _ _), RowT.of_row (fun r hr => by rcases List.mem_append.1 hr with hr | hr; exact hone r (List.mem_of_mem_take hr); exact hone r (List.mem_of_mem_drop hr)) hbase (Row.setCells _ _ _ _ hr1 (by rw [hl1]; simp; omega)) (by simp; omega) (by omega) hcm (by rw [putL_length _ _ _ (by rw [hl1]; simp; omega), hl1]) ?_⟩
    rw [putL_take_le _ _ _ (by rw [hl1]; omega) _ (by omega), putL_take cs (i * 3) news (by omega) _ (by rw [hnl]; omega), hnl, show m * 3 - (i * 3 + (ps.length - j) * 3) = 0 by omega]
    rw [List.take_zero, List.append_nil, List.flatten_append, hnews, flat_takeR ps (fun r hr => (hone r hr).1), ← htk, List.take_take, Nat.min_eq_left (by omega)])
  have HN := hid hn
  have HJ := hid hj
  have hnl2 := hid (show news.length = (n - j) * 3 by rw [hnl, hn])
  have hin : i < n := by omega
  rw [hn] at hnc
  have hc63 : c ≤ 9223372036854775807 := by unfold maxLen at hcm; omega
  have hW := hid hW1
  clear hW1 hr1 hl1 hg1 hcell hnl hnews hrow htk h hone hi hcl hcm
  rw [hn]
  clear hn
  have f1 : i ≤ c := by omega
  have f2 : j ≤ c := by omega
  have f3 : (i : Int) ≤ (n : Int) := by omega
  have f4 : ((j : Nat) : Int) ≤ (n : Int) := by omega
  have f5 : (i : Int) ≤ ((j : Nat) : Int) := by omega
  have f7 : ¬ ((i : Int) = ((j : Nat) : Int)) := by omega
  obtain ⟨m, hm⟩ : ∃ m, i + (n - j) = m := ⟨_, rfl⟩
  have hmn : m = n - 1 := by omega
  have f8 : (m : Int) ≤ (n : Int) := by omega
  have f9 : ¬ c = m := by omega
  have f10 : n ≤ c := by omega
  have f11 : (n : Int) ≤ (c : Int) := by omega
  have hclr : ∀ ty, (Builtin.clear_ #[25] ty #[.slice (some ⟨g, m * 3, none⟩) (n - m) (c - m)]).run Tryz.prog W1 = .ok (.tuple #[]) (W1.setCells g (m * 3) [.int .i64 0, .int .i64 0, .slice none 0 0]) := fun ty => hcl2.out ty m (c - m) hmn
  have HM := hid hm
  have HMN := hid hmn
  clear hj hmn
  go_enter Tryz.func103, Tryz.ntmps103
  go_wp2_with fail
  go_region_law (refine step_append_room rfl (.tmp 22) (.tmp 25) 25 rfl 59 i0 3 Tryz.underlying25 hi0 hz1 g 0 i c (by simp [Act.eval, Act.put]) A (n - j) (c - j) news (by simp [Act.eval, Act.put]) hnl2.out hsrc.out s2.out (by omega) s3.out ?_; rw [← hW.out])
  go_wp2
  go_ret
  obtain ⟨r1, r2⟩ := FIN.out m m HMN.out HMN.out
  exact ⟨r1, .slice (some ⟨g, 0, none⟩) m c, rfl, by rw [← HJ.out]; exact r2, rfl⟩
end Go.Proofs.YtclhcjiblfokaaaGreatDoor
