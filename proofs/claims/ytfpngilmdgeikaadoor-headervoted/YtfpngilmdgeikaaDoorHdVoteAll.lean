/-
  What lastOf and votes answer: where a key stands last; of each validator the vote of the last seed that has its key.
  What votes answers: of each validator the vote of the last seed that has its key, in new memory.
-/
import Derived.Test.YtfpngilmdgeikaaDoorHdMems
import Derived.Test.YtfpngilmdgeikaaDoorSealGood
import Derived.Laws.MakeOwn
namespace Go.Proofs.YtfpngilmdgeikaaDoor
open Go.RowKit

def u64V (k : Nat) : Value := .int .u64 (k : Int)
/-- where a key stands last -/
def LastAt (ks : List Nat) (key : Nat) (j : Int) : Prop := (j = -1 ∧ ∀ m : Nat, ks[m]? ≠ some key) ∨ ∃ i : Nat, j = (i : Int) ∧ ks[i]? = some key ∧ ∀ m : Nat, i < m → ks[m]? ≠ some key
set_option maxHeartbeats 1000000 in
theorem lastOf_any (ks : List Nat) (key g c : Nat) (w : World) (hr : Row w g 43 (ks.map u64V)) (hlen : ks.length ≤ 35184372088832) :
    Calls Tryd.prog 95 #[.slice (some ⟨g, 0, none⟩) ks.length c, .int .u64 (key : Int)] w fun e w' => ∃ j : Int, e = .returned (.int .i64 j) ∧ LastAt ks key j ∧ w' = w := by
  have HR := hid hr
  clear hr
  generalize hn : ks.length = n at *
  have HN := hid hn
  clear hn
  have hw : IntKind.i64.wrap ((n : Int) - 1) = (n : Int) - 1 := by simp [IntKind.wrap, IntKind.bits, IntKind.signed]; split <;> omega
  go_enter Tryd.func95, Tryd.ntmps95
  go_wp2
  go_loop [5] (fun i => ∃ k : Nat, k ≤ n ∧ i = .int .i64 ((k : Int) - 1) ∧ Hid (∀ m : Nat, k ≤ m → ks[m]? ≠ some key)) (fun i => (intOf i + 1).toNat)
  case atStart => exact ⟨n, Nat.le_refl _, rfl, hid (fun m hm h => by rw [List.getElem?_eq_none (by rw [HN.out]; exact hm)] at h; cases h)⟩
  case round =>
    obtain ⟨k, hk, rfl, HT⟩ := hrel
    cases k with
    | zero =>
      have e1 : decide ((0 : Int) ≤ ((0 : Nat) : Int) - 1) = false := by decide
      go_wp2
      go_ret
      exact ⟨_, rfl, .inl ⟨by simp, fun m => HT.out m (Nat.zero_le _)⟩, rfl⟩
    | succ j =>
      obtain ⟨x, hx⟩ : ∃ x, ks[j]? = some x := ⟨ks[j]'(by rw [HN.out]; omega), List.getElem?_eq_getElem _⟩
      have hc : w.cell? ⟨g, j, none⟩ = some (.int .u64 (x : Int)) := by rw [HR.out.cell]; simp [hx, u64V]
      have hj : ((j + 1 : Nat) : Int) - 1 = (j : Int) := by omega
      rw [hj]
      have hjn : (j : Int) < (n : Int) := by omega
      have hw2 : IntKind.i64.wrap ((j : Int) - 1) = (j : Int) - 1 := by simp [IntKind.wrap, IntKind.bits, IntKind.signed]; split <;> omega
      have HX := hid hx
      clear hx hj
      by_cases hxk : x = key
      · have e2 : ((x : Int) != (key : Int)) = false := by simp [hxk]
        have HXK := hid hxk
        clear hxk
        go_wp2
        go_ret
        exact ⟨_, rfl, .inr ⟨j, rfl, by rw [HX.out, HXK.out], fun m hm => HT.out m (by omega)⟩, rfl⟩
      · have e2 : ((x : Int) != (key : Int)) = true := by simp; omega
        have HXK := hid hxk
        clear hxk
        go_wp2
        go_round
        case rel => exact ⟨j, by omega, rfl, hid (fun m hm h => by
          by_cases e : m = j
          · subst e; rw [HX.out] at h; exact HXK.out (by simpa using h)
          · exact HT.out m (by omega) h)⟩
        case measure => simp [intOf]
theorem lastSeed_none (seeds : List (List (BitVec 8))) (key : Nat) (h : ∀ m : Nat, (seeds.map keyN)[m]? ≠ some key) : lastSeed seeds key = none := by
  unfold lastSeed
  rw [List.find?_eq_none]
  intro x hx
  rw [List.mem_reverse] at hx
  obtain ⟨i, hi⟩ := List.mem_iff_getElem?.1 hx
  have := h i
  rw [List.getElem?_map, hi] at this
  simpa using this
theorem lastSeed_some (seeds : List (List (BitVec 8))) (key i : Nat) (s : List (BitVec 8)) (hs : seeds[i]? = some s) (hk : (seeds.map keyN)[i]? = some key) (h : ∀ m : Nat, i < m → (seeds.map keyN)[m]? ≠ some key) : lastSeed seeds key = some s := by
  obtain ⟨hi, rfl⟩ := List.getElem?_eq_some_iff.1 hs
  unfold lastSeed
  have e : seeds = seeds.take i ++ seeds[i] :: seeds.drop (i + 1) := by rw [← List.drop_eq_getElem_cons hi, List.take_append_drop]
  have hk' : keyN seeds[i] = key := by
    rw [List.getElem?_map, hs] at hk
    simpa using hk
  have hr : seeds.reverse = (seeds.drop (i + 1)).reverse ++ (seeds[i] :: (seeds.take i).reverse) := by
    conv => lhs; rw [e]
    simp
  rw [hr, List.find?_append]
  have hn : (seeds.drop (i + 1)).reverse.find? (fun s => decide (keyN s = key)) = none := by
    rw [List.find?_eq_none]
    intro x hx
    rw [List.mem_reverse] at hx
    obtain ⟨j, hj⟩ := List.mem_iff_getElem?.1 hx
    rw [List.getElem?_drop] at hj
    have := h (i + 1 + j) (by omega)
    rw [List.getElem?_map, hj] at this
    simpa using this
  rw [hn]
  simp [hk']
/-- the votes of the first k, none of the others -/
def votesTo (seeds : List (List (BitVec 8))) (m : List (BitVec 8)) (l : List Vl) (k : Nat) : List Vt := votesOf seeds m (l.take k) ++ List.replicate (l.length - k) Vt.none
theorem votesTo_zero (seeds : List (List (BitVec 8))) (m : List (BitVec 8)) (l : List Vl) : votesTo seeds m l 0 = List.replicate l.length Vt.none := by simp [votesTo, votesOf]
theorem votesTo_all (seeds : List (List (BitVec 8))) (m : List (BitVec 8)) (l : List Vl) (k : Nat) (h : l.length ≤ k) : votesTo seeds m l k = votesOf seeds m l := by
  unfold votesTo
  rw [List.take_of_length_le h, Nat.sub_eq_zero_of_le h]
  simp
theorem votesTo_set (seeds : List (List (BitVec 8))) (m : List (BitVec 8)) (l : List Vl) (k : Nat) (v : Vl) (h : l[k]? = some v) : (votesTo seeds m l k).set k (voteOf seeds m v.key) = votesTo seeds m l (k + 1) := by
  obtain ⟨hk, rfl⟩ := List.getElem?_eq_some_iff.1 h
  unfold votesTo votesOf
  rw [List.take_succ_eq_append_getElem hk, List.map_append, List.set_append_right _ _ (by simp; omega)]
  have e : l.length - k = (l.length - (k + 1)) + 1 := by omega
  rw [e, List.replicate_succ]
  simp [Nat.min_eq_left (Nat.le_of_lt hk)]
theorem votesTo_len (seeds : List (List (BitVec 8))) (m : List (BitVec 8)) (l : List Vl) (k : Nat) (h : k ≤ l.length) : (votesTo seeds m l k).length = l.length := by
  unfold votesTo votesOf
  simp
  omega
theorem votesTo_get (seeds : List (List (BitVec 8))) (m : List (BitVec 8)) (l : List Vl) (k : Nat) (h : k < l.length) : (votesTo seeds m l k)[k]? = some Vt.none := by
  unfold votesTo votesOf
  rw [List.getElem?_append_right (by simp; omega)]
  have e : (List.map (fun v => voteOf seeds m v.key) (l.take k)).length = k := by simp; omega
  rw [e, Nat.sub_self, List.getElem?_replicate, if_pos (by omega)]
theorem flat_set (L : List Vt) (k : Nat) (t : Vt) (h : k < L.length) : (L.set k t).flatMap vtRow = (((L.flatMap vtRow).set (k * 3) (.bool t.is)).set (k * 3 + 1) (.int .u64 (t.r : Int))).set (k * 3 + 2) (.int .u64 (t.s : Int)) := by
  induction L generalizing k with
  | nil => simp at h
  | cons a L ih =>
    cases k with
    | zero => simp [vtRow]
    | succ k =>
      have := ih k (by simpa using h)
      rw [List.set_cons_succ, List.flatMap_cons, List.flatMap_cons, this]
      have ha : (vtRow a).length = 3 := rfl
      rw [List.set_append_right _ _ (by omega), List.set_append_right _ _ (by omega), List.set_append_right _ _ (by omega), ha, show (k + 1) * 3 - 3 = k * 3 by omega, show (k + 1) * 3 + 1 - 3 = k * 3 + 1 by omega, show (k + 1) * 3 + 2 - 3 = k * 3 + 2 by omega]
theorem flat_vt (L : List Vt) (k : Nat) (t : Vt) (h : L[k]? = some t) : (L.flatMap vtRow)[k * 3]? = some (.bool t.is) ∧ (L.flatMap vtRow)[k * 3 + 1]? = some (.int .u64 (t.r : Int)) ∧ (L.flatMap vtRow)[k * 3 + 2]? = some (.int .u64 (t.s : Int)) := by
  have e : L.flatMap vtRow = (L.map vtRow).flatten := rfl
  have h1 : (L.map vtRow)[k]? = some (vtRow t) := by simp [h]
  have g := fun j hj => flatten_get (L.map vtRow) k j (vtRow t) vtRow_len h1 hj
  rw [e]
  exact ⟨g 0 (by omega), g 1 (by omega), g 2 (by omega)⟩
theorem votes_row {w : World} {g : Nat} {t : TypeId} {L : List Vt} (h : Row w g t (L.flatMap vtRow)) : Votes w w.heap.size (.slice (some ⟨g, 0, none⟩) L.length L.length) L := by
  refine .inr (.inr ⟨g, 0, L.length, by simp, by simp, fun i r hr => ⟨h.lt, fun j x hx => ?_⟩⟩)
  have hj : j < 3 := by
    have := (List.getElem?_eq_some_iff.1 hx).1
    rw [vtRow_len r (List.mem_of_getElem? hr)] at this
    exact this
  rw [h.cell, Nat.zero_add]
  show ((L.map vtRow).flatten)[i * 3 + j]? = _
  rw [flatten_get (L.map vtRow) i j r vtRow_len hr hj, hx]
/-- n cells, of which the first hold keys -/
def rowK (n : Nat) (l : List Nat) : List Value := l.map u64V ++ List.replicate (n - l.length) (.int .u64 0)
theorem rowK_set (n : Nat) (l : List Nat) (x : Nat) (h : l.length < n) : (rowK n l).set l.length (u64V x) = rowK n (l ++ [x]) := by
  unfold rowK
  rw [List.set_append_right _ _ (by simp)]
  have e : n - l.length = (n - (l ++ [x]).length) + 1 := by simp; omega
  rw [e]
  simp [List.replicate_succ]
theorem rowK_some (n : Nat) (l : List Nat) (i : Nat) (hl : l.length ≤ n) (h : i < n) : ∃ v, (rowK n l)[i]? = some v := ⟨_, List.getElem?_eq_getElem (by simp [rowK]; omega)⟩
theorem rowK_full (l : List Nat) : rowK l.length l = l.map u64V := by simp [rowK]
theorem info_u64 : (Tryd.prog.info? 43).map (fun i => (i.zero, i.size, i.bytes)) = some (some (.int .u64 0), 1, 8) := by kernel_rfl
theorem info_vote : (Tryd.prog.info? 51).map (fun i => (i.zero, i.size, i.bytes)) = some (some (.agg #[.bool false, .int .u64 0, .int .u64 0]), 3, 24) := by kernel_rfl
end Go.Proofs.YtfpngilmdgeikaaDoor
namespace Go.Proofs.YtfpngilmdgeikaaDoor
open Go.RowKit

theorem made_one (z : Value) (n : Nat) : madeCells #[z] (n * 1) = (List.replicate n z).toArray := by
  apply Array.ext
  · simp [madeCells]
  · intro i h1 h2
    simp [madeCells, Nat.mod_one]
theorem none_rows (n : Nat) : (List.replicate n Vt.none).flatMap vtRow = (madeCells #[.bool false, .int .u64 0, .int .u64 0] (n * 3)).toList := by
  induction n with
  | zero => simp [madeCells]
  | succ n ih =>
    rw [List.replicate_succ', List.flatMap_append, ih]
    apply List.ext_getElem?
    intro i
    have hsz : (madeCells #[Value.bool false, .int .u64 0, .int .u64 0] (n * 3)).toList.length = n * 3 := by simp [madeCells]
    rcases Nat.lt_or_ge i (n * 3) with h | h
    · rw [List.getElem?_append_left (by omega)]
      simp [madeCells, h, show i < (n + 1) * 3 by omega]
    · rw [List.getElem?_append_right (by omega), hsz]
      rcases Nat.lt_or_ge i ((n + 1) * 3) with h2 | h2
      · obtain e | e | e : i = n * 3 ∨ i = n * 3 + 1 ∨ i = n * 3 + 2 := by omega
        · subst e
          simp [madeCells, Vt.none, vtRow, show n * 3 < (n + 1) * 3 by omega]
        · subst e
          simp [madeCells, Vt.none, vtRow, show n * 3 + 1 < (n + 1) * 3 by omega, show (n * 3 + 1) % 3 = 1 by omega]
        · subst e
          simp [madeCells, Vt.none, vtRow, show n * 3 + 2 < (n + 1) * 3 by omega, show (n * 3 + 2) % 3 = 2 by omega]
      · rw [List.getElem?_eq_none (by simp [vtRow]; omega), List.getElem?_eq_none (by simp [madeCells]; omega)]
theorem make_keys (n : Nat) (w : World) (h : n ≤ 35184372088832) : (Instr.makeSlice 122 (.int .i64 (n : Int)) (.int .i64 (n : Int))).run Tryd.prog w = .ok (.slice (some ⟨w.heap.size, 0, none⟩) n n) (w.alloc (.cells (rowK n []).toArray 43)) := by
  obtain ⟨i0, hi0, hz0, hz1, hz2⟩ := info_parts info_u64
  have := run_make (P := Tryd.prog) w 122 43 i0 _ Tryd.underlying122 hi0 hz0 .i64 .i64 (n : Int) (n : Int) (by omega) (by omega) (by rw [hz2]; omega) (by omega)
  rw [this, hz1]
  simp only [Int.toNat_natCast, Value.cells, made_one]
  simp [rowK]
theorem make_votes (n : Nat) (w : World) (h : n ≤ 10) : (Instr.makeSlice 27 (.int .i64 (n : Int)) (.int .i64 (n : Int))).run Tryd.prog w = .ok (.slice (some ⟨w.heap.size, 0, none⟩) n n) (w.alloc (.cells ((List.replicate n Vt.none).flatMap vtRow).toArray 51)) := by
  obtain ⟨i0, hi0, hz0, hz1, hz2⟩ := info_parts info_vote
  have := run_make (P := Tryd.prog) w 27 51 i0 _ Tryd.underlying27 hi0 hz0 .i64 .i64 (n : Int) (n : Int) (by omega) (by omega) (by rw [hz2]; omega) (by omega)
  rw [this, hz1, none_rows]
  simp only [Int.toNat_natCast, Value.cells]
set_option maxRecDepth 100000 in
set_option maxHeartbeats 4000000 in
theorem votes_any (m : List (BitVec 8)) (l : List Vl) (seeds : List (List (BitVec 8))) (mv lv sv : Value) (N : Nat) (w : World) (htab : tableAt w) (hN : N ≤ w.heap.size) (hm : Bytes w N mv m) (hml : m.length ≤ 140737488351232) (hl : Vals w N lv l) (hll : l.length ≤ 10)
    (hs : Lists w N sv seeds) (hsl : seeds.length ≤ 35184372088832) (hsf : ∀ s ∈ seeds, s.length ≤ 140737488351232) :
    Calls Tryd.prog 51 #[mv, lv, sv] w fun e w' => ∃ v, e = .returned v ∧ Votes w' w'.heap.size v (votesOf seeds m l) ∧ Below w.heap.size w w' := by
  obtain ⟨om, cm, rfl, _⟩ := hm.shape
  obtain ⟨ol, cl, rfl, _⟩ := hl.shape
  obtain ⟨os, cs, rfl, _⟩ := hs.shape
  have HM := hid hm
  have HL := hid hl
  have HS := hid hs
  have HSF := hid hsf
  have HTAB := hid htab
  have HML := hid hml
  clear hm hl hs hsf htab hml
  generalize hn : seeds.length = n at *
  generalize hnl : l.length = nl at *
  generalize hnm : m.length = nm at *
  have HNM := hid hnm
  clear hnm
  have HN := hid hn
  have HNL := hid hnl
  clear hn hnl
  have hmk := make_keys n w hsl
  obtain ⟨w1, hw1⟩ : ∃ w1, w.alloc (.cells (rowK n []).toArray 43) = w1 := ⟨_, rfl⟩
  have HR1 := hid (show Row w1 w.heap.size 43 (rowK n ((seeds.take 0).map keyN)) by rw [← hw1]; exact Row.new _ _ _)
  have HB1 := hid (show Below w.heap.size w w1 by rw [← hw1]; exact (Below.refl _ _).alloc (Nat.le_refl _) _)
  have hsz1 : w1.heap.size = w.heap.size + 1 := by rw [← hw1]; simp
  rw [hw1] at hmk
  clear hw1
  go_enter Tryd.func51, Tryd.ntmps51
  go_wp2_with fail
  go_loopw [8, 9, 19] (fun _ _ i wr => ∃ k : Nat, k ≤ n ∧ i = .int .i64 (k : Int) ∧ Hid (Row wr w.heap.size 43 (rowK n ((seeds.take k).map keyN)) ∧ Below w.heap.size w wr)) (fun _ _ i _ => n - (intOf i).toNat)
  case atStart => exact ⟨0, by omega, rfl, hid ⟨HR1.out, HB1.out⟩⟩
  case round =>
    obtain ⟨k, hk, rfl, HT⟩ := hrel
    have hszr := HT.out.2.size
    by_cases hlt : k < n
    · obtain ⟨b, o, hos, hcells⟩ := Lists.some (show Lists w N (.slice os seeds.length cs) seeds by rw [HN.out]; exact HS.out) (by rw [HN.out]; omega)
      subst hos
      obtain ⟨hbN, x, hx, hbx⟩ := hcells k (by rw [HN.out]; exact hlt)
      obtain ⟨s, hs⟩ : ∃ s, seeds[k]? = some s := ⟨seeds[k]'(by rw [HN.out]; exact hlt), List.getElem?_eq_getElem _⟩
      have hgd : seeds.getD k [] = s := by simp [List.getD, hs]
      rw [hgd] at hbx
      have hbl : b < w.heap.size := by omega
      have f0 := (HT.out.2.cell (p := ⟨b, o + k, none⟩) hbl).trans hx
      have HBX := hid (hbx.below (HT.out.2.mono hN))
      obtain ⟨ox, cx, rfl, _⟩ := hbx.shape
      have HK := hid (key_any s _ N wr (Nat.le_trans hN hszr) HBX.out (HTAB.out.below HT.out.2 HTAB.out.lt) (HSF.out s (List.mem_of_getElem? hs)))
      have HTK := hid (show (seeds.take (k + 1)).map keyN = (seeds.take k).map keyN ++ [keyN s] by
        obtain ⟨h1, h2⟩ := List.getElem?_eq_some_iff.1 hs
        rw [List.take_succ_eq_append_getElem h1, List.map_append, h2]
        rfl)
      have HLK := hid (show ((seeds.take k).map keyN).length = k by rw [List.length_map, List.length_take, HN.out]; omega)
      have hlt' : (k : Int) < (n : Int) := by omega
      clear hcells hx hbx hgd hs
      generalize s.length = ns at *
      go_wp2_with fail
      refine HK.out.mono ?_
      rintro e w3 ⟨rfl, hb3⟩
      have HR3 := hid (HT.out.1.below hb3 HT.out.1.lt)
      have HB3 := hid (HT.out.2.trans (hb3.mono hszr))
      obtain ⟨y, hy⟩ := rowK_some n ((seeds.take k).map keyN) k (by rw [HLK.out]; omega) hlt
      have c0 := (HR3.out.cell k).trans hy
      have z0 := HR3.out.frozen k
      have HSET := hid (show (rowK n ((seeds.take k).map keyN)).set k (.int .u64 (keyN s : Int)) = rowK n ((seeds.take (k + 1)).map keyN) by
        have := rowK_set n ((seeds.take k).map keyN) (keyN s) (by rw [HLK.out]; exact hlt)
        rw [HLK.out] at this
        rw [HTK.out]
        exact this)
      clear hb3 hy HK
      generalize keyN s = ks at *
      go_wp2_with fail
      go_roundw
      case rel =>
        refine ⟨k + 1, by omega, by go_num, hid ⟨?_, HB3.out.setCell (Nat.le_refl _) _⟩⟩
        have := HR3.out.set k (.int .u64 (ks : Int))
        rw [HSET.out] at this
        exact this
      case measure => simp [intOf]; omega
    · have hge : decide ((k : Int) < (n : Int)) = false := by simp; omega
      have HKS := hid (show Row wr w.heap.size 43 ((seeds.map keyN).map u64V) by
        have := HT.out.1
        rw [List.take_of_length_le (by rw [HN.out]; omega), show n = (seeds.map keyN).length by rw [List.length_map, HN.out], rowK_full] at this
        exact this)
      have hmv := make_votes nl wr hll
      obtain ⟨w2, hw2⟩ : ∃ w2, wr.alloc (.cells ((List.replicate nl Vt.none).flatMap vtRow).toArray 51) = w2 := ⟨_, rfl⟩
      obtain ⟨G, hG⟩ : ∃ G, wr.heap.size = G := ⟨_, rfl⟩
      have HR2 := hid (show Row w2 G 51 ((votesTo seeds m l 0).flatMap vtRow) by rw [← hw2, votesTo_zero, HNL.out, ← hG]; exact Row.new _ _ _)
      have hbr2 : Below wr.heap.size wr w2 := by rw [← hw2]; exact (Below.refl _ _).alloc (Nat.le_refl _) _
      have HB2 := hid (HT.out.2.trans (hbr2.mono hszr))
      have HK2 := hid (HKS.out.below hbr2 HKS.out.lt)
      have hGlt : w.heap.size < G := by have := HT.out.1.lt; omega
      have hGw : w.heap.size ≤ G := by omega
      rw [hw2, hG] at hmv
      have HSS := hid (show Lists w N (.slice os n cs) seeds by exact HS.out)
      clear hw2 hbr2 HT HKS HR1 hmk
      go_wp2_with fail
      go_loopw [11, 12, 13, 35] (fun _ _ _ i w4 => ∃ k : Nat, k ≤ nl ∧ i = .int .i64 (k : Int) ∧ Hid (Row w4 G 51 ((votesTo seeds m l k).flatMap vtRow) ∧ Row w4 w.heap.size 43 ((seeds.map keyN).map u64V) ∧ Below w.heap.size w w4)) (fun _ _ _ i _ => nl - (intOf i).toNat)
      case atStart => exact ⟨0, by omega, rfl, hid ⟨HR2.out, HK2.out, HB2.out⟩⟩
      case round =>
        obtain ⟨k, hk, rfl, HT⟩ := hrel
        have hszr := HT.out.2.2.size
        by_cases hlt : k < nl
        · obtain ⟨v, hv⟩ : ∃ v, l[k]? = some v := ⟨l[k]'(by rw [HNL.out]; exact hlt), List.getElem?_eq_getElem _⟩
          obtain ⟨b, o, rfl, hcells⟩ := HL.out.spot (by omega)
          obtain ⟨hbN, d0, d1⟩ := hcells k v hv
          have hbl : b < w.heap.size := by omega
          have f0 := (HT.out.2.2.cell (p := ⟨b, o + k * 2, none⟩) hbl).trans d0
          have f1 := (HT.out.2.2.cell (p := ⟨b, o + k * 2 + 1, none⟩) hbl).trans d1
          have hlt' : (k : Int) < (nl : Int) := by omega
          obtain ⟨w5, hw5⟩ : ∃ w5, wr.alloc (.cells #[.int .u64 (v.key : Int), .int .u64 (v.power : Int)] 45) = w5 := ⟨_, rfl⟩
          have hb5 : Below wr.heap.size wr w5 := by rw [← hw5]; exact (Below.refl _ _).alloc (Nat.le_refl _) _
          have HB5 := hid (HT.out.2.2.trans (hb5.mono hszr))
          have HR5 := hid (HT.out.1.below hb5 HT.out.1.lt)
          have HK5 := hid (HT.out.2.1.below hb5 HT.out.2.1.lt)
          have q0 := (show Row w5 wr.heap.size 45 [.int .u64 (v.key : Int), .int .u64 (v.power : Int)] by rw [← hw5]; exact Row.new _ _ _).cell 0
          have HVS := hid (votesTo_set seeds m l k v hv)
          have HVG := hid (votesTo_get seeds m l k (by rw [HNL.out]; exact hlt))
          have HVL := hid (votesTo_len seeds m l k (by rw [HNL.out]; omega))
          have HLO := hid (lastOf_any (seeds.map keyN) v.key w.heap.size n w5 HK5.out (by rw [List.length_map, HN.out]; exact hsl))
          rw [List.length_map, HN.out] at HLO
          have HW5 := hid hw5
          clear d0 d1 hcells hb5 hw5 hv
          go_wp2_with fail
          rw [HW5.out]
          go_wp2_with fail
          refine HLO.out.mono ?_
          rintro e w6 ⟨j, rfl, hj, hw6⟩
          obtain rfl := hw6.symm
          rcases hj with ⟨rfl, hno⟩ | ⟨i, rfl, hi, hlast⟩
          · have hvo : voteOf seeds m v.key = Vt.none := by unfold voteOf; rw [lastSeed_none seeds v.key hno]
            have HEQ := hid (show votesTo seeds m l (k + 1) = votesTo seeds m l k by
              rw [← HVS.out, hvo]
              apply List.ext_getElem?
              intro t
              by_cases e : t = k
              · subst e
                rw [List.getElem?_set_self (by rw [HVL.out, HNL.out]; exact hlt), HVG.out]
              · rw [List.getElem?_set_ne (Ne.symm e)])
            clear hno hvo
            go_wp2_with fail
            go_roundw
            case rel => exact ⟨k + 1, by omega, by go_num, hid ⟨by rw [HEQ.out]; exact HR5.out, HK5.out, HB5.out⟩⟩
            case measure => simp [intOf]; omega
          · have hin : i < n := by
              have := (List.getElem?_eq_some_iff.1 hi).1
              rw [List.length_map, HN.out] at this
              exact this
            obtain ⟨s, hs⟩ : ∃ s, seeds[i]? = some s := ⟨seeds[i]'(by rw [HN.out]; exact hin), List.getElem?_eq_getElem _⟩
            have hvo : voteOf seeds m v.key = ⟨true, sealR s m, sealS s m⟩ := by unfold voteOf; rw [lastSeed_some seeds v.key i s hs hi hlast]
            obtain ⟨bs, o2, hos, hcells⟩ := Lists.some (show Lists w N (.slice os seeds.length cs) seeds by rw [HN.out]; exact HSS.out) (by rw [HN.out]; omega)
            subst hos
            obtain ⟨hbN2, x, hx, hbx⟩ := hcells i (by rw [HN.out]; exact hin)
            have hgd : seeds.getD i [] = s := by simp [List.getD, hs]
            rw [hgd] at hbx
            have hbl2 : bs < w.heap.size := by omega
            have f2 := (HB5.out.cell (p := ⟨bs, o2 + i, none⟩) hbl2).trans hx
            have HBX := hid (hbx.below (HB5.out.mono hN))
            obtain ⟨ox, cx, rfl, _⟩ := hbx.shape
            have HSG := hid (sign_any s m _ _ N w5 (Nat.le_trans hN HB5.out.size) HBX.out (HM.out.below (HB5.out.mono hN)) (HTAB.out.below HB5.out HTAB.out.lt) (HSF.out s (List.mem_of_getElem? hs)) (by rw [HNM.out]; exact HML.out))
            have hin' : (i : Int) < (n : Int) := by omega
            have hi0 : decide ((0 : Int) ≤ (i : Int)) = true := by simp
            rw [hvo] at HVS
            clear hcells hx hbx hgd hs hvo hi hlast HLO
            generalize s.length = ns at *
            go_wp2_with fail
            refine HSG.out.mono ?_
            rintro e w7 ⟨rfl, hb7⟩
            have HB7 := hid (HB5.out.trans (hb7.mono HB5.out.size))
            have HR7 := hid (HR5.out.below hb7 HR5.out.lt)
            have HK7 := hid (HK5.out.below hb7 HK5.out.lt)
            obtain ⟨g0, g1, g2⟩ := flat_vt _ k _ HVG.out
            have c0 := (HR7.out.cell (k * 3)).trans g0
            have c1 := (HR7.out.cell (k * 3 + 1)).trans g1
            have c2 := (HR7.out.cell (k * 3 + 2)).trans g2
            have z0 := HR7.out.frozen (k * 3)
            have z1 := HR7.out.frozen (k * 3 + 1)
            have z2 := HR7.out.frozen (k * 3 + 2)
            have HFS := hid (flat_set (votesTo seeds m l k) k ⟨true, sealR s m, sealS s m⟩ (by rw [HVL.out, HNL.out]; exact hlt))
            rw [HVS.out] at HFS
            have HGN := hid (show w.heap.size ≠ G by omega)
            clear hb7 g0 g1 g2 HSG
            generalize sealR s m = sr at *
            generalize sealS s m = ss at *
            go_wp2_with fail
            go_roundw
            case rel =>
              refine ⟨k + 1, by omega, by go_num, hid ⟨?_, ?_, ?_⟩⟩
              · rw [HFS.out]
                exact ((HR7.out.set _ _).set _ _).set _ _
              · exact ((HK7.out.other _ HGN.out).other _ HGN.out).other _ HGN.out
              · exact ((HB7.out.setCell hGw _).setCell hGw _).setCell hGw _
            case measure => simp [intOf]; omega
        · have hge : decide ((k : Int) < (nl : Int)) = false := by simp; omega
          have HVA := hid (votesTo_all seeds m l k (by rw [HNL.out]; omega))
          have HVL := hid (votesTo_len seeds m l k (by rw [HNL.out]; omega))
          go_wp2
          go_ret
          refine ⟨_, rfl, ?_, HT.out.2.2⟩
          have := votes_row HT.out.1
          rw [HVL.out, HNL.out, HVA.out] at this
          exact this
end Go.Proofs.YtfpngilmdgeikaaDoor
