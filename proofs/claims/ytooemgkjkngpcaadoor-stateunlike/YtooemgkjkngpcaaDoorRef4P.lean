/-
  What the document's Get and Drop answer of pairs.
  What the document's Set answers: pairs in a new row, one pair in the place of that with its key.
  What the document's Play answers: what doings make; or which error, and where.
  What the document's Same answers of two slices of pairs: whether they read alike; it only reads.
-/
import Derived.Test.YtooemgkjkngpcaaDoorPairsAll
import Derived.Test.YtooemgkjkngpcaaDoorSameB
import Derived.Deep.QuietTactic
import Derived.BigQuiet
import Derived.Deep.RegionHeld3
import Derived.Test.YtooemgkjkngpcaaDoorMemB
import Derived.Deep.RegionWith
namespace Go.Proofs.YtooemgkjkngpcaaDoor
open Go.RowKit

theorem drewN_belowD (w : World) (n N : Nat) : Below N w (w.drewN n) := ⟨rfl, rfl, rfl, Nat.le_refl _, fun _ _ => rfl⟩
theorem getL_drop_cons (k : List (BitVec 8)) (l : List Pr) (j : Nat) (p : Pr) (h : l[j]? = some p) : getL k (l.drop j) = if p.key = k then some p.val else getL k (l.drop (j + 1)) := by
  obtain ⟨hj, he⟩ := List.getElem?_eq_some_iff.1 h
  rw [List.drop_eq_getElem_cons hj, getL, he]
theorem dropK_take (k : List (BitVec 8)) (l : List Pr) (j : Nat) (p : Pr) (h : l[j]? = some p) : dropK k (l.take (j + 1)) = if p.key = k then dropK k (l.take j) else dropK k (l.take j) ++ [p] := by
  obtain ⟨hj, he⟩ := List.getElem?_eq_some_iff.1 h
  unfold dropK
  rw [List.take_succ_eq_append_getElem hj, List.filter_append, he]
  by_cases e : p.key = k
  · simp [e]
  · simp [e]
/-- append of one pair, in a row of its own, onto what is owned -/
theorem wpList_append_pr {ops : Array Oper} {rest : List Oper} {o : Oper} {a : Act} {W : World} {Q : Exit → Act → World → Prop} (hgd : o.guard = none) (s x : Operand)
    (ho : o.op = .call { callee := .builtin .append, args := #[s, x], argTypes := #[30, 30] })
    (base : Nat) (v : Value) (ps : List PrV) (hs : a.eval s = v) (hown : RowPr W base v ps) (q : PrV) (g N : Nat) (hq : q.ok W N)
    (hx : a.eval x = .slice (some ⟨g, 0, none⟩) 1 1) (h0 : W.cell? ⟨g, 0, none⟩ = some q.k) (h1 : W.cell? ⟨g, 1, none⟩ = some q.v) (hl : ps.length ≤ 1000000) (hbase : base ≤ W.heap.size)
    (h : ∀ v' w', RowPr w' base v' (ps ++ [q]) → Below base W w' → wpList Tryd.prog ops Q rest (a.put o.dst v') w') :
    wpList Tryd.prog ops Q (o :: rest) a W := by
  obtain ⟨i0, hi0, hz0, hz1, hz2⟩ := info_parts info_pair
  obtain ⟨o1, c1, e1, _⟩ := hq.1.shape
  obtain ⟨o2, c2, e2, _⟩ := hq.2.shape
  refine wpList_append_own _ hgd s x 30 ho base 48 i0 _ 2 48 Tryd.underlying30 hi0 hz0 hz1 hz2 rfl (by decide) v ps.length (ps.flatMap prCells) hs hown ⟨g, 0, none⟩ 1 1
    [q.k, q.v] hx rfl ?_ ?_ (by unfold maxLen; omega) (by omega) hbase ?_
  · intro j u hj
    have hadd : (⟨g, 0, none⟩ : Addr).add j = ⟨g, j, none⟩ := by unfold Addr.add; split <;> simp_all
    rw [hadd]
    match j, hj with
    | 0, hj => rw [h0]; simpa using hj
    | 1, hj => rw [h1]; simpa using hj
    | j + 2, hj => simp at hj
  · rw [e1, e2]
    simp [Value.oneCell']
  · intro v' w' h1 h2 _
    refine h v' w' ?_ ((Below.refl base W).grown h2 hbase (fun k hk => (World.ownsRow.lt hown k hk).1))
    unfold RowPr
    rw [List.length_append, List.flatMap_append]
    exact h1
end Go.Proofs.YtooemgkjkngpcaaDoor
namespace Go.Proofs.YtooemgkjkngpcaaDoor
open Go.RowKit

theorem ahead_take (k : List (BitVec 8)) (l : List Pr) : l.take (ahead k l).length = ahead k l := by
  conv => lhs; rw [← ahead_behind k l]
  rw [ahead_behind]
  conv => lhs; arg 2; rw [← ahead_behind k l]
  exact List.take_left
theorem behind_drop (k : List (BitVec 8)) (l : List Pr) : l.drop (ahead k l).length = behind k l := by
  conv => lhs; arg 2; rw [← ahead_behind k l]
  exact List.drop_left
/-- how many pairs are ahead of a key -/
def rankV (k : List (BitVec 8)) (d : List PrV) : Nat := (ahead k (d.map (·.p))).length
/-- a pair comes, in the place of one with its key -/
def setV (q : PrV) (ps : List PrV) : List PrV := (dropV q.p.key ps).take (rankV q.p.key (dropV q.p.key ps)) ++ q :: (dropV q.p.key ps).drop (rankV q.p.key (dropV q.p.key ps))
theorem setV_map (q : PrV) (ps : List PrV) : (setV q ps).map (·.p) = setP q.p (ps.map (·.p)) := by
  unfold setV setP rankV
  rw [List.map_append, List.map_cons, List.map_take, List.map_drop, dropV_map, ahead_take, behind_drop]
theorem rank_le (k : List (BitVec 8)) (d : List PrV) : rankV k d ≤ d.length := by
  unfold rankV
  have := congrArg List.length (ahead_behind k (d.map (·.p)))
  rw [List.length_append, List.length_map] at this
  omega
theorem mem_setV {q x : PrV} {ps : List PrV} (h : x ∈ setV q ps) : x = q ∨ x ∈ ps := by
  unfold setV at h
  rcases List.mem_append.1 h with h | h
  · exact .inr (mem_dropV (List.mem_of_mem_take h))
  · rcases List.mem_cons.1 h with h | h
    · exact .inl h
    · exact .inr (mem_dropV (List.mem_of_mem_drop h))
theorem rank_step (k : List (BitVec 8)) (d : List PrV) (j : Nat) (q : PrV) (h : d[j]? = some q) : rankV k (d.drop j) = if lessB q.p.key k = true then rankV k (d.drop (j + 1)) + 1 else 0 := by
  obtain ⟨hj, he⟩ := List.getElem?_eq_some_iff.1 h
  unfold rankV
  rw [List.drop_eq_getElem_cons hj, List.map_cons, ahead, he]
  split
  · rfl
  · rfl
theorem heap_new_at (w : World) (o : Obj) (n : Nat) (h : w.heap.size = n) : (w.alloc o).heap[n]? = some o := by subst h; exact heap_alloc_new w o
end Go.Proofs.YtooemgkjkngpcaaDoor
namespace Go.Proofs.YtooemgkjkngpcaaDoor
open Go.RowKit

end Go.Proofs.YtooemgkjkngpcaaDoor
namespace Go.Proofs.YtooemgkjkngpcaaDoor
open Go.RowKit

theorem drewN_belowQ (w : World) (n N : Nat) : Below N w (w.drewN n) := ⟨rfl, rfl, rfl, Nat.le_refl _, fun _ _ => rfl⟩
theorem pr_take (l m : List Pr) (k : Nat) (x y : Pr) (hx : l[k]? = some x) (hy : m[k]? = some y) (h : l.take k = m.take k) (hk : x.key = y.key) (hv : x.val = y.val) : l.take (k + 1) = m.take (k + 1) := by
  obtain ⟨hl, rfl⟩ := List.getElem?_eq_some_iff.1 hx
  obtain ⟨hm, rfl⟩ := List.getElem?_eq_some_iff.1 hy
  rw [List.take_succ_eq_append_getElem hl, List.take_succ_eq_append_getElem hm, h]
  congr 2
  cases hlk : l[k]
  cases hmk : m[k]
  rw [hlk, hmk] at hk hv
  simp at hk hv
  rw [hk, hv]
theorem pr_ne (l m : List Pr) (k : Nat) (x y : Pr) (hx : l[k]? = some x) (hy : m[k]? = some y) (h : x.key ≠ y.key ∨ x.val ≠ y.val) : l ≠ m := by
  rintro rfl
  rw [hx] at hy
  obtain rfl : x = y := by simpa using hy
  rcases h with h | h <;> exact h rfl
set_option maxRecDepth 100000 in
set_option maxHeartbeats 4000000 in
theorem samePr_any (l m : List Pr) (sa sb : Value) (Na Nb : Nat) (w : World) (ha : Pairs w Na sa l) (hb : Pairs w Nb sb m) (hlen : l.length < 2305843009213693952)
    (hfl : ∀ p ∈ l, p.fits) (hfm : ∀ p ∈ m, p.fits) :
    Calls Tryd.prog 10 #[sa, sb] w fun e w' => ∃ bb, e = .returned (.bool bb) ∧ (bb = true ↔ l = m) ∧ ∃ n, w' = w.drewN n := by
  obtain ⟨oa, ca, rfl, hca⟩ := ha.shape
  obtain ⟨ob, cb, rfl, hcb⟩ := hb.shape
  by_cases hne : l.length = m.length
  · have HA := hid ha
    have HB := hid hb
    have HFL := hid hfl
    have HFM := hid hfm
    clear ha hb hfl hfm
    rw [← hne] at HB hcb ⊢
    have HE := hid hne
    clear hne
    generalize hn : l.length = n at *
    have HN := hid hn
    clear hn
    have hnn : ((n : Int) != (n : Int)) = false := by simp
    go_enter Tryd.func10, Tryd.ntmps10
    go_wp2_with fail
    go_loopw [13] (fun i wr => ∃ k q : Nat, k ≤ n ∧ i = .int .i64 k ∧ wr = w.drewN q ∧ Hid (l.take k = m.take k)) (fun i _ => n - (intOf i).toNat)
    case atStart => exact ⟨0, 0, by omega, rfl, rfl, rfl⟩
    case round =>
      obtain ⟨k, q, hk, rfl, rfl, HT⟩ := hrel
      by_cases hlt : k < n
      · obtain ⟨x, hx⟩ : ∃ p, l[k]? = some p := ⟨l[k]'(by rw [HN.out]; exact hlt), List.getElem?_eq_getElem _⟩
        obtain ⟨y, hy⟩ : ∃ p, m[k]? = some p := ⟨m[k]'(by rw [← HE.out]; exact hlt), List.getElem?_eq_getElem _⟩
        obtain ⟨b1, p1, rfl, cx⟩ := HA.out.some (by omega)
        obtain ⟨b2, p2, rfl, cy⟩ := HB.out.some (by omega)
        obtain ⟨_, xk, xv, x0, x1, hxk, hxv⟩ := cx k x hx
        obtain ⟨_, yk, yv, y0, y1, hyk, hyv⟩ := cy k y hy
        obtain ⟨o1, c1, rfl, _⟩ := hxk.shape
        obtain ⟨o2, c2, rfl, _⟩ := hxv.shape
        obtain ⟨o3, c3, rfl, _⟩ := hyk.shape
        obtain ⟨o4, c4, rfl, _⟩ := hyv.shape
        have hlt' : (k : Int) < (n : Int) := by omega
        have HX := hid hx
        have HY := hid hy
        have hfx := HFL.out x (List.mem_of_getElem? hx)
        have hfy := HFM.out y (List.mem_of_getElem? hy)
        clear cx cy hx hy
        have HSK := hid (fun wq : Nat => show Calls Tryd.prog 34 #[.slice o1 x.key.length c1, .slice o3 y.key.length c3] (w.drewN (q + wq)) (fun e w' => e = .returned (.bool (decide (x.key = y.key))) ∧ ∃ n, w' = w.drewN (q + n)) from
          (sameB_any x.key y.key _ _ Na Nb (w.drewN (q + wq)) (hxk.below (drewN_belowQ _ _ _)) (hyk.below (drewN_belowQ _ _ _)) (by have := hfx.1; omega) (by have := hfy.1; omega)).mono fun e w' ⟨h1, n', h2⟩ => ⟨h1, wq + n', by rw [h2, World.drewN_drewN, Nat.add_assoc]⟩)
        have HSV := hid (fun wq : Nat => show Calls Tryd.prog 34 #[.slice o2 x.val.length c2, .slice o4 y.val.length c4] (w.drewN (q + wq)) (fun e w' => e = .returned (.bool (decide (x.val = y.val))) ∧ ∃ n, w' = w.drewN (q + n)) from
          (sameB_any x.val y.val _ _ Na Nb (w.drewN (q + wq)) (hxv.below (drewN_belowQ _ _ _)) (hyv.below (drewN_belowQ _ _ _)) (by have := hfx.2; omega) (by have := hfy.2; omega)).mono fun e w' ⟨h1, n', h2⟩ => ⟨h1, wq + n', by rw [h2, World.drewN_drewN, Nat.add_assoc]⟩)
        clear hxk hxv hyk hyv hfx hfy
        by_cases hkk : x.key = y.key
        · have HKK := hid hkk
          rw [decide_eq_true hkk] at HSK
          clear hkk
          by_cases hvv : x.val = y.val
          · have HEQ := hid (pr_take l m k x y HX.out HY.out HT.out HKK.out hvv)
            rw [decide_eq_true hvv] at HSV
            clear hvv
            go_wp2_with fail
            go_quiet (first | (go_at_call_of 34 (Value.slice o1 x.key.length c1); exact HSK.out _) | (go_at_call_of 34 (Value.slice o2 x.val.length c2); exact HSV.out _))
            go_wp2
            go_roundw
            case rel => exact ⟨k + 1, q + nq, by omega, by go_num, rfl, HEQ⟩
            case measure => simp [intOf]; omega
          · have HNE := hid (pr_ne l m k x y HX.out HY.out (.inr hvv))
            rw [decide_eq_false hvv] at HSV
            clear hvv
            go_wp2_with fail
            go_quiet (first | (go_at_call_of 34 (Value.slice o1 x.key.length c1); exact HSK.out _) | (go_at_call_of 34 (Value.slice o2 x.val.length c2); exact HSV.out _))
            go_wp2
            go_ret
            exact ⟨false, rfl, ⟨fun h => by simp at h, fun h => absurd h HNE.out⟩, q + nq, World.drewN_drewN _ _ _⟩
        · have HNE := hid (pr_ne l m k x y HX.out HY.out (.inl hkk))
          rw [decide_eq_false hkk] at HSK
          clear hkk
          go_wp2_with fail
          go_quiet (first | (go_at_call_of 34 (Value.slice o1 x.key.length c1); exact HSK.out _))
          go_wp2
          go_ret
          exact ⟨false, rfl, ⟨fun h => by simp at h, fun h => absurd h HNE.out⟩, q + nq, World.drewN_drewN _ _ _⟩
      · have HEQ := hid (show l = m by
          have := HT.out
          rwa [List.take_of_length_le (by rw [HN.out]; omega), List.take_of_length_le (by rw [← HE.out]; omega)] at this)
        go_wp2
        go_ret
        exact ⟨true, rfl, ⟨fun _ => HEQ.out, fun _ => rfl⟩, q, rfl⟩
  · have hnn : ((l.length : Int) != (m.length : Int)) = true := by simp; omega
    have HNE := hid (show ¬ l = m from fun h => hne (by rw [h]))
    clear ha hb hfl hfm
    go_enter Tryd.func10, Tryd.ntmps10
    go_wp2
    go_ret
    exact ⟨false, rfl, ⟨fun h => by simp at h, fun h => absurd h HNE.out⟩, 0, rfl⟩
end Go.Proofs.YtooemgkjkngpcaaDoor
