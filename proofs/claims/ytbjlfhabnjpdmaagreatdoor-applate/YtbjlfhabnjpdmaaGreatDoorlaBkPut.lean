/-
  Lists of purses put together: slices.Grow and Concat, and package bank's amended.
-/
import Derived.Test.YtbjlfhabnjpdmaaGreatDoorlaBkFind
import Derived.Test.YtbjlfhabnjpdmaaGreatDoorlaBkSup
import Derived.Test.YtbjlfhabnjpdmaaGreatDoorlaStClone
import Derived.Lib.AppendZerosOnto
namespace Go.Proofs.YtbjlfhabnjpdmaaGreatDoor
open Go.RowKit

theorem info_pu : ∃ i, Tryz.prog.info? 85 = some i ∧ i.zero = some (Value.agg #[.string ⟨#[]⟩, .string ⟨#[]⟩, .int .u64 0]) ∧ i.size = 3 ∧ i.bytes = 40 := by
  have h : (Tryz.prog.info? 85).map (fun i => (i.zero, i.size, i.bytes)) = some (some (Value.agg #[.string ⟨#[]⟩, .string ⟨#[]⟩, .int .u64 0]), 3, 40) := by kernel_rfl
  cases hi : Tryz.prog.info? 85 with
  | none => rw [hi] at h; cases h
  | some i => rw [hi] at h; simp at h; exact ⟨i, rfl, h⟩
set_option maxRecDepth 100000 in
set_option maxHeartbeats 4000000 in
theorem growP_any (n : Nat) (w : World) (hn : n ≤ 1000000) :
    Calls Tryz.prog 326 #[.slice none 0 0, .int .i64 (n : Int)] w fun e w' => Below w.heap.size w w' ∧ ∃ v, e = .returned v ∧ RowT 85 3 w' w.heap.size v [] := by
  obtain ⟨i0, hi0, hz0, hz1, hz2⟩ := info_pu
  by_cases h0 : n = 0
  · subst h0
    go_enter Tryz.func326, Tryz.ntmps326
    go_wp2
    go_ret
    exact ⟨Below.refl _ _, _, rfl, fun _ h => (by cases h), World.ownsRow_nil _ _ _ _⟩
  · obtain ⟨G, hG⟩ : ∃ G, G = grownCap w n 0 85 := ⟨_, rfl⟩
    obtain ⟨W1, hW1⟩ : ∃ W1, W1 = w.drew.alloc (.cells (Builtin.zeroCells (Value.agg #[.string ⟨#[]⟩, .string ⟨#[]⟩, .int .u64 0]).cells n ++ Builtin.zeroCells (Value.agg #[.string ⟨#[]⟩, .string ⟨#[]⟩, .int .u64 0]).cells (G - n)) 85) := ⟨_, rfl⟩
    have hGn : n ≤ G := by rw [hG]; exact grownCap_ge w _ _ _
    have hGm : G ≤ maxLen := by rw [hG]; exact grownCap_le_maxLen w n 0 85 (by unfold maxLen; omega)
    have hrz : ∀ ty, (Builtin.append_ #[26, 3] ty #[.slice none 0 0, .int .i64 (n : Int)]).run Tryz.prog w = .ok (.slice (some ⟨w.heap.size, 0, none⟩) n G) W1 := fun ty => by
      have h := Lib.run_append_nil_zeros w 26 3 ty 85 i0 _ .i64 .i64 Tryz.underlying26 Tryz.underlying3 hi0 hz0 n (by omega) (by omega) (by omega) (by rw [hz2]; omega)
      rw [h, hW1, ← hG]
    have hbl : Below w.heap.size w W1 := by
      rw [hW1]
      exact (show Below w.heap.size w w.drew from ⟨rfl, rfl, rfl, Nat.le_refl _, fun _ _ => rfl⟩).alloc (Nat.le_refl _) _
    have hown : RowT 85 3 W1 w.heap.size (.slice (some ⟨w.heap.size, 0, none⟩) 0 G) [] := by
      refine ⟨fun _ h => (by cases h), rfl, .inr ⟨w.heap.size, G, Builtin.zeroCells (Value.agg #[.string ⟨#[]⟩, .string ⟨#[]⟩, .int .u64 0]).cells n ++ Builtin.zeroCells (Value.agg #[.string ⟨#[]⟩, .string ⟨#[]⟩, .int .u64 0]).cells (G - n), rfl, Nat.le_refl _, ?_, Nat.zero_le _, hGm, ?_, rfl⟩⟩
      · rw [hW1]
        exact heap_alloc_new w.drew _
      · rw [Array.size_append, size_zeroCells, size_zeroCells, show (Value.agg #[.string ⟨#[]⟩, .string ⟨#[]⟩, .int .u64 0]).cells.size = 3 from rfl]
        omega
    have HO := hid hown
    have HB := hid hbl
    have hG63 : G ≤ 9223372036854775807 := by unfold maxLen at hGm; omega
    obtain ⟨B, hB⟩ : ∃ B, w.heap.size = B := ⟨_, rfl⟩
    rw [hB] at hrz
    have HHB := hid hB
    clear hW1 hG hown hbl hGm hi0 hz0 hz1 hz2 hB
    have b1 : (0 : Int) < (n : Int) := by omega
    have b2 : decide ((0 : Int) < (n : Int)) = true := by simpa using b1
    have b3 : decide ((n : Int) < 0) = false := by simp
    go_enter Tryz.func326, Tryz.ntmps326
    go_wp2_with (at_builtin; refine Lib.wpList_append_run _ rfl (.tmp 20) (.tmp 21) _ _ rfl _ _ rfl rfl _ _ (hrz _) ?_)
    go_ret
    refine ⟨HB.out, .slice (some ⟨B, 0, none⟩) 0 G, rfl, ?_⟩
    rw [← HHB.out]
    exact HO.out
def rowsU (l : List Pu) : List (List Value) := l.map puCells
theorem rowsU_ok (l : List Pu) : ∀ r ∈ rowsU l, r.length = 3 ∧ ∀ x ∈ r, x.oneCell' = true := fun r hr => by
  obtain ⟨p, -, rfl⟩ := List.mem_map.1 hr
  refine ⟨rfl, fun x hx => ?_⟩
  simp [puCells] at hx
  rcases hx with rfl | rfl | rfl <;> rfl
theorem Many.recsU {w : World} {N : Nat} {v : Value} {l : List Pu} (h : Many PuR 3 w N v l) : Recs w N v 3 (rowsU l) := by
  obtain ⟨rs, h1, h2, h3⟩ := h
  have : rs = rowsU l := by
    apply List.ext_getElem?
    intro i
    unfold rowsU
    rw [List.getElem?_map]
    cases hr : rs[i]? with
    | none =>
      rw [List.getElem?_eq_none (by have := List.getElem?_eq_none_iff.1 hr; omega)]
      rfl
    | some r =>
      have hi : i < l.length := by rw [← h1]; exact (List.getElem?_eq_some_iff.1 hr).1
      rw [List.getElem?_eq_getElem hi]
      have e := h3 i r l[i] hr (List.getElem?_eq_getElem hi)
      unfold PuR at e
      rw [e]
      rfl
  rw [← this]
  exact h2
theorem manyU {w : World} {N : Nat} {v : Value} {l : List Pu} (h : Recs w N v 3 (rowsU l)) : Many PuR 3 w N v l := ⟨rowsU l, by simp [rowsU], h, fun i r x hr hx => by
  unfold rowsU at hr
  rw [List.getElem?_map, hx] at hr
  exact (Option.some.inj hr).symm⟩
/-- a list of purses in memory that is new since base -/
def NewU (base : Nat) (w : World) (v : Value) (l : List Pu) : Prop := RowT 85 3 w base v (rowsU l)
theorem NewU.now {base : Nat} {w : World} {v : Value} {l : List Pu} (h : NewU base w v l) : Many PuR 3 w w.heap.size v l := manyU (RowT.recs h)
theorem NewU.down {base base' : Nat} {w : World} {v : Value} {l : List Pu} (h : NewU base w v l) (hb : base' ≤ base) : NewU base' w v l := RowT.mono h hb
theorem NewU.past {base : Nat} {w w' : World} {v : Value} {l : List Pu} (h : NewU base w v l) (hb : Below w.heap.size w w') : NewU base w' v l := RowT.below h hb
theorem NewU.nil (base : Nat) (w : World) : NewU base w (.slice none 0 0) [] := ⟨fun _ h => (by cases h), World.ownsRow_nil w base 85 3⟩
theorem NewU.shape {base : Nat} {w : World} {v : Value} {l : List Pu} (h : NewU base w v l) : ∃ oa cap, v = .slice oa l.length cap ∧ l.length ≤ cap := by
  have := RowT.shape h
  simpa [rowsU] using this
theorem flatP_take {α : Type} {ls : List (List α)} {k : Nat} {x : List α} (h : ls[k]? = some x) : (ls.take (k + 1)).flatten = (ls.take k).flatten ++ x := by
  rw [List.take_add_one, h]
  simp
theorem flat_take_le {α : Type} (ls : List (List α)) (k : Nat) : (ls.take k).flatten.length ≤ ls.flatten.length := by
  have := congrArg (fun x => x.flatten.length) (List.take_append_drop k ls)
  simp only [List.flatten_append, List.length_append] at this
  omega
set_option maxRecDepth 100000 in
set_option maxHeartbeats 4000000 in
theorem concatP_new (ls : List (List Pu)) (vs : List Value) (N g n : Nat) (w : World) (hN : N ≤ w.heap.size) (hm : ∀ (i : Nat) l, ls[i]? = some l → ∃ v, vs[i]? = some v ∧ Many PuR 3 w N v l) (hr : Row w g 26 vs) (hn : ls.length = n) (h10 : n ≤ 10) (hl : ls.flatten.length ≤ 1000) :
    Calls Tryz.prog 286 #[.slice (some ⟨g, 0, none⟩) n n] w fun e w' => Below w.heap.size w w' ∧ ∃ v, e = .returned v ∧ NewU w.heap.size w' v ls.flatten := by
  have HM := hid (show ∀ (k : Nat) l W, ls[k]? = some l → Below w.heap.size w W → ∃ oa c, W.cell? ⟨g, k, none⟩ = some (.slice oa l.length c) ∧ Recs W N (.slice oa l.length c) 3 (rowsU l) from by
    intro k l W hk hb
    obtain ⟨v, hv, hmv⟩ := hm k l hk
    obtain ⟨oa, c, rfl, -⟩ := hmv.shape
    refine ⟨oa, c, (hb.cell (p := ⟨g, k, none⟩) hr.lt).trans ?_, hmv.recsU.below (hb.mono hN)⟩
    have := hr.cell k
    rw [this, hv])
  have hgl := hr.lt
  have HN := hid hn
  obtain ⟨T, hT⟩ : ∃ T, ls.flatten.length = T := ⟨_, rfl⟩
  have HTT := hid hT
  have HG := hid (fun W => growP_any T W (by omega))
  clear hT
  have HL := hid hl
  clear hm hr hl hn
  go_enter Tryz.func286, Tryz.ntmps286
  go_wp2_with fail
  go_loopw [3, 11] (fun s3 s11 wr => ∃ k S : Nat, k ≤ n ∧ s11 = .int .i64 k ∧ s3 = .int .i64 S ∧ Hid ((ls.take k).flatten.length = S) ∧ Hid (Below w.heap.size w wr)) (fun _ s11 _ => n - (intOf s11).toNat)
  case atStart => exact ⟨0, 0, Nat.zero_le _, rfl, rfl, rfl, Below.refl _ _⟩
  case round =>
    obtain ⟨k, S, hk, rfl, rfl, HS, HB⟩ := hrel
    by_cases hlt : k < n
    · obtain ⟨x, hx⟩ : ∃ x, ls[k]? = some x := ⟨ls[k]'(by rw [HN.out]; exact hlt), List.getElem?_eq_getElem _⟩
      obtain ⟨oa, c, c0, -⟩ := HM.out k x wr hx HB.out
      have HT := hid (congrArg List.length (flatP_take hx))
      have hle := flat_take_le ls (k + 1)
      rw [HT.out, List.length_append, HS.out] at hle
      have hS : S + x.length ≤ 1000 := Nat.le_trans hle HL.out
      have hlt' : (k : Int) < (n : Int) := by omega
      have hsz := HB.out.size
      have s2 : decide ((S : Int) + (x.length : Int) < 0) = false := by simp; omega
      clear hx hle
      go_wp2_with fail
      refine ⟨⟨k + 1, S + x.length, by omega, by go_num, by go_num, by rw [← HS.out, ← List.length_append]; exact HT.out, HB.out⟩, by simp [intOf]; omega⟩
    · obtain rfl : k = n := by omega
      have hlt' : decide ((k : Int) < (k : Int)) = false := by simp
      have hS := HS.out
      rw [List.take_of_length_le (by rw [HN.out]; exact Nat.le_refl _), HTT.out] at hS
      subst hS
      go_upto_region 9 with fail
      have HG1 := hid (HG.out wr)
      clear HG
      go_wp2_with fail
      refine HG1.out.mono ?_
      rintro e w1 ⟨hb1, v1, rfl, hr1⟩
      obtain ⟨o1, c1, rfl, -⟩ := hr1.shape
      have HB1 := hid (HB.out.trans (hb1.mono HB.out.size))
      have HR1 := hid (hr1.mono HB.out.size)
      clear hb1 hr1 HG1
      go_wp2_with fail
      go_loopw [6, 27] (fun s6 s27 wr => ∃ j : Nat, j ≤ k ∧ s27 = .int .i64 j ∧ Hid (RowT 85 3 wr w.heap.size s6 (rowsU (ls.take j).flatten)) ∧ Hid (Below w.heap.size w wr)) (fun _ s27 _ => k - (intOf s27).toNat)
      case atStart => exact ⟨0, Nat.zero_le _, rfl, HR1.out, HB1.out⟩
      case round =>
        obtain ⟨j, hj, rfl, HR, HB⟩ := hrel
        obtain ⟨o6, c6, rfl, -⟩ := HR.out.shape
        by_cases hlt : j < k
        · obtain ⟨x, hx⟩ : ∃ x, ls[j]? = some x := ⟨ls[j]'(by rw [HN.out]; exact hlt), List.getElem?_eq_getElem _⟩
          obtain ⟨oa, c, c0, hrec⟩ := HM.out j x wr hx HB.out
          have HRE := hid hrec
          have HT := hid (flatP_take hx)
          have HLE := hid (show (rowsU (ls.take j).flatten).length + (rowsU x).length ≤ 1000000 by
            have := flat_take_le ls (j + 1)
            rw [HT.out, List.length_append] at this
            have := HL.out
            simp only [rowsU, List.length_map]
            omega)
          have hlt' : (j : Int) < (k : Int) := by omega
          have hsz := HB.out.size
          clear hx hrec
          go_wp2_with (at_builtin; refine wpList_appendT recFPu rfl _ _ rfl w.heap.size _ _ rfl HR.out _ _ rfl HRE.out (rowsU_ok x) HLE.out hsz ?_)
          intro v' w2 hrow hb2 hg2
          have HR2 := hid hrow
          have HB2 := hid (HB.out.trans hb2)
          clear hrow hb2 hg2
          go_wp2_with fail
          refine ⟨⟨j + 1, by omega, by go_num, ?_, HB2.out⟩, by simp [intOf]; omega⟩
          rw [HT.out]
          unfold rowsU
          rw [List.map_append]
          exact HR2.out
        · obtain rfl : j = k := by omega
          have hlt' : decide ((j : Int) < (j : Int)) = false := by simp
          go_wp2
          go_ret
          refine ⟨HB.out, _, rfl, ?_⟩
          unfold NewU
          rw [show rowsU ls.flatten = rowsU (ls.take j).flatten by rw [List.take_of_length_le (by rw [HN.out]; exact Nat.le_refl _)]]
          exact HR.out
theorem Many.none {α : Type} {R : World → Nat → List Value → α → Prop} {k : Nat} {w : World} {N n c : Nat} {l : List α} (h : Many R k w N (.slice none n c) l) : l = [] ∧ n = 0 ∧ c = 0 := by
  obtain ⟨rs, h1, h2, -⟩ := h
  obtain ⟨rfl, h4, h5⟩ := recs_none h2
  exact ⟨List.eq_nil_of_length_eq_zero (by simpa using h1.symm), h4, h5⟩
/-- a part of a list -/
theorem Many.between {α : Type} {R : World → Nat → List Value → α → Prop} {k : Nat} {w : World} {N n ca i j : Nat} {oa : Option Addr} {l : List α} (h : Many R k w N (.slice oa n ca) l) (hij : i ≤ j) (hj : j ≤ n) : Many R k w N (sliced oa i j ca k) ((l.drop i).take (j - i)) := by
  obtain ⟨oa', ca', he, hca⟩ := h.shape
  injection he with e1 e2 e3
  subst e1 e2 e3
  by_cases h0 : i = j
  · subst h0
    rw [Nat.sub_self, List.take_zero]
    cases oa with
    | none =>
      obtain ⟨rfl, h2, rfl⟩ := h.none
      obtain rfl : i = 0 := by omega
      simp only [sliced, Option.map_none, Nat.sub_self]
      exact Many.nil _ _ _ _
    | some a => exact ⟨[], rfl, .inr (.inl ⟨if ca = i then a else a.add (i * k), ca - i, by simp only [sliced, Nat.sub_self]; split <;> simp, rfl⟩), fun _ _ _ h => by simp at h⟩
  · obtain ⟨rs, h1, h2, h3⟩ := h
    refine ⟨(rs.drop i).take (j - i), by simp [h1], ?_, fun t r x hr hx => ?_⟩
    · rcases h2 with ⟨e, rfl⟩ | ⟨a, cap, e, rfl⟩ | ⟨b, off, cap, e, hc, hh⟩
      · simp at h1; omega
      · simp at h1; omega
      · injection e with e1 e2 e3
        subst e1 e3
        have hne : ¬ ca = i := by omega
        refine .inr (.inr ⟨b, off + i * k, ca - i, ?_, by simp; omega, fun t r hr => ?_⟩)
        · rw [List.length_take, List.length_drop, Nat.min_eq_left (by omega)]
          simp [sliced, hne, Addr.add]
        · rw [List.getElem?_take] at hr
          split at hr
          · rw [List.getElem?_drop] at hr
            obtain ⟨g1, g2⟩ := hh (i + t) r hr
            refine ⟨g1, fun q x hx => ?_⟩
            have := g2 q x hx
            rw [show off + (i + t) * k + q = off + i * k + t * k + q by rw [Nat.add_mul]; omega] at this
            exact this
          · cases hr
    · rw [List.getElem?_take] at hr hx
      split at hr
      · rename_i hlt
        rw [if_pos hlt] at hx
        rw [List.getElem?_drop] at hr hx
        exact h3 _ r x hr hx
      · cases hr
theorem elemPu : Tryz.prog.underlying 26 = some (.slice (Tryz.prog.elem 26)) := by kernel_rfl
theorem sizePu (w : World) : (sizeOf (Tryz.prog.elem 26)).run Tryz.prog w = .ok 3 w := by kernel_rfl
theorem purse_from {w : World} {N : Nat} {oa : Option Addr} {n ca : Nat} {l : List Pu} (h : Many PuR 3 w N (.slice oa n ca) l) (i : Nat) (hi : i ≤ n) : ∃ o c, (∀ w', (Instr.sliceAt 26 (.slice oa n ca) (some (.int .i64 (i : Int))) none none).run Tryz.prog w' = .ok (.slice o (n - i) c) w') ∧ Many PuR 3 w N (.slice o (n - i) c) (l.drop i) := by
  have hn : n = l.length := by obtain ⟨oa', ca', he, _⟩ := h.shape; simp at he; exact he.2.1
  have := h.between hi (Nat.le_refl _)
  rw [List.take_of_length_le (by simp; omega)] at this
  refine ⟨_, _, fun w' => ?_, this⟩
  rw [run_sliceAt_slice w' _ _ _ _ _ elemPu, run_slice_l w' _ _ _ _ elemPu .i64 (i : Int) (by omega) (by omega), sizePu]
  rfl
theorem purse_to {w : World} {N : Nat} {oa : Option Addr} {n ca : Nat} {l : List Pu} (h : Many PuR 3 w N (.slice oa n ca) l) (j : Nat) (hj : j ≤ n) : ∃ o c, (∀ w', (Instr.sliceAt 26 (.slice oa n ca) none (some (.int .i64 (j : Int))) none).run Tryz.prog w' = .ok (.slice o j c) w') ∧ Many PuR 3 w N (.slice o j c) (l.take j) := by
  have hc : n ≤ ca := by obtain ⟨oa', ca', he, hc⟩ := h.shape; simp at he; omega
  have := h.between (Nat.zero_le j) hj
  rw [List.drop_zero, Nat.sub_zero] at this
  refine ⟨_, _, fun w' => ?_, this⟩
  rw [run_sliceAt_slice w' _ _ _ _ _ elemPu, run_slice_h w' _ _ _ _ elemPu .i64 (j : Int) (by omega) (by omega), sizePu]
  rfl
set_option maxRecDepth 100000 in
set_option maxHeartbeats 4000000 in
theorem find_any (l : List Pu) (o d : ByteArray) (sv : Value) (N : Nat) (w : World) (hN : N ≤ w.heap.size) (hl : Many PuR 3 w N sv l) (hs : SortU l) (hlen : l.length ≤ 1000000) :
    Calls Tryz.prog 285 #[sv, .string o, .string d] w fun e w' => Below w.heap.size w w' ∧ FoundU l o d e := by
  obtain ⟨oa, ca, rfl, hca⟩ := hl.shape
  have HC := hid (psearch_any l o d _ N w #[] rfl hN hl hs hlen)
  clear hl hs
  go_enter Tryz.func285, Tryz.ntmps285
  go_wp2_with fail
  refine HC.out.mono ?_
  rintro e w2 ⟨hb, i, fd, hat, rfl⟩
  have HB := hid hb
  have HAT := hid hat
  clear hb hat
  go_wp2
  go_ret2
  exact ⟨HB.out, i, fd, HAT.out, rfl⟩
set_option maxRecDepth 100000 in
set_option maxHeartbeats 4000000 in
theorem amount_any (l : List Pu) (o d : ByteArray) (sv : Value) (N : Nat) (w : World) (hN : N ≤ w.heap.size) (hl : Many PuR 3 w N sv l) (hs : SortU l) (hlen : l.length ≤ 1000000) :
    Calls Tryz.prog 236 #[sv, .string o, .string d] w fun e w' => e = .returned (.int .u64 (amtU l o d : Int)) ∧ Below w.heap.size w w' := by
  have HC := hid (find_any l o d sv N w hN hl hs hlen)
  have HS := hid hs
  have HL := hid hl
  obtain ⟨oa, ca, rfl, hca⟩ := hl.shape
  generalize hn : l.length = n at *
  have HN := hid hn
  clear hl hs hn
  go_enter Tryz.func236, Tryz.ntmps236
  go_wp2_with fail
  refine HC.out.mono ?_
  rintro e w2 ⟨hb, i, fd, hat, rfl⟩
  obtain ⟨-, h1, h2⟩ := hat.cut HS.out
  have HB := hid hb
  clear HC
  cases fd with
  | true =>
    obtain ⟨x, hx, ha, -⟩ := h1 rfl
    have hil : i < n := by rw [← HN.out]; exact (List.getElem?_eq_some_iff.1 hx).1
    obtain ⟨b, f, rfl, hbN, c0, c1, c2⟩ := HL.out.purse (by omega) hx (HB.out.mono hN)
    have hil' : (i : Int) < (n : Int) := by omega
    have HA := hid ha
    clear hb hat h1 h2 hx ha c0 c1
    go_wp2
    go_ret
    exact ⟨by rw [HA.out]; rfl, HB.out⟩
  | false =>
    have HA := hid (h2 rfl).1
    clear hb hat h1 h2
    go_wp2
    go_ret
    exact ⟨by rw [HA.out]; rfl, HB.out⟩
set_option maxRecDepth 100000 in
set_option maxHeartbeats 4000000 in
theorem amended_new (l : List Pu) (o d : ByteArray) (x : Nat) (fid : Nat) (cap sv : Value) (N : Nat) (w : World) (hN : N ≤ w.heap.size) (hl : Many PuR 3 w N sv l) (hs : SortU l) (hlen : l.length ≤ 60)
    (hrun : ∀ (args : Array Value) (W : World), (callFunc fid args).run Tryz.prog W = .ok (.enter fid args) W) (hch : ∀ W, Below w.heap.size w W → Calls Tryz.prog fid #[.int .u64 (amtU l o d : Int), cap] W fun e w' => e = .returned (.int .u64 (x : Int)) ∧ Below W.heap.size W w') :
    Calls Tryz.prog 237 #[sv, .string o, .string d, .func (.func fid) #[] #[cap]] w fun e w' => Below w.heap.size w w' ∧ ∃ v, e = .returned v ∧ NewU w.heap.size w' v (putU l o d x) := by
  have HC := hid (find_any l o d sv N w hN hl hs (by omega))
  have HS := hid hs
  have HL := hid hl
  have HCH := hid hch
  have HRUN := hid hrun
  obtain ⟨oa, ca, rfl, hca⟩ := hl.shape
  have HN60 := hid hlen
  generalize hn : l.length = n at *
  have HN := hid hn
  clear hl hs hn hch hrun hlen
  go_enter Tryz.func237, Tryz.ntmps237
  go_wp2_with fail
  refine HC.out.mono ?_
  rintro e w1 ⟨hb, i, fd, hat, rfl⟩
  obtain ⟨h0, h1, h2⟩ := hat.cut HS.out
  have hin : i ≤ n := by rw [← HN.out]; exact hat.le
  have HB := hid hb
  obtain ⟨o1, c1, hr1, hm1⟩ := purse_to HL.out i hin
  obtain ⟨o2, c2, hr2, hm2⟩ := purse_from HL.out i hin
  rw [h0] at hm1
  have HM1 := hid (hm1.below PuR.stays (HB.out.mono hN))
  have HM2 := hid (hm2.below PuR.stays (HB.out.mono hN))
  have HH := hid (And.intro h1 h2)
  clear HC hb hat h0 h1 h2 hm1 hm2
  go_upto_region 2 with fail
  apply region_go (C := fun _ => True) (by kernel_rfl) (fun _ _ => trivial) (by kernel_rfl)
  · intro σ; simp [slotAll]; exact rfl
  iterate 8 (apply RK.val rfl; · intro σ W hb hc hd; simp [Has, Fresh, Region.binds] at hd; go_simp; exact rfl)
  intro σ W hb _ hF; simp [AllF] at hF; go_simp; clear hF
  have HB1 := hid (HB.out.trans (hb.mono HB.out.size))
  replace HM1 := hid (HM1.out.below PuR.stays (hb.mono (Nat.le_trans hN HB.out.size)))
  replace HM2 := hid (HM2.out.below PuR.stays (hb.mono (Nat.le_trans hN HB.out.size)))
  clear hb hr1 hr2 HB
  have HNN := hid (Nat.le_trans hN HB1.out.size)
  have TAIL := hid (show ∀ (w3 : World) (o3 : Option Addr) (n3 c3 : Nat) (vs : List Value) (g : Nat), Below W.heap.size W w3 → Many PuR 3 w3 w3.heap.size (.slice o3 n3 c3) (behindU l o d) → Row w3 g 26 vs → (∀ p, vs = [.slice o1 i c1, p, .slice o3 n3 c3] → Many PuR 3 w3 w3.heap.size p (oneU o d x) → Calls Tryz.prog 286 #[.slice (some ⟨g, 0, none⟩) 3 3] w3 fun e w' => Below w3.heap.size w3 w' ∧ ∃ v, e = .returned v ∧ NewU w3.heap.size w' v (putU l o d x)) from by
    intro w3 o3 n3 c3 vs g hb3 hm3 hr p hvs hmp
    subst hvs
    have hz := hb3.size
    have := concatP_new [aheadU l o d, oneU o d x, behindU l o d] _ w3.heap.size g 3 w3 (Nat.le_refl _) (fun i m hi => by
      match i, hi with
      | 0, hi => obtain rfl := Option.some.inj hi; exact ⟨_, rfl, (HM1.out.below PuR.stays (hb3.mono HNN.out)).mono PuR.stays (by have := HNN.out; omega)⟩
      | 1, hi => obtain rfl := Option.some.inj hi; exact ⟨_, rfl, hmp⟩
      | 2, hi => obtain rfl := Option.some.inj hi; exact ⟨_, rfl, hm3⟩) hr rfl (by decide) (by
        have h1 := congrArg List.length (split_same l o d HS.out).1
        have h2 := HN60.out
        have h3 := HN.out
        have h4 : (oneU o d x).length ≤ 1 := by unfold oneU; split <;> simp
        simp only [List.length_append] at h1
        simp
        omega)
    have e : [aheadU l o d, oneU o d x, behindU l o d].flatten = putU l o d x := by simp [putU]
    rw [e] at this
    exact this)
  have GO : ∃ (h3 : Nat), amtU l o d = h3 := ⟨_, rfl⟩
  obtain ⟨h3, e3⟩ := GO
  have HE3 := hid e3
  clear e3
  cases fd
  · obtain ⟨ha, hd⟩ := HH.out.2 rfl
    obtain rfl : h3 = 0 := by rw [← HE3.out]; exact ha
    have HM3 := hid HM2.out
    rw [hd] at HM3
    clear ha hd HM2 HH
    generalize n - i = n3 at *
    generalize c2 = c3 at *
    generalize o2 = o3 at *
    have HCX := hid (show ∀ W, Below w.heap.size w W → Calls Tryz.prog fid #[.int .u64 0, cap] W fun e w' => e = .returned (.int .u64 (x : Int)) ∧ Below W.heap.size W w' from fun W hb => by have := HCH.out W hb; rw [HE3.out] at this; exact this)
    go_wp2_with fail
    rw [HRUN.out, Oper.upon_enter]
    refine (HCX.out _ HB1.out).mono ?_
    rintro e w3 ⟨rfl, hb3⟩
    have HB3 := hid hb3
    clear hb3
    by_cases hx0 : x = 0
    · subst hx0
      go_wp2_with fail
      refine boxC ?_
      intro w4 hr4 hb4
      have HB4 := hid (HB3.out.trans (hb4.mono HB3.out.size))
      refine (TAIL.out w4 o3 n3 c3 _ _ HB4.out ((HM3.out.below PuR.stays (HB4.out.mono HNN.out)).mono PuR.stays (Nat.le_trans HNN.out HB4.out.size)) hr4 _ rfl (Many.nil _ _ _ _)).mono ?_
      rintro e w5 ⟨hb5, v, rfl, hv⟩
      have HV := hid (hv.down (HB1.out.trans (HB4.out.mono HB1.out.size)).size)
      have HB5 := hid (HB1.out.trans ((HB4.out.trans (hb5.mono HB4.out.size)).mono HB1.out.size))
      clear hv hb5 hr4 hb4
      go_wp2
      go_ret
      exact ⟨HB5.out, v, rfl, HV.out⟩
    · have hx1 : decide ((0 : Int) < (x : Int)) = true := by simp; omega
      have hx2 : decide (0 < x) = true := by simp; omega
      go_upto_region 10 with fail
      refine boxK ?_
      intro w4 hr4 hb4
      have HB4 := hid (HB3.out.trans (hb4.mono HB3.out.size))
      have HR4 := hid (show Many PuR 3 w4 w4.heap.size (.slice (some ⟨w3.heap.size, 0, none⟩) 1 1) (oneU o d x) from by
        unfold oneU
        rw [if_neg hx0]
        exact manyU (.inr (.inr ⟨w3.heap.size, 0, 1, rfl, Nat.le_refl _, fun i r hi => by
          match i, hi with
          | 0, hi =>
            obtain rfl := Option.some.inj hi
            refine ⟨hr4.lt, fun j y hy => ?_⟩
            have := hr4.cell j
            simp only [Nat.zero_mul, Nat.zero_add]
            rw [this]
            exact hy⟩)))
      clear hr4 hb4
      go_wp2_with fail
      refine boxC ?_
      intro w5 hr5 hb5
      have HB5 := hid (HB4.out.trans (hb5.mono HB4.out.size))
      refine (TAIL.out w5 o3 n3 c3 _ _ HB5.out ((HM3.out.below PuR.stays (HB5.out.mono HNN.out)).mono PuR.stays (Nat.le_trans HNN.out HB5.out.size)) hr5 _ rfl ((HR4.out.below PuR.stays hb5).mono PuR.stays hb5.size)).mono ?_
      rintro e w6 ⟨hb6, v, rfl, hv⟩
      have HV := hid (hv.down (HB1.out.trans (HB5.out.mono HB1.out.size)).size)
      have HB6 := hid (HB1.out.trans ((HB5.out.trans (hb6.mono HB5.out.size)).mono HB1.out.size))
      clear hv hb6 hr5 hb5
      go_wp2
      go_ret
      exact ⟨HB6.out, v, rfl, HV.out⟩
  · obtain ⟨y, hy, hya, hd⟩ := HH.out.1 rfl
    obtain rfl : h3 = y := by rw [← HE3.out]; exact hya
    have hil : i < n := by rw [← HN.out]; exact (List.getElem?_eq_some_iff.1 hy).1
    obtain ⟨b2, f2, rfl, hbN, z0, z1, z2⟩ := HM2.out.purse (k := 0) (by omega) (by rw [List.getElem?_drop]; exact hy) (Below.refl _ _)
    obtain ⟨o3, c3, hr3, hm3⟩ := purse_from HM2.out 1 (by omega)
    rw [List.drop_drop, hd] at hm3
    have HM3 := hid hm3
    have HCX := hid (show ∀ W, Below w.heap.size w W → Calls Tryz.prog fid #[.int .u64 (h3 : Int), cap] W fun e w' => e = .returned (.int .u64 (x : Int)) ∧ Below W.heap.size W w' from fun W hb => by have := HCH.out W hb; rw [HE3.out] at this; exact this)
    have hlt : (0 : Int) < ((n - i : Nat) : Int) := by omega
    have hlt2 : 0 < n - i := by omega
    clear hy hya hd hm3 z0 z1 HM2 HH
    generalize n - i = m at *
    generalize hm1 : m - 1 = n3 at *
    have HZ := hid (fun X (hX : Below W.heap.size W X) => (hX.cell (p := ⟨b2, f2 + 0 * 3 + 2, none⟩) (Nat.lt_of_lt_of_le hbN HNN.out)).trans z2)
    simp only [Nat.zero_mul, Nat.add_zero] at HZ
    have hr3' : ∀ w', (Instr.sliceAt 26 (.slice (some ⟨b2, f2, none⟩) m c2) (some (.int .i64 1)) none none).run Tryz.prog w' = .ok (.slice o3 n3 c3) w' := hr3
    clear z2 hr3 hm1
    go_upto_region 5 with fail
    apply region_go (by kernel_rfl) (fun X hX => HZ.out X hX) (by kernel_rfl)
    · intro σ; simp [slotAll]; exact rfl
    iterate 8 (apply RK.val rfl; · intro σ W hb hc hd; simp [Has, Fresh, Region.binds] at hd; go_simp; exact rfl)
    clear hr3'
    intro σ W' hb _ hF; simp [AllF] at hF; go_simp; clear hF
    replace HB1 := hid (HB1.out.trans (hb.mono HB1.out.size))
    replace HM3 := hid (HM3.out.below PuR.stays (hb.mono HNN.out))
    replace TAIL := hid (fun w3 o3 n3 c3 vs g (h : Below W'.heap.size W' w3) => TAIL.out w3 o3 n3 c3 vs g (hb.trans (h.mono hb.size)))
    replace HNN := hid (Nat.le_trans HNN.out hb.size)
    clear hb
    go_wp2_with fail
    rw [HRUN.out, Oper.upon_enter]
    refine (HCX.out _ HB1.out).mono ?_
    rintro e w3 ⟨rfl, hb3⟩
    have HB3 := hid hb3
    clear hb3
    by_cases hx0 : x = 0
    · subst hx0
      go_wp2_with fail
      refine boxC ?_
      intro w4 hr4 hb4
      have HB4 := hid (HB3.out.trans (hb4.mono HB3.out.size))
      refine (TAIL.out w4 o3 n3 c3 _ _ HB4.out ((HM3.out.below PuR.stays (HB4.out.mono HNN.out)).mono PuR.stays (Nat.le_trans HNN.out HB4.out.size)) hr4 _ rfl (Many.nil _ _ _ _)).mono ?_
      rintro e w5 ⟨hb5, v, rfl, hv⟩
      have HV := hid (hv.down (HB1.out.trans (HB4.out.mono HB1.out.size)).size)
      have HB5 := hid (HB1.out.trans ((HB4.out.trans (hb5.mono HB4.out.size)).mono HB1.out.size))
      clear hv hb5 hr4 hb4
      go_wp2
      go_ret
      exact ⟨HB5.out, v, rfl, HV.out⟩
    · have hx1 : decide ((0 : Int) < (x : Int)) = true := by simp; omega
      have hx2 : decide (0 < x) = true := by simp; omega
      go_upto_region 10 with fail
      refine boxK ?_
      intro w4 hr4 hb4
      have HB4 := hid (HB3.out.trans (hb4.mono HB3.out.size))
      have HR4 := hid (show Many PuR 3 w4 w4.heap.size (.slice (some ⟨w3.heap.size, 0, none⟩) 1 1) (oneU o d x) from by
        unfold oneU
        rw [if_neg hx0]
        exact manyU (.inr (.inr ⟨w3.heap.size, 0, 1, rfl, Nat.le_refl _, fun i r hi => by
          match i, hi with
          | 0, hi =>
            obtain rfl := Option.some.inj hi
            refine ⟨hr4.lt, fun j y hy => ?_⟩
            have := hr4.cell j
            simp only [Nat.zero_mul, Nat.zero_add]
            rw [this]
            exact hy⟩)))
      clear hr4 hb4
      go_wp2_with fail
      refine boxC ?_
      intro w5 hr5 hb5
      have HB5 := hid (HB4.out.trans (hb5.mono HB4.out.size))
      refine (TAIL.out w5 o3 n3 c3 _ _ HB5.out ((HM3.out.below PuR.stays (HB5.out.mono HNN.out)).mono PuR.stays (Nat.le_trans HNN.out HB5.out.size)) hr5 _ rfl ((HR4.out.below PuR.stays hb5).mono PuR.stays hb5.size)).mono ?_
      rintro e w6 ⟨hb6, v, rfl, hv⟩
      have HV := hid (hv.down (HB1.out.trans (HB5.out.mono HB1.out.size)).size)
      have HB6 := hid (HB1.out.trans ((HB5.out.trans (hb6.mono HB5.out.size)).mono HB1.out.size))
      clear hv hb6 hr5 hb5
      go_wp2
      go_ret
      exact ⟨HB6.out, v, rfl, HV.out⟩
end Go.Proofs.YtbjlfhabnjpdmaaGreatDoor
