/-
  What package state's entries gathers: what its first closure (put) does.
-/
import Derived.Test.YtooemgkjkngpcaaGreatDoorTaPairsAll
import Derived.Test.YtooemgkjkngpcaaGreatDoorTaStKey
import Derived.Test.YtooemgkjkngpcaaGreatDoorTaRegions
import Derived.Deep.Slices
namespace Go.Proofs.YtooemgkjkngpcaaGreatDoor
open Go.RowKit

set_option maxRecDepth 100000 in
set_option maxHeartbeats 2000000 in
theorem connKey_any (k : Int) (hk : 0 ≤ k ∧ k ≤ 1000000000000) (w : World) (htab : powAt w) : Calls Tryz.prog 85 #[.int .i64 k] w fun e w' => ∃ v, e = .returned v ∧ OwnM w' w.heap.size v (keyL kwConn [k.toNat]) ∧ Below w.heap.size w w' := by
  obtain ⟨w0, hw0⟩ : ∃ w0, w.alloc (.cells #[.int .i64 k] 3) = w0 := ⟨_, rfl⟩
  have hb0 : Below w.heap.size w w0 := by rw [← hw0]; exact (Below.refl _ _).alloc (Nat.le_refl _) _
  have HB0 := hid hb0
  have HK := hid (keyOf_any ⟨#[99, 111, 110, 110]⟩ [k] w.heap.size 1 w0 (by decide) (by rw [← hw0]; exact Row.new _ _ _) rfl (by decide) (fun n hn => by simp at hn; omega) (htab.below hb0))
  have HW0 := hid hw0
  clear hb0 hw0 htab
  go_enter Tryz.func85, Tryz.ntmps85
  go_wp2_with fail
  rw [HW0.out]
  refine HK.out.mono ?_
  rintro e w1 ⟨v, rfl, ho, hb⟩
  have HO := hid ho
  have HB := hid hb
  clear ho hb
  go_wp2
  go_ret
  exact ⟨v, rfl, HO.out.mono HB0.out.size, HB0.out.trans (HB.out.mono HB0.out.size)⟩
set_option maxHeartbeats 4000000 in
theorem connVal_any (c : Cn) (h : wrongCn c = 0) (w : World) : Calls Tryz.prog 86 #[.agg #[.int .i64 c.state, .int .i64 c.client, .int .i64 c.oclient, .int .i64 c.oconn]] w fun e w' => ∃ v, e = .returned v ∧ OwnM w' w.heap.size v (connB c) ∧ Below w.heap.size w w' := by
  obtain ⟨w0, hw0⟩ : ∃ w0, w.alloc (.cells #[.int .i64 c.state, .int .i64 c.client, .int .i64 c.oclient, .int .i64 c.oconn] 58) = w0 := ⟨_, rfl⟩
  have hb0 : Below w.heap.size w w0 := by rw [← hw0]; exact (Below.refl _ _).alloc (Nat.le_refl _) _
  have HB0 := hid hb0
  have hr0 := (show Row w0 w.heap.size 58 [.int .i64 c.state, .int .i64 c.client, .int .i64 c.oclient, .int .i64 c.oconn] by rw [← hw0]; exact Row.new _ _ _)
  have k0 := hr0.cell 0
  have k1 := hr0.cell 1
  have k2 := hr0.cell 2
  have k3 := hr0.cell 3
  have hok := wrongCn_ok h
  have hwr : IntKind.i64.wrap (c.oconn + 1) = c.oconn + 1 := by rw [IntKind.wrap_i64]; omega
  obtain ⟨w1, hw1⟩ : ∃ w1, w0.alloc (.cells #[.int .i64 (c.state), .int .i64 (c.client), .int .i64 (c.oclient), .int .i64 (c.oconn + 1)] 3) = w1 := ⟨_, rfl⟩
  have hb1 : Below w0.heap.size w0 w1 := by rw [← hw1]; exact (Below.refl _ _).alloc (Nat.le_refl _) _
  have HB1 := hid (HB0.out.trans (hb1.mono HB0.out.size))
  have HC := hid (numbers_any [c.state, c.client, c.oclient, c.oconn + 1] w0.heap.size 4 w1 (by rw [← hw1]; exact Row.new _ _ _) rfl (by decide) (fun x hx => by
    simp only [List.mem_cons, List.not_mem_nil, or_false] at hx
    omega))
  have HW0 := hid hw0
  have HW1 := hid hw1
  clear hr0 hb0 hb1 hw0 hw1 h hok
  go_enter Tryz.func86, Tryz.ntmps86
  go_upto_region 1 with fail
  rw [HW0.out]
  go_wp2_with fail
  rw [HW1.out]
  refine HC.out.mono ?_
  rintro e w2 ⟨v, rfl, hown, hb2⟩
  have HB2 := hid (HB1.out.trans (hb2.mono HB1.out.size))
  have HO := hid (hown.mono HB1.out.size)
  clear hb2 hown
  go_wp2
  go_ret
  exact ⟨_, rfl, HO.out, HB2.out⟩
set_option maxHeartbeats 4000000 in
theorem chanVal_true (c : Ch) (hord : c.ordered = true) (h : wrongCh c = 0) (w : World) : Calls Tryz.prog 87 #[.agg #[.int .i64 c.state, .bool true, .int .i64 c.conn, .int .i64 c.ochan, .int .i64 c.send, .int .i64 c.recv, .int .i64 c.ack]] w fun e w' => ∃ v, e = .returned v ∧ OwnM w' w.heap.size v (chanB c) ∧ Below w.heap.size w w' := by
  obtain ⟨w0, hw0⟩ : ∃ w0, w.alloc (.cells #[.int .i64 c.state, .bool true, .int .i64 c.conn, .int .i64 c.ochan, .int .i64 c.send, .int .i64 c.recv, .int .i64 c.ack] 75) = w0 := ⟨_, rfl⟩
  have hb0 : Below w.heap.size w w0 := by rw [← hw0]; exact (Below.refl _ _).alloc (Nat.le_refl _) _
  have HB0 := hid hb0
  have hr0 := (show Row w0 w.heap.size 75 [.int .i64 c.state, .bool true, .int .i64 c.conn, .int .i64 c.ochan, .int .i64 c.send, .int .i64 c.recv, .int .i64 c.ack] by rw [← hw0]; exact Row.new _ _ _)
  have k0 := hr0.cell 0
  have k1 := hr0.cell 1
  have k2 := hr0.cell 2
  have k3 := hr0.cell 3
  have k4 := hr0.cell 4
  have k5 := hr0.cell 5
  have k6 := hr0.cell 6
  have hok := wrongCh_ok h
  have hwr : IntKind.i64.wrap (c.ochan + 1) = c.ochan + 1 := by rw [IntKind.wrap_i64]; omega
  obtain ⟨w1, hw1⟩ : ∃ w1, w0.alloc (.cells #[.int .i64 (c.state), .int .i64 (1), .int .i64 (c.conn), .int .i64 (c.ochan + 1)] 3) = w1 := ⟨_, rfl⟩
  have hb1 : Below w0.heap.size w0 w1 := by rw [← hw1]; exact (Below.refl _ _).alloc (Nat.le_refl _) _
  have HB1 := hid (HB0.out.trans (hb1.mono HB0.out.size))
  have HC := hid (numbers_any [c.state, 1, c.conn, c.ochan + 1] w0.heap.size 4 w1 (by rw [← hw1]; exact Row.new _ _ _) rfl (by decide) (fun x hx => by
    simp only [List.mem_cons, List.not_mem_nil, or_false] at hx
    omega))
  have HW0 := hid hw0
  have HW1 := hid hw1
  clear hr0 hb0 hb1 hw0 hw1 h hok
  go_enter Tryz.func87, Tryz.ntmps87
  go_upto_region 1 with fail
  rw [HW0.out]
  go_wp2_with fail
  rw [HW1.out]
  refine HC.out.mono ?_
  rintro e w2 ⟨v, rfl, hown, hb2⟩
  have HB2 := hid (HB1.out.trans (hb2.mono HB1.out.size))
  have HO := hid (hown.mono HB1.out.size)
  clear hb2 hown
  go_wp2
  go_ret
  exact ⟨_, rfl, by unfold chanB; rw [hord]; exact HO.out, HB2.out⟩
set_option maxHeartbeats 4000000 in
theorem chanVal_false (c : Ch) (hord : c.ordered = false) (h : wrongCh c = 0) (w : World) : Calls Tryz.prog 87 #[.agg #[.int .i64 c.state, .bool false, .int .i64 c.conn, .int .i64 c.ochan, .int .i64 c.send, .int .i64 c.recv, .int .i64 c.ack]] w fun e w' => ∃ v, e = .returned v ∧ OwnM w' w.heap.size v (chanB c) ∧ Below w.heap.size w w' := by
  obtain ⟨w0, hw0⟩ : ∃ w0, w.alloc (.cells #[.int .i64 c.state, .bool false, .int .i64 c.conn, .int .i64 c.ochan, .int .i64 c.send, .int .i64 c.recv, .int .i64 c.ack] 75) = w0 := ⟨_, rfl⟩
  have hb0 : Below w.heap.size w w0 := by rw [← hw0]; exact (Below.refl _ _).alloc (Nat.le_refl _) _
  have HB0 := hid hb0
  have hr0 := (show Row w0 w.heap.size 75 [.int .i64 c.state, .bool false, .int .i64 c.conn, .int .i64 c.ochan, .int .i64 c.send, .int .i64 c.recv, .int .i64 c.ack] by rw [← hw0]; exact Row.new _ _ _)
  have k0 := hr0.cell 0
  have k1 := hr0.cell 1
  have k2 := hr0.cell 2
  have k3 := hr0.cell 3
  have k4 := hr0.cell 4
  have k5 := hr0.cell 5
  have k6 := hr0.cell 6
  have hok := wrongCh_ok h
  have hwr : IntKind.i64.wrap (c.ochan + 1) = c.ochan + 1 := by rw [IntKind.wrap_i64]; omega
  obtain ⟨w1, hw1⟩ : ∃ w1, w0.alloc (.cells #[.int .i64 (c.state), .int .i64 (0), .int .i64 (c.conn), .int .i64 (c.ochan + 1)] 3) = w1 := ⟨_, rfl⟩
  have hb1 : Below w0.heap.size w0 w1 := by rw [← hw1]; exact (Below.refl _ _).alloc (Nat.le_refl _) _
  have HB1 := hid (HB0.out.trans (hb1.mono HB0.out.size))
  have HC := hid (numbers_any [c.state, 0, c.conn, c.ochan + 1] w0.heap.size 4 w1 (by rw [← hw1]; exact Row.new _ _ _) rfl (by decide) (fun x hx => by
    simp only [List.mem_cons, List.not_mem_nil, or_false] at hx
    omega))
  have HW0 := hid hw0
  have HW1 := hid hw1
  clear hr0 hb0 hb1 hw0 hw1 h hok
  go_enter Tryz.func87, Tryz.ntmps87
  go_upto_region 1 with fail
  rw [HW0.out]
  go_wp2_with fail
  rw [HW1.out]
  refine HC.out.mono ?_
  rintro e w2 ⟨v, rfl, hown, hb2⟩
  have HB2 := hid (HB1.out.trans (hb2.mono HB1.out.size))
  have HO := hid (hown.mono HB1.out.size)
  clear hb2 hown
  go_wp2
  go_ret
  exact ⟨_, rfl, by unfold chanB; rw [hord]; exact HO.out, HB2.out⟩
theorem chanVal_any (c : Ch) (h : wrongCh c = 0) (w : World) : Calls Tryz.prog 87 #[.agg #[.int .i64 c.state, .bool c.ordered, .int .i64 c.conn, .int .i64 c.ochan, .int .i64 c.send, .int .i64 c.recv, .int .i64 c.ack]] w fun e w' => ∃ v, e = .returned v ∧ OwnM w' w.heap.size v (chanB c) ∧ Below w.heap.size w w' := by
  cases ho : c.ordered with
  | true => exact chanVal_true c ho h w
  | false => exact chanVal_false c ho h w
end Go.Proofs.YtooemgkjkngpcaaGreatDoor
namespace Go.Proofs.YtooemgkjkngpcaaGreatDoor
open Go.RowKit

theorem info_doing : (Tryz.prog.info? 140).map (fun i => (i.zero, i.size, i.bytes)) = some (some (.agg #[.slice none 0 0, .slice none 0 0, .bool false]), 3, 56) := by kernel_rfl
/-- a doing, and the two slices that hold it -/
structure DgV where
  d : Dg
  k : Value
  v : Value
def dgCells (q : DgV) : List Value := [q.k, q.v, .bool q.d.gone]
def DgV.ok (w : World) (N : Nat) (q : DgV) : Prop := Bytes w N q.k q.d.key ∧ Bytes w N q.v q.d.val
theorem DgV.ok.below {w w' : World} {N : Nat} {q : DgV} (h : q.ok w N) (hg : Below N w w') : q.ok w' N := ⟨h.1.below hg, h.2.below hg⟩
theorem DgV.ok.mono {w : World} {N M : Nat} {q : DgV} (h : q.ok w N) (hN : N ≤ M) : q.ok w M := ⟨h.1.mono hN, h.2.mono hN⟩
theorem DgV.ok.one {w : World} {N : Nat} {q : DgV} (h : q.ok w N) : q.k.oneCell' = true ∧ q.v.oneCell' = true := by
  obtain ⟨o1, c1, e1, _⟩ := h.1.shape
  obtain ⟨o2, c2, e2, _⟩ := h.2.shape
  rw [e1, e2]
  simp [Value.oneCell']
theorem flatDg_get (ps : List DgV) : ∀ (i j : Nat) (q : DgV), ps[i]? = some q → j < 3 → (ps.flatMap dgCells)[i * 3 + j]? = (dgCells q)[j]? := by
  induction ps with
  | nil => intro i j q h; simp at h
  | cons a ps ih =>
    intro i j q h hj
    rw [List.flatMap_cons]
    have ha : (dgCells a).length = 3 := rfl
    cases i with
    | zero =>
      obtain rfl : a = q := by simpa using h
      rw [Nat.zero_mul, Nat.zero_add, List.getElem?_append_left (by omega)]
    | succ i =>
      rw [List.getElem?_append_right (by omega), ha, show (i + 1) * 3 + j - 3 = i * 3 + j by omega]
      exact ih i j q (by simpa using h) hj
theorem flatDg_len (ps : List DgV) : (ps.flatMap dgCells).length = ps.length * 3 := by
  induction ps with
  | nil => rfl
  | cons a r ih => rw [List.flatMap_cons, List.length_append, ih]; simp [dgCells]; omega
/-- sv is a slice whose cells are those of ps, nil, empty or neither, in a block below M -/
def SrcDg (w : World) (M : Nat) (sv : Value) (ps : List DgV) : Prop :=
  (sv = .slice none 0 0 ∧ ps = []) ∨ (∃ a cap, sv = .slice (some a) 0 cap ∧ ps = []) ∨
  ∃ b off cap, sv = .slice (some ⟨b, off, none⟩) ps.length cap ∧ ps.length ≤ cap ∧ ∀ i q, ps[i]? = some q → b < M ∧ w.cell? ⟨b, off + i * 3, none⟩ = some q.k ∧ w.cell? ⟨b, off + i * 3 + 1, none⟩ = some q.v ∧ w.cell? ⟨b, off + i * 3 + 2, none⟩ = some (.bool q.d.gone)
theorem SrcDg.below {w w' : World} {M : Nat} {sv : Value} {ps : List DgV} (h : SrcDg w M sv ps) (hg : Below M w w') : SrcDg w' M sv ps := by
  rcases h with h | h | ⟨b, off, cap, h1, h2, h3⟩
  · exact .inl h
  · exact .inr (.inl h)
  · refine .inr (.inr ⟨b, off, cap, h1, h2, fun i q hq => ?_⟩)
    obtain ⟨hb, d0, d1, d2⟩ := h3 i q hq
    exact ⟨hb, (hg.cell hb).trans d0, (hg.cell hb).trans d1, (hg.cell hb).trans d2⟩
/-- doings in a row that a call owns -/
def RowDg (w : World) (base : Nat) (v : Value) (ps : List DgV) : Prop := w.ownsRow base 140 3 v ps.length (ps.flatMap dgCells)
theorem RowDg.nil (w : World) (base : Nat) : RowDg w base (.slice none 0 0) [] := World.ownsRow_nil w base 140 3
theorem RowDg.below {w w' : World} {base : Nat} {v : Value} {ps : List DgV} (h : RowDg w base v ps) (hg : Below w.heap.size w w') : RowDg w' base v ps := ownsRow_belowP h hg
/-- what is owned reads as doings -/
theorem RowDg.doings {w : World} {base N : Nat} {v : Value} {ps : List DgV} (h : RowDg w base v ps) (hN : N ≤ w.heap.size) (hb : ∀ q ∈ ps, q.ok w N) : Doings w w.heap.size v (ps.map (·.d)) := by
  obtain ⟨h1, h2⟩ := h
  rcases h2 with ⟨rfl, h0⟩ | ⟨g, cap, cur, rfl, _, hg, hn, _, hc, hx⟩
  · exact .inl ⟨rfl, by rw [List.length_eq_zero_iff.1 h0]; rfl⟩
  · refine .inr (.inr ⟨g, 0, cap, by simp, by simpa using hn, fun i p hp => ?_⟩)
    obtain ⟨q, hq, rfl⟩ : ∃ q, ps[i]? = some q ∧ q.d = p := by simpa using hp
    refine ⟨(Array.getElem?_eq_some_iff.1 hg).1, q.k, q.v, ?_⟩
    have hil : i < ps.length := (List.getElem?_eq_some_iff.1 hq).1
    have cell : ∀ j, j < 3 → w.cell? ⟨g, 0 + i * 3 + j, none⟩ = (dgCells q)[j]? := fun j hj => by
      rw [cell_of_row w g _ cur _ _ hg, ← flatDg_get ps i j q hq hj, ← hx, List.getElem?_take, if_pos (by omega), Nat.zero_add, Array.getElem?_toList]
    have hok := (hb q (List.mem_of_getElem? hq)).mono hN
    exact ⟨cell 0 (by omega), cell 1 (by omega), cell 2 (by omega), hok.1, hok.2⟩
/-- one doing in a new block is a source -/
theorem srcDg_one {W : World} {g : Nat} {q : DgV} (h0 : W.cell? ⟨g, 0, none⟩ = some q.k) (h1 : W.cell? ⟨g, 1, none⟩ = some q.v) (h2 : W.cell? ⟨g, 2, none⟩ = some (.bool q.d.gone)) : SrcDg W (g + 1) (.slice (some ⟨g, 0, none⟩) 1 1) [q] := by
  refine .inr (.inr ⟨g, 0, 1, rfl, Nat.le_refl _, fun i q' hq => ?_⟩)
  have hi : i = 0 := by have := (List.getElem?_eq_some_iff.1 hq).1; simp at this; exact this
  subst hi
  obtain rfl : q = q' := by simpa using hq
  exact ⟨by omega, h0, h1, h2⟩
theorem wp_append_dgs {o : Oper} {a : Act} {W : World} {K : Act → World → Prop} {Q : Exit → Act → World → Prop} (s x : Operand)
    (ho : o.op = .call { callee := .builtin .append, args := #[s, x], argTypes := #[99, 99] })
    (base : Nat) (v : Value) (ps : List DgV) (hs : a.eval s = v) (hown : RowDg W base v ps) (sv : Value) (qs : List DgV) {M : Nat} (hx : a.eval x = sv) (hsrc : SrcDg W M sv qs)
    (hone : ∀ q ∈ qs, q.k.oneCell' = true ∧ q.v.oneCell' = true) (hl : (ps.length + qs.length) * 56 ≤ 140737488355328) (hbase : base ≤ W.heap.size)
    (h : ∀ v' w', RowDg w' base v' (ps ++ qs) → Below base W w' → W.grownBy w' v.ownBlock → K (a.put o.dst v') w') : o.wp Tryz.prog a W K Q := by
  obtain ⟨i0, hi0, hz0, hz1, hz2⟩ := info_parts info_doing
  have some_case : ∀ (ad : Addr) (cap : Nat), sv = .slice (some ad) qs.length cap → (∀ j u, (qs.flatMap dgCells)[j]? = some u → W.cell? (ad.add j) = some u) → o.wp Tryz.prog a W K Q := by
    rintro ad cap rfl hcs
    refine wp_append_own W s x 99 ho base 140 i0 _ 3 56 Tryz.underlying99 hi0 hz0 hz1 hz2 rfl (by decide) v ps.length (ps.flatMap dgCells) hs hown ad qs.length cap (qs.flatMap dgCells) hx (flatDg_len qs) hcs ?_ (by unfold maxLen; omega) hl hbase ?_
    · intro u hu
      obtain ⟨q, hq, hu⟩ := List.mem_flatMap.1 hu
      simp [dgCells] at hu
      rcases hu with rfl | rfl | rfl
      · exact (hone q hq).1
      · exact (hone q hq).2
      · rfl
    · intro v' w' h1 h2 _
      refine h v' w' ?_ ((Below.refl base W).grown h2 hbase (fun k hk => (World.ownsRow.lt hown k hk).1)) h2
      unfold RowDg
      rw [List.length_append, List.flatMap_append]
      exact h1
  rcases hsrc with ⟨rfl, rfl⟩ | ⟨ad, cap, rfl, rfl⟩ | ⟨b, off, cap, rfl, hc, hcell⟩
  · have hrun := run_append_owned_none (P := Tryz.prog) (w := W) base 99 o.type 140 i0 3 Tryz.underlying99 hi0 v ps.length (ps.flatMap dgCells) hown
    unfold Oper.wp
    simp [execOp, ho, resolve, invoke, builtin, hs, hx, hrun, Result.andThen]
    exact h v W (by simpa using hown) (Below.refl _ _) (grown_refl _ _)
  · exact some_case ad cap rfl (fun j u hu => by simp at hu)
  · refine some_case _ cap rfl (fun j u hu => ?_)
    have hadd : (⟨b, off, none⟩ : Addr).add j = ⟨b, off + j, none⟩ := by unfold Addr.add; split <;> simp_all
    have hjl : j < qs.length * 3 := by have := (List.getElem?_eq_some_iff.1 hu).1; rw [flatDg_len] at this; exact this
    obtain ⟨q, hq⟩ : ∃ q, qs[j / 3]? = some q := ⟨qs[j / 3]'(by omega), List.getElem?_eq_getElem _⟩
    have hg := flatDg_get qs (j / 3) (j % 3) q hq (by omega)
    rw [show j / 3 * 3 + j % 3 = j by omega, hu] at hg
    obtain ⟨_, d0, d1, d2⟩ := hcell (j / 3) q hq
    rw [hadd]
    have hm : j % 3 = 0 ∨ j % 3 = 1 ∨ j % 3 = 2 := by omega
    rcases hm with e | e | e
    · rw [e] at hg
      rw [show off + j = off + j / 3 * 3 by omega, d0]
      simpa [dgCells] using hg.symm
    · rw [e] at hg
      rw [show off + j = off + j / 3 * 3 + 1 by omega, d1]
      simpa [dgCells] using hg.symm
    · rw [e] at hg
      rw [show off + j = off + j / 3 * 3 + 2 by omega, d2]
      simpa [dgCells] using hg.symm
theorem wpList_append_dgs {ops : Array Oper} {rest : List Oper} {o : Oper} {a : Act} {W : World} {Q : Exit → Act → World → Prop} (hgd : o.guard = none) (s x : Operand)
    (ho : o.op = .call { callee := .builtin .append, args := #[s, x], argTypes := #[99, 99] })
    (base : Nat) (v : Value) (ps : List DgV) (hs : a.eval s = v) (hown : RowDg W base v ps) (sv : Value) (qs : List DgV) {M : Nat} (hx : a.eval x = sv) (hsrc : SrcDg W M sv qs)
    (hone : ∀ q ∈ qs, q.k.oneCell' = true ∧ q.v.oneCell' = true) (hl : (ps.length + qs.length) * 56 ≤ 140737488355328) (hbase : base ≤ W.heap.size)
    (h : ∀ v' w', RowDg w' base v' (ps ++ qs) → Below base W w' → W.grownBy w' v.ownBlock → wpList Tryz.prog ops Q rest (a.put o.dst v') w') : wpList Tryz.prog ops Q (o :: rest) a W :=
  wpList_plain hgd fun _ hK => wp_append_dgs s x ho base v ps hs hown sv qs hx hsrc hone hl hbase fun v' w' h1 h2 h3 => hK _ _ (h v' w' h1 h2 h3)
end Go.Proofs.YtooemgkjkngpcaaGreatDoor
namespace Go.Proofs.YtooemgkjkngpcaaGreatDoor
open Go.RowKit

/-- only block go, and rows of doings, are turned -/
def KeptD (go : Nat) (w w' : World) : Prop := ∀ (k : Nat) (cs : Array Value) (t : TypeId) (fr : Nat × Nat), w.heap[k]? = some (.cells cs t fr) → k ≠ go → t ≠ 140 → w'.heap[k]? = w.heap[k]?
theorem KeptD.refl (go : Nat) (w : World) : KeptD go w w := fun _ _ _ _ _ _ _ => rfl
theorem KeptD.trans {go : Nat} {w w1 w2 : World} (h : KeptD go w w1) (k : KeptD go w1 w2) : KeptD go w w2 := fun i cs t fr hi hg ht => by
  have h1 := h i cs t fr hi hg ht
  exact (k i cs t fr (h1.trans hi) hg ht).trans h1
theorem KeptD.of_below {go : Nat} {w w' : World} (h : Below w.heap.size w w') : KeptD go w w' := fun k _ _ _ hk _ _ => h.block k (Array.getElem?_eq_some_iff.1 hk).1
theorem Row.keptD {w w' : World} {go g : Nat} {t : TypeId} {cs : List Value} (h : Row w g t cs) (hk : KeptD go w w') (hg : g ≠ go) (ht : t ≠ 140) : Row w' g t cs := by
  unfold Row at *
  exact (hk g _ t _ h hg ht).trans h
theorem OwnM.keptD {w w' : World} {go base : Nat} {v : Value} {l : List (BitVec 8)} (h : OwnM w base v l) (hk : KeptD go w w') {t : TypeId} {cs : List Value} (hr : Row w go t cs) (ht : t ≠ 5) : OwnM w' base v l := by
  obtain ⟨g, cap, cur, fz, h1, h2, hg, h3⟩ := h
  refine ⟨g, cap, cur, fz, h1, h2, ?_, h3⟩
  have hne : g ≠ go := by
    rintro rfl
    unfold Row at hr
    rw [hr] at hg
    simp at hg
    exact ht hg.2.1
  exact (hk g cur _ fz hg hne (by decide)).trans hg
/-- an entry's key and value, the call's own or the caller's -/
def entOk (w : World) (base N : Nat) (q : DgV) : Prop := OwnM w base q.k q.d.key ∧ (OwnM w base q.v q.d.val ∨ Bytes w N q.v q.d.val)
theorem entOk.kept {w w' : World} {base N go : Nat} {q : DgV} (h : entOk w base N q) (hN : N ≤ base) (hb : Below base w w') (hk : KeptD go w w') {v : Value} (hr : Row w go 99 [v]) : entOk w' base N q :=
  ⟨h.1.keptD hk hr (by decide), h.2.elim (fun x => .inl (x.keptD hk hr (by decide))) (fun x => .inr (x.below (hb.mono hN)))⟩
theorem entOk.ok {w : World} {base N : Nat} {q : DgV} (h : entOk w base N q) (hN : N ≤ w.heap.size) : q.ok w w.heap.size := ⟨h.1.bytes, h.2.elim (fun x => x.bytes) (fun x => x.mono hN)⟩
/-- what is gathered -/
def Ents (w : World) (base N go : Nat) (l : List Dg) : Prop := ∃ v ps, Row w go 99 [v] ∧ RowDg w base v ps ∧ ps.map (·.d) = l ∧ ∀ q ∈ ps, entOk w base N q
theorem Ents.below {w w' : World} {base N go : Nat} {l : List Dg} (h : Ents w base N go l) (hN : N ≤ base) (hw : base ≤ w.heap.size) (hb : Below w.heap.size w w') : Ents w' base N go l := by
  obtain ⟨v, ps, h1, h2, h3, h4⟩ := h
  exact ⟨v, ps, h1.below hb h1.lt, h2.below hb, h3, fun q hq => (h4 q hq).kept hN (hb.mono hw) (KeptD.of_below (go := go) hb) h1⟩
theorem RowDg.shape {w : World} {base : Nat} {v : Value} {ps : List DgV} (h : RowDg w base v ps) : ∃ oa cap, v = .slice oa ps.length cap := by
  obtain ⟨_, h2⟩ := h
  rcases h2 with ⟨h3, h4⟩ | ⟨g, cap, cur, h3, _⟩
  · exact ⟨none, 0, by rw [h4]; exact h3⟩
  · exact ⟨_, cap, h3⟩
theorem RowDg.apart {w : World} {base go : Nat} {v : Value} {ps : List DgV} {t : TypeId} {cs : List Value} (h : RowDg w base v ps) (hr : Row w go t cs) (ht : t ≠ 140) : some go ≠ v.ownBlock := by
  obtain ⟨_, h2⟩ := h
  rcases h2 with ⟨rfl, h4⟩ | ⟨g, cap, cur, rfl, _, hg, _⟩
  · simp [Value.ownBlock]
  · intro e
    simp [Value.ownBlock] at e
    subst e
    unfold Row at hr
    rw [hr] at hg
    simp at hg
    exact ht hg.2
theorem RowDg.setOther {w : World} {base go i : Nat} {v x : Value} {ps : List DgV} (h : RowDg w base v ps) (hne : some go ≠ v.ownBlock) : RowDg (w.setCell ⟨go, i, none⟩ x) base v ps := by
  obtain ⟨h1, h2⟩ := h
  refine ⟨h1, ?_⟩
  rcases h2 with h2 | ⟨g, cap, cur, h3, h4, h5, h6⟩
  · exact .inl h2
  · refine .inr ⟨g, cap, cur, h3, h4, ?_, h6⟩
    rw [heap_setCell_other _ _ _ _ (fun e => hne (by rw [h3]; simp [Value.ownBlock, e]))]
    exact h5
set_option maxRecDepth 100000 in
set_option maxHeartbeats 4000000 in
theorem put_any (l : List Dg) (q : DgV) (base N go : Nat) (w : World) (hE : Ents w base N go l) (hq : entOk w base N q) (hN : N ≤ base) (hgo : base ≤ go) (hlen : l.length ≤ 1000) (hg : q.d.gone = false) :
    Calls Tryz.prog 82 #[q.k, q.v, .pointer (some ⟨go, 0, none⟩)] w fun e w' => e = .returned (.tuple #[]) ∧ Ents w' base N go (l ++ [q.d]) ∧ Below base w w' ∧ KeptD go w w' := by
  obtain ⟨v, ps, hr, hrow, hps, hok⟩ := hE
  have hgl := hr.lt
  have hbw : base ≤ w.heap.size := by omega
  obtain ⟨oa, ca, rfl⟩ := hrow.shape
  have hone := (hq.ok (by omega)).one
  obtain ⟨⟨d, kv, vv⟩, rfl⟩ : ∃ q', q = q' := ⟨_, rfl⟩
  simp only at hq hg hone ⊢
  obtain ⟨ok, ck, hkv⟩ : ∃ ok ck, kv = .slice ok d.key.length ck := hq.1.shape
  subst hkv
  obtain ⟨ov, cv, rfl⟩ : ∃ ov cv, vv = .slice ov d.val.length cv := by
    rcases hq.2 with h | h
    · exact h.shape
    · obtain ⟨a, b, h, _⟩ := h.shape; exact ⟨a, b, h⟩
  obtain ⟨w1, hw1⟩ : ∃ w1, w.alloc (.cells #[.slice ok d.key.length ck, .slice ov d.val.length cv, .bool false] 140) = w1 := ⟨_, rfl⟩
  have hb1 : Below w.heap.size w w1 := by rw [← hw1]; exact (Below.refl _ _).alloc (Nat.le_refl _) _
  have hrn : Row w1 w.heap.size 140 [.slice ok d.key.length ck, .slice ov d.val.length cv, .bool false] := by rw [← hw1]; exact Row.new _ _ _
  have HSRC := hid (show SrcDg w1 (w.heap.size + 1) (.slice (some ⟨w.heap.size, 0, none⟩) 1 1) [⟨d, .slice ok d.key.length ck, .slice ov d.val.length cv⟩] from srcDg_one (hrn.cell 0) (hrn.cell 1) (by rw [hg]; exact hrn.cell 2))
  have HROW1 := hid (hrow.below hb1)
  have HR1 := hid (hr.below hb1 hr.lt)
  have HB1 := hid hb1
  have HW1 := hid hw1
  have HQ := hid hq
  have HOK := hid hok
  have HPS := hid hps
  have HR := hid hr
  have HONE := hid hone
  have c0 : w.cell? ⟨go, 0, none⟩ = some (.slice oa ps.length ca) := hr.cell 0
  have HPL := hid (show ps.length = l.length by rw [← hps, List.length_map])
  have HG := hid hg
  clear hq hok hps hr hrow hrn hb1 hone hg hw1
  go_enter Tryz.func82, Tryz.ntmps82
  go_wp2_with (at_builtin; refine Hid.out ?_)
  refine hid ?_
  rw [HW1.out]
  refine wpList_append_dgs rfl (.tmp 5) (.tmp 9) rfl base (.slice oa ps.length ca) ps rfl HROW1.out _ [⟨d, .slice ok d.key.length ck, .slice ov d.val.length cv⟩] rfl HSRC.out (fun x hx => by simp at hx; rw [hx]; exact HONE.out) (by have := HPL.out; simp; omega) (Nat.le_trans hbw HB1.out.size) ?_
  intro v2 w2 hrow2 hb2 hgr2
  have hne := RowDg.apart HROW1.out HR1.out (by decide)
  have hr2 : Row w2 go 99 [.slice oa ps.length ca] := by
    have := HR1.out
    unfold Row at *
    rw [hgr2.block go (Array.getElem?_eq_some_iff.1 this).1 hne]
    exact this
  have hk2 : KeptD go w1 w2 := fun k cs t fr hk _ ht => hgr2.block k (Array.getElem?_eq_some_iff.1 hk).1 (fun e => by
    obtain ⟨_, h2⟩ := HROW1.out
    rcases h2 with ⟨h3, _⟩ | ⟨g', cap, cur, h3, _, hg', _⟩
    · rw [h3] at e; simp [Value.ownBlock] at e
    · rw [h3] at e
      simp [Value.ownBlock] at e
      subst e
      rw [hg'] at hk
      simp at hk
      exact ht hk.2.1.symm)
  obtain ⟨o2, n2, c2, rfl⟩ : ∃ o n c, v2 = .slice o n c := by obtain ⟨a, b, h⟩ := hrow2.shape; exact ⟨a, _, b, h⟩
  have y0 : w2.cell? ⟨go, 0, none⟩ = some (.slice oa ps.length ca) := hr2.cell 0
  have fr0 := hr2.frozen 0
  have HB2 := hid ((HB1.out.mono hbw).trans hb2)
  have hk3 : KeptD go w2 (w2.setCell ⟨go, 0, none⟩ (.slice o2 n2 c2)) := fun k cs t fr _ hg _ => heap_setCell_other _ _ _ _ hg
  have HK := hid (((KeptD.of_below HB1.out).trans hk2).trans hk3)
  have HB3 := hid (HB2.out.setCell (show base ≤ (⟨go, 0, none⟩ : Addr).block from hgo) (.slice o2 n2 c2))
  have HROW3 := hid (hrow2.setOther (i := 0) (x := .slice o2 n2 c2) (RowDg.apart hrow2 hr2 (by decide)))
  have HR3 := hid (hr2.set 0 (.slice o2 n2 c2))
  clear hrow2 hb2 hgr2 hne hr2 hk2 hk3
  go_wp2
  refine bodyPost_end (v := .tuple #[]) (by simp [results, Tryz.results82, go_sem]) rfl ⟨rfl, ⟨_, _, HR3.out, HROW3.out, by rw [List.map_append, HPS.out]; rfl, fun q hq => ?_⟩, HB3.out, HK.out⟩
  rcases List.mem_append.1 hq with hq | hq
  · exact (HOK.out q hq).kept hN HB3.out HK.out HR.out
  · obtain rfl := List.mem_singleton.1 hq
    exact HQ.out.kept hN HB3.out HK.out HR.out
end Go.Proofs.YtooemgkjkngpcaaGreatDoor
