/-
  How far a list of doings has come that is laid anew, with more behind it, and played, in whatever order: what each step leaves. No function of the program is walked here.
-/
import Derived.Test.YtgpainbnldghkaaDoorBookPlay
import Derived.Test.YtgpainbnldghkaaDoorDoingsCut
import Derived.Test.YtgpainbnldghkaaDoorRegionInv
namespace Go.Proofs.YtgpainbnldghkaaDoor
open Go.RowKit

theorem ff {p : Prop} (e : false = true) : p := by cases e
theorem tf {p : Prop} (e : true = false) : p := by cases e
/-- a region's operations -/
def regIn (id : Nat) : Code → Option (Array Oper)
  | .region i ops _ => if i = id then some ops else none
  | .block _ c => regIn id c
  | .seq a b => match regIn id a with
    | some c => some c
    | none => regIn id b
  | .loop c => regIn id c
  | .scope c => regIn id c
  | .cond _ a b => match regIn id a with
    | some c => some c
    | none => regIn id b
  | _ => none
theorem wpOp_of {P : Program} {ops : Array Oper} {Q : Exit → Act → World → Prop} {i : Nat} {o : Oper} {K : Act → World → Prop} {a : Act} {w : World} (ho : ops[i]? = some o) (hg : o.guard = none) (h : o.wp P a w K Q) : wpOp P ops Q i K a w := by
  unfold wpOp
  rw [ho]
  have hw : Region.wanted o (yielded ops a.tmps) = true := by simp [Region.wanted, hg]
  simp only [hw]
  exact .inl h
theorem srcDg_row {w : World} {g : Nat} {new : List DgV} (h : Row w g 39 (new.flatMap dgCells)) : SrcDg w (g + 1) (.slice (some ⟨g, 0, none⟩) new.length new.length) new := by
  refine .inr (.inr ⟨g, 0, new.length, rfl, Nat.le_refl _, fun i q hq => ?_⟩)
  have cell : ∀ j, j < 3 → w.cell? ⟨g, 0 + i * 3 + j, none⟩ = (dgCells q)[j]? := fun j hj => by
    rw [Nat.zero_add, h.cell, flatDg_get new i j q hq hj]
  exact ⟨by omega, cell 0 (by omega), cell 1 (by omega), cell 2 (by omega)⟩
theorem RowDg.apart {w : World} {base g : Nat} {v : Value} {ps : List DgV} {t : TypeId} {cs : List Value} (h : RowDg w base v ps) (hr : Row w g t cs) (ht : t ≠ 39) : some g ≠ v.ownBlock := by
  intro he
  rcases h.2 with ⟨rfl, _⟩ | ⟨g', c', cur', rfl, _, h8, _⟩
  · simp [Value.ownBlock] at he
  · obtain rfl : g = g' := by simpa [Value.ownBlock] using he
    unfold Row at hr
    rw [hr] at h8
    simp at h8
    exact ht h8.2
/-- pairs that are owned outlive a store into a row of another type -/
theorem OwnPr.store {w w' : World} {base g : Nat} {v : Value} {ps : List PrV} {cs : List Value} (h : OwnPr w base v ps) (hr : Row w g 27 cs) (hg : w.grownBy w' (some g)) : OwnPr w' base v ps := by
  have key : ∀ (k : Nat) (cur : Array Value) (t : TypeId), w.heap[k]? = some (.cells cur t (0, 0)) → t ≠ 27 → w'.heap[k]? = w.heap[k]? := fun k cur t hk ht =>
    hg.block k (Array.getElem?_eq_some_iff.1 hk).1 (fun e => by
      obtain rfl : k = g := by simpa using e
      unfold Row at hr
      rw [hr] at hk
      simp at hk
      exact ht hk.2.symm)
  have bytes : ∀ (x : Value) (l : List (BitVec 8)), OwnB w base x l → OwnB w' base x l := by
    rintro x l ⟨h1, h2⟩
    refine ⟨h1, ?_⟩
    rcases h2 with h2 | ⟨k, cap, cur, h3, h4, h5, h6⟩
    · exact .inl h2
    · exact .inr ⟨k, cap, cur, h3, h4, (key k cur _ h5 (by decide)).trans h5, h6⟩
  refine ⟨?_, fun q hq => ⟨bytes _ _ (h.2 q hq).1, bytes _ _ (h.2 q hq).2⟩⟩
  obtain ⟨h1, h2⟩ := h.1
  refine ⟨h1, ?_⟩
  rcases h2 with h2 | ⟨k, cap, cur, h3, h4, h5, h6⟩
  · exact .inl h2
  · exact .inr ⟨k, cap, cur, h3, h4, (key k cur _ h5 (by decide)).trans h5, h6⟩
/-- how far it has come -/
structure Apd (w3 : World) (qs new : List DgV) (lr : List Dg) (b0 b2 b4 b5 b6 ba bc : Bool) (x0 x2 x4 x5 x6 xa vb : Value) (g : Nat) (w : World) : Prop where
  base : Below w3.heap.size w3 w
  o5 : b5 = true → b2 = true ∧ b4 = true
  o6 : b6 = true → b5 = true
  f0 : b0 = true → b2 = false → ∃ h, x0 = .slice (some ⟨h, 0, none⟩) 0 0 ∧ Row w h 39 [] ∧ w3.heap.size ≤ h
  f2 : b2 = true → b5 = false → RowDg w w3.heap.size x2 qs
  f4 : b4 = true → b5 = false → ∃ h, x4 = .slice (some ⟨h, 0, none⟩) new.length new.length ∧ Row w h 39 (new.flatMap dgCells)
  f5 : b5 = true → b6 = false → RowDg w w3.heap.size x5 (qs ++ new)
  f6 : b6 = true → x6 = .tuple #[vb, .agg #[.int .i64 (pcode lr).1, .int .i64 ((pcode lr).2 : Int)]] ∧ ∃ ps, OwnPr w 0 vb ps ∧ ps.map (·.p) = pout lr
  fa : ba = true → xa = .pointer (some ⟨g, 0, none⟩) ∧ w3.heap.size ≤ g ∧ Row w g 27 (if bc = true then [.int .i64 (pcode lr).1, .int .i64 ((pcode lr).2 : Int)] else [.int .i64 0, .int .i64 0])
section
variable {w3 w w' : World} {qs new : List DgV} {lr : List Dg} {b0 b2 b4 b5 b6 ba bc : Bool} {x0 x2 x4 x5 x6 xa vb : Value} {g : Nat}
theorem Apd.start (h : Below w3.heap.size w3 w) : Apd w3 qs new lr false false false false false false false x0 x2 x4 x5 x6 xa vb g w :=
  ⟨h, ff, ff, ff, ff, ff, ff, ff, ff⟩
theorem Apd.below (h : Apd w3 qs new lr b0 b2 b4 b5 b6 ba bc x0 x2 x4 x5 x6 xa vb g w) (hb : Below w.heap.size w w') : Apd w3 qs new lr b0 b2 b4 b5 b6 ba bc x0 x2 x4 x5 x6 xa vb g w' where
  base := h.base.trans (hb.mono h.base.size)
  o5 := h.o5
  o6 := h.o6
  f0 := fun e1 e2 => by
    obtain ⟨k, r1, r2, r3⟩ := h.f0 e1 e2
    exact ⟨k, r1, r2.below hb r2.lt, r3⟩
  f2 := fun e1 e2 => (h.f2 e1 e2).below hb
  f4 := fun e1 e2 => by
    obtain ⟨k, r1, r2⟩ := h.f4 e1 e2
    exact ⟨k, r1, r2.below hb r2.lt⟩
  f5 := fun e1 e2 => (h.f5 e1 e2).below hb
  f6 := fun e1 => by
    obtain ⟨r1, ps, r2, r3⟩ := h.f6 e1
    exact ⟨r1, ps, r2.below hb, r3⟩
  fa := fun e1 => by
    obtain ⟨r1, r0, r2⟩ := h.fa e1
    exact ⟨r1, r0, r2.below hb r2.lt⟩
theorem alloc_below (w : World) (o : Obj) : Below w.heap.size w (w.alloc o) := (Below.refl _ _).alloc (Nat.le_refl _) _
/-- an empty list is made -/
theorem Apd.s0 (h : Apd w3 qs new lr b0 b2 b4 b5 b6 ba bc x0 x2 x4 x5 x6 xa vb g w) : Apd w3 qs new lr true b2 b4 b5 b6 ba bc (.slice (some ⟨w.heap.size, 0, none⟩) 0 0) x2 x4 x5 x6 xa vb g (w.alloc (.cells #[] 39)) :=
  { h.below (alloc_below w _) with f0 := fun _ _ => ⟨w.heap.size, rfl, Row.new w 39 [], h.base.size⟩ }
/-- what comes behind is laid -/
theorem Apd.s4 (h : Apd w3 qs new lr b0 b2 b4 b5 b6 ba bc x0 x2 x4 x5 x6 xa vb g w) (cs : Array Value) (hcs : cs = (new.flatMap dgCells).toArray) (n : Nat) (hn : n = new.length) :
    Apd w3 qs new lr b0 b2 true b5 b6 ba bc x0 x2 (.slice (some ⟨w.heap.size, 0, none⟩) n n) x5 x6 xa vb g (w.alloc (.cells cs 39)) := by
  subst hcs
  subst hn
  exact { h.below (alloc_below w _) with
    o5 := fun e => ⟨(h.o5 e).1, rfl⟩
    f4 := fun _ _ => ⟨w.heap.size, rfl, Row.new w 39 _⟩ }
/-- where a fault will lie -/
theorem Apd.sa (h : Apd w3 qs new lr b0 b2 b4 b5 b6 ba bc x0 x2 x4 x5 x6 xa vb g w) (hc : bc = false) : Apd w3 qs new lr b0 b2 b4 b5 b6 true bc x0 x2 x4 x5 x6 (.pointer (some ⟨w.heap.size, 0, none⟩)) vb w.heap.size (w.alloc (.cells #[.int .i64 0, .int .i64 0] 27)) := by
  subst hc
  exact { h.below (alloc_below w _) with fa := fun _ => ⟨rfl, h.base.size, Row.new w 27 [.int .i64 0, .int .i64 0]⟩ }
/-- what was there is appended -/
theorem Apd.s2 (h : Apd w3 qs new lr b0 b2 b4 b5 b6 ba bc x0 x2 x4 x5 x6 xa vb g w) (hb0 : b0 = true) (hb2 : b2 = false) (hnew : new ≠ []) {v' : Value} (hr : RowDg w' w3.heap.size v' qs) (hbl : Below w3.heap.size w w') (hg : w.grownBy w' x0.ownBlock) :
    Apd w3 qs new lr b0 true b4 b5 b6 ba bc x0 v' x4 x5 x6 xa vb g w' := by
  have h5 : b5 = false := by
    cases e : b5 with
    | false => rfl
    | true => exact absurd (h.o5 e).1 (by rw [hb2]; decide)
  have h6 : b6 = false := by
    cases e : b6 with
    | false => rfl
    | true => exact absurd (h.o6 e) (by rw [h5]; decide)
  obtain ⟨k, r1, r2, r3⟩ := h.f0 hb0 hb2
  subst r1
  have hg' : w.grownBy w' (some k) := hg
  refine ⟨h.base.trans hbl, fun e => ff (h5.symm.trans e), h.o6, fun _ e => tf e, fun _ _ => hr, fun e1 e2 => ?_, fun e => ff (h5.symm.trans e), fun e => ff (h6.symm.trans e), fun e => ?_⟩
  · obtain ⟨j, t1, t2⟩ := h.f4 e1 e2
    refine ⟨j, t1, t2.grown hg' fun e => ?_⟩
    obtain rfl : j = k := by simpa using e
    have hl := (t2.cell 0).symm.trans (r2.cell 0)
    cases new with
    | nil => exact hnew rfl
    | cons a r => simp [dgCells] at hl
  · obtain ⟨t1, t0, t2⟩ := h.fa e
    refine ⟨t1, t0, t2.grown hg' fun e => ?_⟩
    obtain rfl : g = k := by simpa using e
    unfold Row at t2 r2
    rw [r2] at t2
    simp at t2
/-- what comes behind is appended -/
theorem Apd.s5 (h : Apd w3 qs new lr b0 b2 b4 b5 b6 ba bc x0 x2 x4 x5 x6 xa vb g w) (hb2 : b2 = true) (hb4 : b4 = true) (hb5 : b5 = false) {v' : Value} (hr : RowDg w' w3.heap.size v' (qs ++ new)) (hbl : Below w3.heap.size w w') (hg : w.grownBy w' x2.ownBlock) :
    Apd w3 qs new lr b0 b2 b4 true b6 ba bc x0 x2 x4 v' x6 xa vb g w' := by
  have h6 : b6 = false := by
    cases e : b6 with
    | false => rfl
    | true => exact absurd (h.o6 e) (by rw [hb5]; decide)
  refine ⟨h.base.trans hbl, fun _ => ⟨hb2, hb4⟩, fun _ => rfl, fun _ e => tf (hb2.symm.trans e), fun _ e => tf e, fun _ e => tf e, fun _ _ => hr, fun e => ff (h6.symm.trans e), fun e => ?_⟩
  obtain ⟨t1, t0, t2⟩ := h.fa e
  exact ⟨t1, t0, t2.grown hg ((h.f2 hb2 hb5).apart t2 (by decide))⟩
/-- it is played -/
theorem Apd.s6 (h : Apd w3 qs new lr b0 b2 b4 b5 b6 ba bc x0 x2 x4 x5 x6 xa vb g w) (hb5 : b5 = true) {v' : Value} {ps : List PrV} (hbl : Below w.heap.size w w') (ho : OwnPr w' w.heap.size v' ps) (hp : ps.map (·.p) = pout lr) :
    Apd w3 qs new lr b0 b2 b4 b5 true ba bc x0 x2 x4 x5 (.tuple #[v', .agg #[.int .i64 (pcode lr).1, .int .i64 ((pcode lr).2 : Int)]]) xa v' g w' :=
  { h.below hbl with
    o6 := fun _ => hb5
    f5 := fun _ e => tf e
    f6 := fun _ => ⟨rfl, ps, ho.mono (Nat.zero_le _), hp⟩ }
/-- the fault is stored -/
theorem Apd.sc (h : Apd w3 qs new lr b0 b2 b4 b5 b6 ba bc x0 x2 x4 x5 x6 xa vb g w) (hba : ba = true) (hb6 : b6 = true) (hbc : bc = false) :
    Apd w3 qs new lr b0 b2 b4 b5 b6 ba true x0 x2 x4 x5 x6 xa vb g ((w.setCell ⟨g, 0, none⟩ (.int .i64 (pcode lr).1)).setCell ⟨g, 1, none⟩ (.int .i64 ((pcode lr).2 : Int))) := by
  obtain ⟨t1, hgb, t2⟩ := h.fa hba
  rw [hbc, if_neg (by decide)] at t2
  have hg : w.grownBy ((w.setCell ⟨g, 0, none⟩ (.int .i64 (pcode lr).1)).setCell ⟨g, 1, none⟩ (.int .i64 ((pcode lr).2 : Int))) (some g) := grown_trans (grown_set _ _ _ _) (grown_set _ _ _ _)
  have h5 := h.o6 hb6
  have h24 := h.o5 h5
  refine ⟨below_set2 h.base hgb _ _, h.o5, h.o6, fun _ e => tf (h24.1.symm.trans e), fun _ e => tf (h5.symm.trans e), fun _ e => tf (h5.symm.trans e), fun _ e => tf (hb6.symm.trans e), fun e => ?_, fun _ => ⟨t1, hgb, ?_⟩⟩
  · obtain ⟨r1, ps, r2, r3⟩ := h.f6 e
    exact ⟨r1, ps, r2.store t2 hg, r3⟩
  · rw [if_pos rfl]
    exact ((t2.set 0 _).set 1 _)
end
end Go.Proofs.YtgpainbnldghkaaDoor
