/-
  What package state's entries gathers: what its first closure (put) does.
-/
import Derived.Test.YtooemgkjkngpcaaDoorStVal
import Derived.Test.YtooemgkjkngpcaaDoorDoingsCut
import Derived.Test.YtooemgkjkngpcaaDoorRegions
namespace Go.Proofs.YtooemgkjkngpcaaDoor
open Go.RowKit

/-- only block go, and rows of doings, are turned -/
def KeptD (go : Nat) (w w' : World) : Prop := ∀ (k : Nat) (cs : Array Value) (t : TypeId) (fr : Nat × Nat), w.heap[k]? = some (.cells cs t fr) → k ≠ go → t ≠ 83 → w'.heap[k]? = w.heap[k]?
theorem KeptD.refl (go : Nat) (w : World) : KeptD go w w := fun _ _ _ _ _ _ _ => rfl
theorem KeptD.trans {go : Nat} {w w1 w2 : World} (h : KeptD go w w1) (k : KeptD go w1 w2) : KeptD go w w2 := fun i cs t fr hi hg ht => by
  have h1 := h i cs t fr hi hg ht
  exact (k i cs t fr (h1.trans hi) hg ht).trans h1
theorem KeptD.of_below {go : Nat} {w w' : World} (h : Below w.heap.size w w') : KeptD go w w' := fun k _ _ _ hk _ _ => h.block k (Array.getElem?_eq_some_iff.1 hk).1
theorem Row.keptD {w w' : World} {go g : Nat} {t : TypeId} {cs : List Value} (h : Row w g t cs) (hk : KeptD go w w') (hg : g ≠ go) (ht : t ≠ 83) : Row w' g t cs := by
  unfold Row at *
  exact (hk g _ t _ h hg ht).trans h
theorem OwnM.keptD {w w' : World} {go base : Nat} {v : Value} {l : List (BitVec 8)} (h : OwnM w base v l) (hk : KeptD go w w') {t : TypeId} {cs : List Value} (hr : Row w go t cs) (ht : t ≠ 5) : OwnM w' base v l := by
  obtain ⟨g, cap, cur, fz, h1, h2, hg, h3⟩ := h
  refine ⟨g, cap, cur, fz, h1, h2, ?_, h3⟩
  have hne : g ≠ go := by
    rintro rfl
    unfold Row at hr
    rw [hr] at hg
    simp at hg
    exact ht hg.2.1
  exact (hk g cur _ fz hg hne (by decide)).trans hg
/-- an entry's key and value, the call's own or the caller's -/
def entOk (w : World) (base N : Nat) (q : DgV) : Prop := OwnM w base q.k q.d.key ∧ (OwnM w base q.v q.d.val ∨ Bytes w N q.v q.d.val)
theorem entOk.kept {w w' : World} {base N go : Nat} {q : DgV} (h : entOk w base N q) (hN : N ≤ base) (hb : Below base w w') (hk : KeptD go w w') {v : Value} (hr : Row w go 51 [v]) : entOk w' base N q :=
  ⟨h.1.keptD hk hr (by decide), h.2.elim (fun x => .inl (x.keptD hk hr (by decide))) (fun x => .inr (x.below (hb.mono hN)))⟩
theorem entOk.ok {w : World} {base N : Nat} {q : DgV} (h : entOk w base N q) (hN : N ≤ w.heap.size) : q.ok w w.heap.size := ⟨h.1.bytes, h.2.elim (fun x => x.bytes) (fun x => x.mono hN)⟩
/-- what is gathered -/
def Ents (w : World) (base N go : Nat) (l : List Dg) : Prop := ∃ v ps, Row w go 51 [v] ∧ RowDg w base v ps ∧ ps.map (·.d) = l ∧ ∀ q ∈ ps, entOk w base N q
theorem Ents.below {w w' : World} {base N go : Nat} {l : List Dg} (h : Ents w base N go l) (hN : N ≤ base) (hw : base ≤ w.heap.size) (hb : Below w.heap.size w w') : Ents w' base N go l := by
  obtain ⟨v, ps, h1, h2, h3, h4⟩ := h
  exact ⟨v, ps, h1.below hb h1.lt, h2.below hb, h3, fun q hq => (h4 q hq).kept hN (hb.mono hw) (KeptD.of_below (go := go) hb) h1⟩
theorem RowDg.shape {w : World} {base : Nat} {v : Value} {ps : List DgV} (h : RowDg w base v ps) : ∃ oa cap, v = .slice oa ps.length cap := by
  obtain ⟨_, h2⟩ := h
  rcases h2 with ⟨h3, h4⟩ | ⟨g, cap, cur, h3, _⟩
  · exact ⟨none, 0, by rw [h4]; exact h3⟩
  · exact ⟨_, cap, h3⟩
theorem RowDg.apart {w : World} {base go : Nat} {v : Value} {ps : List DgV} {t : TypeId} {cs : List Value} (h : RowDg w base v ps) (hr : Row w go t cs) (ht : t ≠ 83) : some go ≠ v.ownBlock := by
  obtain ⟨_, h2⟩ := h
  rcases h2 with ⟨rfl, h4⟩ | ⟨g, cap, cur, rfl, _, hg, _⟩
  · simp [Value.ownBlock]
  · intro e
    simp [Value.ownBlock] at e
    subst e
    unfold Row at hr
    rw [hr] at hg
    simp at hg
    exact ht hg.2
theorem RowDg.setOther {w : World} {base go i : Nat} {v x : Value} {ps : List DgV} (h : RowDg w base v ps) (hne : some go ≠ v.ownBlock) : RowDg (w.setCell ⟨go, i, none⟩ x) base v ps := by
  obtain ⟨h1, h2⟩ := h
  refine ⟨h1, ?_⟩
  rcases h2 with h2 | ⟨g, cap, cur, h3, h4, h5, h6⟩
  · exact .inl h2
  · refine .inr ⟨g, cap, cur, h3, h4, ?_, h6⟩
    rw [heap_setCell_other _ _ _ _ (fun e => hne (by rw [h3]; simp [Value.ownBlock, e]))]
    exact h5
def putV (go : Nat) : Value := .func (.func 38) #[] #[.pointer (some ⟨go, 0, none⟩)]
set_option maxRecDepth 100000 in
set_option maxHeartbeats 4000000 in
theorem put_any (l : List Dg) (q : DgV) (base N go : Nat) (w : World) (hE : Ents w base N go l) (hq : entOk w base N q) (hN : N ≤ base) (hgo : base ≤ go) (hlen : l.length ≤ 1000) (hg : q.d.gone = false) :
    Calls Tryd.prog 38 #[q.k, q.v, .pointer (some ⟨go, 0, none⟩)] w fun e w' => e = .returned (.tuple #[]) ∧ Ents w' base N go (l ++ [q.d]) ∧ Below base w w' ∧ KeptD go w w' := by
  obtain ⟨v, ps, hr, hrow, hps, hok⟩ := hE
  have hgl := hr.lt
  have hbw : base ≤ w.heap.size := by omega
  obtain ⟨oa, ca, rfl⟩ := hrow.shape
  have hone := (hq.ok (by omega)).one
  obtain ⟨⟨d, kv, vv⟩, rfl⟩ : ∃ q', q = q' := ⟨_, rfl⟩
  simp only at hq hg hone ⊢
  obtain ⟨ok, ck, hkv⟩ : ∃ ok ck, kv = .slice ok d.key.length ck := hq.1.shape
  subst hkv
  obtain ⟨ov, cv, rfl⟩ : ∃ ov cv, vv = .slice ov d.val.length cv := by
    rcases hq.2 with h | h
    · exact h.shape
    · obtain ⟨a, b, h, _⟩ := h.shape; exact ⟨a, b, h⟩
  obtain ⟨w1, hw1⟩ : ∃ w1, w.alloc (.cells #[.slice ok d.key.length ck, .slice ov d.val.length cv, .bool false] 83) = w1 := ⟨_, rfl⟩
  have hb1 : Below w.heap.size w w1 := by rw [← hw1]; exact (Below.refl _ _).alloc (Nat.le_refl _) _
  have hrn : Row w1 w.heap.size 83 [.slice ok d.key.length ck, .slice ov d.val.length cv, .bool false] := by rw [← hw1]; exact Row.new _ _ _
  have HSRC := hid (show SrcDg w1 (w.heap.size + 1) (.slice (some ⟨w.heap.size, 0, none⟩) 1 1) [⟨d, .slice ok d.key.length ck, .slice ov d.val.length cv⟩] from srcDg_one (hrn.cell 0) (hrn.cell 1) (by rw [hg]; exact hrn.cell 2))
  have HROW1 := hid (hrow.below hb1)
  have HR1 := hid (hr.below hb1 hr.lt)
  have HB1 := hid hb1
  have HW1 := hid hw1
  have HQ := hid hq
  have HOK := hid hok
  have HPS := hid hps
  have HR := hid hr
  have HONE := hid hone
  have c0 : w.cell? ⟨go, 0, none⟩ = some (.slice oa ps.length ca) := hr.cell 0
  have HPL := hid (show ps.length = l.length by rw [← hps, List.length_map])
  have HG := hid hg
  clear hq hok hps hr hrow hrn hb1 hone hg hw1
  go_enter Tryd.func38, Tryd.ntmps38
  go_wp2_with (at_builtin; refine Hid.out ?_)
  refine hid ?_
  rw [HW1.out]
  refine wpList_append_dgs rfl (.tmp 5) (.tmp 9) rfl base (.slice oa ps.length ca) ps rfl HROW1.out _ [⟨d, .slice ok d.key.length ck, .slice ov d.val.length cv⟩] rfl HSRC.out (fun x hx => by simp at hx; rw [hx]; exact HONE.out) (by have := HPL.out; simp; omega) (Nat.le_trans hbw HB1.out.size) ?_
  intro v2 w2 hrow2 hb2 hgr2
  have hne := RowDg.apart HROW1.out HR1.out (by decide)
  have hr2 : Row w2 go 51 [.slice oa ps.length ca] := by
    have := HR1.out
    unfold Row at *
    rw [hgr2.block go (Array.getElem?_eq_some_iff.1 this).1 hne]
    exact this
  have hk2 : KeptD go w1 w2 := fun k cs t fr hk _ ht => hgr2.block k (Array.getElem?_eq_some_iff.1 hk).1 (fun e => by
    obtain ⟨_, h2⟩ := HROW1.out
    rcases h2 with ⟨h3, _⟩ | ⟨g', cap, cur, h3, _, hg', _⟩
    · rw [h3] at e; simp [Value.ownBlock] at e
    · rw [h3] at e
      simp [Value.ownBlock] at e
      subst e
      rw [hg'] at hk
      simp at hk
      exact ht hk.2.1.symm)
  obtain ⟨o2, n2, c2, rfl⟩ : ∃ o n c, v2 = .slice o n c := by obtain ⟨a, b, h⟩ := hrow2.shape; exact ⟨a, _, b, h⟩
  have y0 : w2.cell? ⟨go, 0, none⟩ = some (.slice oa ps.length ca) := hr2.cell 0
  have fr0 := hr2.frozen 0
  have HB2 := hid ((HB1.out.mono hbw).trans hb2)
  have hk3 : KeptD go w2 (w2.setCell ⟨go, 0, none⟩ (.slice o2 n2 c2)) := fun k cs t fr _ hg _ => heap_setCell_other _ _ _ _ hg
  have HK := hid (((KeptD.of_below HB1.out).trans hk2).trans hk3)
  have HB3 := hid (HB2.out.setCell (show base ≤ (⟨go, 0, none⟩ : Addr).block from hgo) (.slice o2 n2 c2))
  have HROW3 := hid (hrow2.setOther (i := 0) (x := .slice o2 n2 c2) (RowDg.apart hrow2 hr2 (by decide)))
  have HR3 := hid (hr2.set 0 (.slice o2 n2 c2))
  clear hrow2 hb2 hgr2 hne hr2 hk2 hk3
  go_wp2
  refine bodyPost_end (v := .tuple #[]) (by simp [results, Tryd.results38, go_sem]) rfl ⟨rfl, ⟨_, _, HR3.out, HROW3.out, by rw [List.map_append, HPS.out]; rfl, fun q hq => ?_⟩, HB3.out, HK.out⟩
  rcases List.mem_append.1 hq with hq | hq
  · exact (HOK.out q hq).kept hN HB3.out HK.out HR.out
  · obtain rfl := List.mem_singleton.1 hq
    exact HQ.out.kept hN HB3.out HK.out HR.out
end Go.Proofs.YtooemgkjkngpcaaDoor
