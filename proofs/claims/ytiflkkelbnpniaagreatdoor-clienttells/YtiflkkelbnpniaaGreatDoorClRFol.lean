/-
  What the document's Follow answers.
-/
import Derived.Test.YtiflkkelbnpniaaGreatDoorClRNew
import Derived.Deep.Cut
namespace Go.Proofs.YtiflkkelbnpniaaGreatDoor
open Go.RowKit

/-- how things lie while the document follows: what is read, and the client that is made (its mark b, what it knows v) -/
def FolS (w : World) (B gh : Nat) (c : Cl) (u : Up) (oa : Option Addr) (n ca : Nat) (o1 o2 o3 : Option Addr) (c1 c2 c3 : Nat) (b : Bool) (v : Value) (wr : World) : Prop :=
  (Below w.heap.size w wr ∧ B ≤ wr.heap.size) ∧ (Row wr (w.heap.size) 24 [.string c.chain, .int .i64 c.trust, .bool false, .slice oa n ca] ∧ Row wr gh 29 [.string u.sg.hd.chain, .int .i64 u.sg.hd.height, .int .i64 u.sg.hd.time, .slice o1 u.sg.hd.root.length c1, .slice o2 u.sg.hd.vals.length c2, .slice o3 u.sg.hd.next.length c3]) ∧ Row wr (gh + 1) 24 [.string c.chain, .int .i64 c.trust, .bool b, v] ∧ Row wr (gh + 1 + 1) 27 [.int .i64 u.sg.hd.height, .int .i64 u.sg.hd.time, .slice o1 u.sg.hd.root.length c1, .slice o3 u.sg.hd.next.length c3] ∧ Row wr (w.heap.size + 1 + 1) 24 [.string ⟨#[]⟩, .int .i64 0, .bool false, .slice none 0 0]
theorem frzB_same {all l : List Kn} {f : Kn} {k : Nat} {x : Kn} (hx : l[k]? = some x) (h : x.height = f.height) : frzB all f (l.take (k + 1)) = (frzB all f (l.take k) || !sameK x f) := by
  rw [frzB_take all f l k x hx]
  have e1 : decide (x.height = f.height) = true := by simpa using h
  have e2 : offB x f.height f.time = false := by unfold offB; simp [h]
  rw [e1, e2]
  simp
theorem RowKn.keep {w w' : World} {base : Nat} {v : Value} {rs : List (List Value)} (h : RowKn w base v rs) (hk : ∀ g, base ≤ g → w'.heap[g]? = w.heap[g]?) : RowKn w' base v rs := by
  refine ⟨h.1, h.2.1, ?_⟩
  rcases h.2.2 with h2 | ⟨g, cap, cur, h3, h4, h5, h6⟩
  · exact .inl h2
  · exact .inr ⟨g, cap, cur, h3, h4, (hk g h4).trans h5, h6⟩
theorem Knowns.tail {w : World} {N g n m : Nat} {l : List Kn} (h : Knowns w N (.slice (some ⟨g, 0, none⟩) n m) l) (hn : 1 ≤ n) : Knowns w N (.slice (some ⟨g, 4, none⟩) (n - 1) (m - 1)) (l.drop 1) := by
  obtain ⟨ps, h1, h2, h3⟩ := h
  refine ⟨ps.drop 1, by rw [← h1, List.map_drop], ?_, fun q hq => h3 q (List.mem_of_mem_drop hq)⟩
  rcases h2 with ⟨e, _⟩ | ⟨a, c, e, _⟩ | ⟨k, off, cap, e1, e2, e3⟩
  · have := (Value.slice.inj e).1
    cases this
  · have := (Value.slice.inj e).2.1
    omega
  · obtain ⟨i1, i2, i3⟩ := Value.slice.inj e1
    obtain ⟨rfl, rfl⟩ : g = k ∧ 0 = off := by simpa using i1
    subst i3
    refine .inr (.inr ⟨g, 4, m - 1, by rw [List.map_drop, List.length_drop, ← i2], by rw [List.map_drop, List.length_drop]; omega, fun i r hr => ?_⟩)
    rw [List.map_drop, List.getElem?_drop] at hr
    obtain ⟨f1, f2⟩ := e3 (1 + i) r hr
    refine ⟨f1, fun j x hx => ?_⟩
    rw [← f2 j x hx]
    congr 2
    omega
theorem stepK_no {f x : Kn} {rl : List Kn} (h : ¬ f.height < x.height) : stepK f (rl, false) x = (rl ++ [x], false) := by
  unfold stepK
  rw [if_neg (fun hh => h hh.2)]
theorem hasB_yes {l : List Kn} {h : Int} (e : hasB h l = true) : ∃ o, atK l h = some o := by
  unfold hasB at e
  obtain ⟨x, hx, hh⟩ := List.any_eq_true.1 e
  cases ha : atK l h with
  | some o => exact ⟨o, rfl⟩
  | none => exact absurd (by simpa using hh) (atK_none ha x hx)
section
variable {w wr wr' : World} {B gh : Nat} {c : Cl} {u : Up} {oa : Option Addr} {n ca : Nat} {o1 o2 o3 : Option Addr} {c1 c2 c3 : Nat} {b : Bool} {v : Value}
theorem FolS.below (h : FolS w B gh c u oa n ca o1 o2 o3 c1 c2 c3 b v wr) (hB : Below B wr wr') (h1 : w.heap.size + 1 + 1 < gh) (h2 : gh + 1 + 1 < B) : FolS w B gh c u oa n ca o1 o2 o3 c1 c2 c3 b v wr' := by
  obtain ⟨⟨g1, g2⟩, ⟨g3, g4⟩, g5, g6, g7⟩ := h
  exact ⟨⟨g1.trans (hB.mono (by omega)), Nat.le_trans g2 hB.size⟩, ⟨g3.below hB (by omega), g4.below hB (by omega)⟩, g5.below hB (by omega), g6.below hB (by omega), g7.below hB (by omega)⟩
theorem FolS.mark (h : FolS w B gh c u oa n ca o1 o2 o3 c1 c2 c3 b v wr) (h1 : w.heap.size + 1 + 1 < gh) (b' : Bool) : FolS w B gh c u oa n ca o1 o2 o3 c1 c2 c3 b' v (wr.setCell ⟨gh + 1, 2, none⟩ (.bool b')) := by
  obtain ⟨⟨g1, g2⟩, ⟨g3, g4⟩, g5, g6, g7⟩ := h
  exact ⟨⟨g1.setCell (show w.heap.size ≤ gh + 1 by omega) _, by simpa [World.setCell] using g2⟩, ⟨setCell_row g3 _ _ (by omega), setCell_row g4 _ _ (by omega)⟩, g5.set 2 (.bool b'), setCell_row g6 _ _ (by omega), setCell_row g7 _ _ (by omega)⟩
theorem FolS.put (h : FolS w B gh c u oa n ca o1 o2 o3 c1 c2 c3 b v wr) (h1 : w.heap.size + 1 + 1 < gh) (v' : Value) : FolS w B gh c u oa n ca o1 o2 o3 c1 c2 c3 b v' (wr.setCell ⟨gh + 1, 3, none⟩ v') := by
  obtain ⟨⟨g1, g2⟩, ⟨g3, g4⟩, g5, g6, g7⟩ := h
  exact ⟨⟨g1.setCell (show w.heap.size ≤ gh + 1 by omega) _, by simpa [World.setCell] using g2⟩, ⟨setCell_row g3 _ _ (by omega), setCell_row g4 _ _ (by omega)⟩, g5.set 3 v', setCell_row g6 _ _ (by omega), setCell_row g7 _ _ (by omega)⟩
end
set_option maxRecDepth 100000 in
set_option maxHeartbeats 16000000 in
theorem refFollowC : FollowC 15 := by
  intro c u now cv uv N w htab hN hcv huv hcf huf
  have HUV := hid huv
  have HCV := hid hcv
  obtain ⟨kv, rfl, hk⟩ := hcv
  obtain ⟨oa, ca, rfl, hca⟩ := hk.shape
  obtain ⟨o1, c1, o2, c2, o3, c3, o4, c4, o5, c5, o6, c6, rfl, g1, g2, g3, -, -, -⟩ := huv.open
  have HHV := hid (show HdV w N (.agg #[.string u.sg.hd.chain, .int .i64 u.sg.hd.height, .int .i64 u.sg.hd.time, .slice o1 u.sg.hd.root.length c1, .slice o2 u.sg.hd.vals.length c2, .slice o3 u.sg.hd.next.length c3]) u.sg.hd from ⟨_, _, _, rfl, g1, g2, g3⟩)
  have HG1 := hid g1
  have HG3 := hid g3
  obtain ⟨w0, hw0⟩ : ∃ w0, ((w.alloc (.cells #[.string c.chain, .int .i64 c.trust, .bool c.frozen, .slice oa c.known.length ca] 24)).alloc (.cells #[.int .i64 u.frm, .string u.sg.hd.chain, .int .i64 u.sg.hd.height, .int .i64 u.sg.hd.time, .slice o1 u.sg.hd.root.length c1, .slice o2 u.sg.hd.vals.length c2, .slice o3 u.sg.hd.next.length c3, .slice o4 u.sg.vals.length c4, .slice o5 u.sg.votes.length c5, .slice o6 u.trusted.length c6] 35)).alloc (.cells #[.string ⟨#[]⟩, .int .i64 0, .bool false, .slice none 0 0] 24) = w0 := ⟨_, rfl⟩
  have hb0 : Below w.heap.size w w0 := by rw [← hw0]; exact (((Below.refl _ _).alloc (Nat.le_refl _) _).alloc (by simp) _).alloc (by simp; omega) _
  have HRC0 := hid (show Row w0 (w.heap.size) 24 [.string c.chain, .int .i64 c.trust, .bool c.frozen, .slice oa c.known.length ca] by rw [← hw0]; exact ((Row.new _ _ _).alloc _).alloc _)
  have HRU0 := hid (show Row w0 (w.heap.size + 1) 35 [.int .i64 u.frm, .string u.sg.hd.chain, .int .i64 u.sg.hd.height, .int .i64 u.sg.hd.time, .slice o1 u.sg.hd.root.length c1, .slice o2 u.sg.hd.vals.length c2, .slice o3 u.sg.hd.next.length c3, .slice o4 u.sg.vals.length c4, .slice o5 u.sg.votes.length c5, .slice o6 u.trusted.length c6] by rw [← hw0]; exact (Row.newAt _ _ _ _ (by simp)).alloc _)
  have HRZ0 := hid (show Row w0 (w.heap.size + 1 + 1) 24 [.string ⟨#[]⟩, .int .i64 0, .bool false, .slice none 0 0] by rw [← hw0]; exact Row.newAt _ _ _ _ (by simp))
  have HAS := hid (refAskedC c now (.agg #[.string c.chain, .int .i64 c.trust, .bool c.frozen, .slice oa c.known.length ca]) N w0 ⟨_, rfl, hk.below (hb0.mono hN)⟩ (Nat.le_trans hN hb0.size) hcf)
  have HK := hid hk
  have HTAB := hid htab
  have HB0 := hid hb0
  have HCF := hid hcf
  have HUF := hid huf
  have HW0 := hid hw0
  obtain ⟨⟨a0, a1, a2, a3⟩, -⟩ := HRC0.out.four
  clear hk htab hb0 hcf huf hw0 g1 g2 g3 huv
  by_cases hask : askedN c now = 0
  · have HASK := hid hask
    obtain ⟨hcw, -, hfz⟩ := askedN_ok hask
    obtain ⟨-, -, ⟨hk1, hk30⟩, hkall, hkris⟩ := (wrongCl_iff c).1 hcw
    have HFZ := hid hfz
    have HRIS := hid hkris
    have HFE := hid (followE_bel (u := u) hask)
    have HDA := hid (show ∀ wx, Below w.heap.size w wx → Calls Tryz.prog 37 #[.agg #[.string c.chain, .int .i64 c.trust, .bool c.frozen, .slice oa c.known.length ca], .agg #[.int .i64 u.frm, .string u.sg.hd.chain, .int .i64 u.sg.hd.height, .int .i64 u.sg.hd.time, .slice o1 u.sg.hd.root.length c1, .slice o2 u.sg.hd.vals.length c2, .slice o3 u.sg.hd.next.length c3, .slice o4 u.sg.vals.length c4, .slice o5 u.sg.votes.length c5, .slice o6 u.trusted.length c6], .int .i64 now] wx _ from fun wx hx =>
      refBelieveC c u now _ _ N wx (HTAB.out.below hx HTAB.out.lt) (Nat.le_trans hN hx.size) (HCV.out.below (hx.mono hN)) (HUV.out.below (hx.mono hN)) HCF.out HUF.out HASK.out)
    have HNB := hid (show ∀ (y z : Int) (wx : World), Below w.heap.size w wx → Calls Tryz.prog 38 #[.agg #[.string c.chain, .int .i64 c.trust, .bool c.frozen, .slice oa c.known.length ca], .int .i64 y, .int .i64 z] wx _ from fun y z wx hx =>
      neighbour_any c y z _ N wx (HCV.out.below (hx.mono hN)) (Nat.le_trans hN hx.size) hk30)
    have HSM := hid (show ∀ (o : Kn), atK c.known u.sg.hd.height = some o → ∀ wx, Below w.heap.size w wx → Calls Tryz.prog 39 #[.agg #[.string c.chain, .int .i64 c.trust, .bool c.frozen, .slice oa c.known.length ca], .agg #[.string u.sg.hd.chain, .int .i64 u.sg.hd.height, .int .i64 u.sg.hd.time, .slice o1 u.sg.hd.root.length c1, .slice o2 u.sg.hd.vals.length c2, .slice o3 u.sg.hd.next.length c3]] wx _ from fun o ho wx hx =>
      refsame_any c u.sg.hd o _ _ N wx (Nat.le_trans hN hx.size) (HCV.out.below (hx.mono hN)) (HHV.out.below (hx.mono hN)) HCF.out HUF.out.1.1 ho)
    have HCE := hid (show { c with frozen := false } = c by cases c; simp_all)
    rw [HFZ.out] at HAS HDA HNB HSM HRC0
    simp only [hfz] at a2
    have HW0' := hid HW0.out
    rw [HFZ.out] at HW0'
    rw [HFZ.out]
    clear hask hcw hfz hk1 hca HW0 HCV hkall hkris
    have HL := hid (show c.known = c.known from rfl)
    generalize hn : c.known.length = n at *
    have HN := hid hn
    clear hn HL
    go_enter Tryz.func15, Tryz.ntmps15
    go_wp2_with fail
    rw [HW0'.out]
    refine HAS.out.mono ?_
    rintro e w1 ⟨rfl, hb1⟩
    rw [HASK.out]
    have HB1 := hid (HB0.out.trans (hb1.mono HB0.out.size))
    have HRC1 := hid (HRC0.out.below hb1 HRC0.out.lt)
    have HRU1 := hid (HRU0.out.below hb1 HRU0.out.lt)
    have HRZ1 := hid (HRZ0.out.below hb1 HRZ0.out.lt)
    clear hb1 a0 a1 a2 a3
    obtain ⟨⟨a0, a1, a2, a3⟩, -⟩ := HRC1.out.four
    obtain ⟨⟨i0, i1, i2, i3, i4⟩, i5, i6, i7, i8, i9⟩ := HRU1.out.ten
    go_wp2_with fail
    refine (HDA.out _ HB1.out).mono ?_
    rintro e w2 ⟨rfl, hb2⟩
    have HB2 := hid (HB1.out.trans (hb2.mono HB1.out.size))
    have HRC2 := hid (HRC1.out.below hb2 HRC1.out.lt)
    have HRU2 := hid (HRU1.out.below hb2 HRU1.out.lt)
    have HRZ2 := hid (HRZ1.out.below hb2 HRZ1.out.lt)
    clear hb2 a0 a1 a2 a3 i0 i1 i2 i3 i4 i5 i6 i7 i8 i9
    by_cases hbl : believeN c u now = 0
    · have HFE0 := hid (show followE c u now = 0 by rw [HFE.out, hbl])
      have HFC := hid (followC_yes HFE0.out)
      rw [hbl]
      clear hbl
      obtain ⟨gh, hgh⟩ : ∃ gh, w2.heap.size = gh := ⟨_, rfl⟩
      have hgl : w.heap.size + 1 + 1 < gh := by rw [← hgh]; exact HRZ2.out.lt
      obtain ⟨w5, hw5⟩ : ∃ w5, ((w2.alloc (.cells #[.string u.sg.hd.chain, .int .i64 u.sg.hd.height, .int .i64 u.sg.hd.time, .slice o1 u.sg.hd.root.length c1, .slice o2 u.sg.hd.vals.length c2, .slice o3 u.sg.hd.next.length c3] 29)).alloc (.cells #[.string c.chain, .int .i64 c.trust, .bool false, .slice none 0 0] 24)).alloc (.cells #[.int .i64 u.sg.hd.height, .int .i64 u.sg.hd.time, .slice o1 u.sg.hd.root.length c1, .slice o3 u.sg.hd.next.length c3] 27) = w5 := ⟨_, rfl⟩
      obtain ⟨B, hB⟩ : ∃ B, w5.heap.size = B := ⟨_, rfl⟩
      have hgB : gh + 1 + 1 < B := by rw [← hB, ← hw5, ← hgh]; simp
      have hb5 : Below w2.heap.size w2 w5 := by rw [← hw5]; exact (((Below.refl _ _).alloc (Nat.le_refl _) _).alloc (by simp) _).alloc (by simp; omega) _
      have HS5 := hid (show FolS w B gh c u oa n ca o1 o2 o3 c1 c2 c3 false (.slice none 0 0) w5 from ⟨⟨HB2.out.trans (hb5.mono HB2.out.size), Nat.le_of_eq hB.symm⟩, ⟨HRC2.out.below hb5 HRC2.out.lt, by rw [← hw5]; exact ((Row.newAt _ _ _ _ hgh.symm).alloc _).alloc _⟩, by rw [← hw5]; exact (Row.newAt _ _ _ _ (by simp [hgh])).alloc _, by rw [← hw5]; exact Row.newAt _ _ _ _ (by simp [hgh]), HRZ2.out.below hb5 HRZ2.out.lt⟩)
      have HW5 := hid hw5
      have HGH := hid hgh
      have m1 : w.heap.size < w2.heap.size := HRC2.out.lt
      have m2 : w.heap.size ≠ w2.heap.size := by omega
      have m3 : w.heap.size ≠ w2.heap.size + 1 := by omega
      have m4 : w.heap.size ≠ w2.heap.size + 1 + 1 := by omega
      obtain ⟨⟨a0, a1, a2, a3⟩, -⟩ := HRC2.out.four
      obtain ⟨⟨i0, i1, i2, i3, i4⟩, i5, i6, i7, i8, i9⟩ := HRU2.out.ten
      clear hw5 hgh hb5 hB
      generalize hl : c.known = l at *
      have HLL := hid hl
      clear hl
      go_upto_region 11 with fail
      rw [HW5.out, HGH.out]
      clear a0 a1 a2 a3 i0 i1 i2 i3 i4 i5 i6 i7 i8 i9 m1 m2 m3 m4
      obtain ⟨⟨a0, a1, a2, a3⟩, -⟩ := HS5.out.2.1.1.four
      go_wp2_with fail
      clear a0 a1 a2 a3
      go_loopw [13, 15, 53] (fun s13 _ s53 wr => ∃ (k : Nat) (b : Bool), k ≤ n ∧ s13 = .bool (hasB u.sg.hd.height (l.take k)) ∧ s53 = .int .i64 (k : Int) ∧ Hid (FolS w B gh c u oa n ca o1 o2 o3 c1 c2 c3 b (.slice none 0 0) wr ∧ b = frzB l (knOf u.sg.hd) (l.take k) ∧ k ≤ n)) (fun _ _ s53 _ => n - (intOf s53).toNat)
      case atStart => exact ⟨0, false, Nat.zero_le _, rfl, rfl, hid ⟨HS5.out, rfl, Nat.zero_le _⟩⟩
      case round =>
        obtain ⟨k, b, hk, rfl, rfl, HR⟩ := hrel
        have hBr := HR.out.1.1.2
        by_cases hlt : k < n
        · have hlt' : (k : Int) < (n : Int) := by omega
          obtain ⟨x, hx⟩ : ∃ x, l[k]? = some x := ⟨l[k]'(by rw [HN.out]; exact hlt), List.getElem?_eq_getElem _⟩
          obtain ⟨bk, o, rfl, hcells⟩ := HK.out.spot (by omega)
          obtain ⟨hbN, vr, vn, d0, d1, d2, d3, b2, b3⟩ := hcells k x hx
          obtain ⟨p2, e2, rfl, -⟩ := b2.shape
          obtain ⟨p3, e3, rfl, -⟩ := b3.shape
          have hbl : bk < w.heap.size := by omega
          have f0 := (HR.out.1.1.1.cell (p := ⟨bk, o + k * 4, none⟩) hbl).trans d0
          have f1 := (HR.out.1.1.1.cell (p := ⟨bk, o + k * 4 + 1, none⟩) hbl).trans d1
          have f2 := (HR.out.1.1.1.cell (p := ⟨bk, o + k * 4 + 2, none⟩) hbl).trans d2
          have f3 := (HR.out.1.1.1.cell (p := ⟨bk, o + k * 4 + 3, none⟩) hbl).trans d3
          obtain ⟨wa, hwa⟩ : ∃ wa, wr.alloc (.cells #[.int .i64 x.height, .int .i64 x.time, .slice p2 x.root.length e2, .slice p3 x.next.length e3] 27) = wa := ⟨_, rfl⟩
          have hba : Below wr.heap.size wr wa := by rw [← hwa]; exact (Below.refl _ _).alloc (Nat.le_refl _) _
          have HSa := hid (HR.out.1.below (hba.mono hBr) hgl hgB)
          have HRXa := hid (show Row wa wr.heap.size 27 [.int .i64 x.height, .int .i64 x.time, .slice p2 x.root.length e2, .slice p3 x.next.length e3] by rw [← hwa]; exact Row.new _ _ _)
          obtain ⟨⟨q0, q1, q2, q3⟩, -⟩ := HRXa.out.four
          obtain ⟨⟨a0, a1, a2, a3⟩, -⟩ := HSa.out.2.1.1.four
          obtain ⟨j0, j1, j2, j3, j4, j5⟩ := HSa.out.2.1.2.six
          obtain ⟨⟨y0, y1, y2, y3⟩, t0, t1, t2, t3⟩ := HSa.out.2.2.1.four
          have HX := hid hx
          have HTF := hid (frzB_take l (knOf u.sg.hd) l k x hx)
          have HTH := hid (hasB_take u.sg.hd.height l k x hx)
          have HBY := hid (And.intro b2 b3)
          have HKX := hid (HCF.out.2.2 x (by rw [HLL.out]; exact List.mem_of_getElem? hx))
          have HBF := hid HR.out.2.1
          clear hcells d0 d1 d2 d3 b2 b3 hx hba
          have HHK := hid (show hasB u.sg.hd.height (l.take (k + 1)) = (hasB u.sg.hd.height (l.take k) || decide (x.height = u.sg.hd.height)) from HTH.out)
          have HS1 := hid (show ∀ wx, Below w.heap.size w wx → _ from fun wx hx => sameB_any x.root u.sg.hd.root (.slice p2 x.root.length e2) (.slice o1 u.sg.hd.root.length c1) N N wx (HBY.out.1.below (hx.mono hN)) (HG1.out.below (hx.mono hN)) (by have := HKX.out.1; omega) (by have := HUF.out.1.1.2.1; omega))
          have HS2 := hid (show ∀ wx, Below w.heap.size w wx → _ from fun wx hx => sameB_any x.next u.sg.hd.next (.slice p3 x.next.length e3) (.slice o3 u.sg.hd.next.length c3) N N wx (HBY.out.2.below (hx.mono hN)) (HG3.out.below (hx.mono hN)) (by have := HKX.out.2; omega) (by have := HUF.out.1.1.2.2.2; omega))
          rcases Int.lt_trichotomy x.height u.sg.hd.height with hlt2 | heq | hgt
          · have n1 : (x.height == u.sg.hd.height) = false := by rw [beq_eq_false_iff_ne]; omega
            have n2 : decide (x.height < u.sg.hd.height) = true := by simpa using hlt2
            have n3 : decide (u.sg.hd.height < x.height) = false := by simp; omega
            have n4 : decide (x.height = u.sg.hd.height) = false := by simp; omega
            rw [n4, Bool.or_false] at HHK
            clear hlt2
            by_cases ht : u.sg.hd.time ≤ x.time
            · have n5 : decide (u.sg.hd.time ≤ x.time) = true := by simpa using ht
              have HTF' := hid (show frzB l (knOf u.sg.hd) (l.take (k + 1)) = (b || nbB l x.height u.sg.hd.height) by
                rw [HTF.out, HBF.out]
                unfold offB knOf
                simp only [n2, n4, n5]
                simp)
              clear ht
              cases b with
              | true =>
                have HMK := hid (HSa.out.mark hgl true)
                go_wp2
                go_roundw
                case rel => exact ⟨k + 1, _, by omega, by rw [HHK.out], by go_num, hid ⟨HMK.out, (by rw [HTF'.out]; rfl), by omega⟩⟩
                case measure => simp [intOf]; omega
              | false =>
                go_wp2_with fail
                refine (HNB.out _ _ _ HSa.out.1.1).mono ?_
                rintro e wb ⟨rfl, hbb⟩
                have HSb := hid (HSa.out.below (hbb.mono HSa.out.1.2) hgl hgB)
                have HMK := hid (HSb.out.mark hgl (nbB l x.height u.sg.hd.height))
                clear hbb hwa q0 q1 q2 q3 a0 a1 a2 a3 j0 j1 j2 j3 j4 j5 y0 y1 y2 y3 t0 t1 t2 t3 f0 f1 f2 f3
                obtain ⟨⟨y0, y1, y2, y3⟩, t0, t1, t2, t3⟩ := HSb.out.2.2.1.four
                go_wp2
                go_roundw
                case rel => exact ⟨k + 1, _, by omega, by rw [HHK.out], by go_num, hid ⟨HMK.out, (by rw [HTF'.out]; rfl), by omega⟩⟩
                case measure => simp [intOf]; omega
            · have n5 : decide (u.sg.hd.time ≤ x.time) = false := by simpa using ht
              have HTF' := hid (show b = frzB l (knOf u.sg.hd) (l.take (k + 1)) by
                rw [HTF.out, HBF.out]
                unfold offB knOf
                simp only [n2, n3, n4, n5]
                simp)
              clear ht
              go_wp2
              go_roundw
              case rel => exact ⟨k + 1, _, by omega, by rw [HHK.out], by go_num, hid ⟨HSa.out, HTF'.out, by omega⟩⟩
              case measure => simp [intOf]; omega
          · have n1 : (x.height == u.sg.hd.height) = true := by simpa using heq
            have n2 : decide (x.height < u.sg.hd.height) = false := by simp; omega
            have n3 : decide (u.sg.hd.height < x.height) = false := by simp; omega
            have n4 : decide (x.height = u.sg.hd.height) = true := by simpa using heq
            rw [n4, Bool.or_true] at HHK
            have HTF0 := hid (show frzB l (knOf u.sg.hd) (l.take (k + 1)) = (b || !sameK x (knOf u.sg.hd)) by rw [frzB_same (f := knOf u.sg.hd) HX.out heq, ← HBF.out])
            clear heq
            by_cases s1 : x.time = u.sg.hd.time
            · have m1 : (x.time != u.sg.hd.time) = false := by simpa using s1
              have S1 := hid s1
              clear s1
              go_wp2_with fail
              refine (HS1.out _ HSa.out.1.1).mono ?_
              rintro e wb ⟨rfl, hdr⟩
              have hbb : Below wa.heap.size wa wb := by obtain ⟨q, hq⟩ := hdr; rw [hq]; exact below_drewH _ _ _
              have HSb := hid (HSa.out.below (hbb.mono HSa.out.1.2) hgl hgB)
              have HRXb := hid (HRXa.out.below hbb HRXa.out.lt)
              clear hdr hbb hwa q0 q1 q2 q3 a0 a1 a2 a3 j0 j1 j2 j3 j4 j5 y0 y1 y2 y3 t0 t1 t2 t3 f0 f1 f2 f3
              obtain ⟨⟨q0, q1, q2, q3⟩, -⟩ := HRXb.out.four
              obtain ⟨j0, j1, j2, j3, j4, j5⟩ := HSb.out.2.1.2.six
              obtain ⟨⟨y0, y1, y2, y3⟩, t0, t1, t2, t3⟩ := HSb.out.2.2.1.four
              by_cases s2 : x.root = u.sg.hd.root
              · rw [decide_eq_true s2]
                have S2 := hid s2
                clear s2
                go_wp2_with fail
                refine (HS2.out _ HSb.out.1.1).mono ?_
                rintro e wc ⟨rfl, hdr⟩
                have hbb : Below wb.heap.size wb wc := by obtain ⟨q, hq⟩ := hdr; rw [hq]; exact below_drewH _ _ _
                have HSc := hid (HSb.out.below (hbb.mono HSb.out.1.2) hgl hgB)
                have HRXc := hid (HRXb.out.below hbb HRXb.out.lt)
                clear hdr hbb q0 q1 q2 q3 j0 j1 j2 j3 j4 j5 y0 y1 y2 y3 t0 t1 t2 t3
                obtain ⟨⟨q0, q1, q2, q3⟩, -⟩ := HRXc.out.four
                obtain ⟨j0, j1, j2, j3, j4, j5⟩ := HSc.out.2.1.2.six
                obtain ⟨⟨y0, y1, y2, y3⟩, t0, t1, t2, t3⟩ := HSc.out.2.2.1.four
                by_cases s3 : x.next = u.sg.hd.next
                · rw [decide_eq_true s3]
                  have HV := hid (show sameK x (knOf u.sg.hd) = true by unfold sameK knOf; simp [S1.out, S2.out, s3])
                  clear s3
                  go_wp2
                  go_roundw
                  case rel => exact ⟨k + 1, _, by omega, by rw [HHK.out], by go_num, hid ⟨HSc.out, (by rw [HTF0.out, HV.out]; simp), by omega⟩⟩
                  case measure => simp [intOf]; omega
                · rw [decide_eq_false s3]
                  have HV := hid (show sameK x (knOf u.sg.hd) = false by unfold sameK knOf; simp [s3])
                  clear s3
                  have HMK := hid (HSc.out.mark hgl true)
                  obtain ⟨wm, hwm⟩ : ∃ wm, wc.setCell ⟨gh + 1, 2, none⟩ (.bool true) = wm := ⟨_, rfl⟩
                  have HRXm := hid (show Row wm wr.heap.size 27 [.int .i64 x.height, .int .i64 x.time, .slice p2 x.root.length e2, .slice p3 x.next.length e3] by rw [← hwm]; exact setCell_row HRXc.out _ _ (by omega))
                  rw [hwm] at HMK
                  obtain ⟨⟨v0, v1, v2, v3⟩, -⟩ := HRXm.out.four
                  obtain ⟨l0, l1, l2, l3, l4, l5⟩ := HMK.out.2.1.2.six
                  go_wp2
                  go_roundw
                  case rel => exact ⟨k + 1, _, by omega, by rw [HHK.out], by go_num, hid ⟨HMK.out, (by rw [HTF0.out, HV.out]; simp), by omega⟩⟩
                  case measure => simp [intOf]; omega
              · rw [decide_eq_false s2]
                have HV := hid (show sameK x (knOf u.sg.hd) = false by unfold sameK knOf; simp [s2])
                clear s2
                have HMK := hid (HSb.out.mark hgl true)
                obtain ⟨wm, hwm⟩ : ∃ wm, wb.setCell ⟨gh + 1, 2, none⟩ (.bool true) = wm := ⟨_, rfl⟩
                have HRXm := hid (show Row wm wr.heap.size 27 [.int .i64 x.height, .int .i64 x.time, .slice p2 x.root.length e2, .slice p3 x.next.length e3] by rw [← hwm]; exact setCell_row HRXb.out _ _ (by omega))
                rw [hwm] at HMK
                obtain ⟨⟨v0, v1, v2, v3⟩, -⟩ := HRXm.out.four
                obtain ⟨l0, l1, l2, l3, l4, l5⟩ := HMK.out.2.1.2.six
                go_wp2
                go_roundw
                case rel => exact ⟨k + 1, _, by omega, by rw [HHK.out], by go_num, hid ⟨HMK.out, (by rw [HTF0.out, HV.out]; simp), by omega⟩⟩
                case measure => simp [intOf]; omega
            · have m1 : (x.time != u.sg.hd.time) = true := by simpa using s1
              have HV := hid (show sameK x (knOf u.sg.hd) = false by unfold sameK knOf; simp [s1])
              clear s1
              have HMK := hid (HSa.out.mark hgl true)
              obtain ⟨wm, hwm⟩ : ∃ wm, wa.setCell ⟨gh + 1, 2, none⟩ (.bool true) = wm := ⟨_, rfl⟩
              have HRXm := hid (show Row wm wr.heap.size 27 [.int .i64 x.height, .int .i64 x.time, .slice p2 x.root.length e2, .slice p3 x.next.length e3] by rw [← hwm]; exact setCell_row HRXa.out _ _ (by omega))
              rw [hwm] at HMK
              obtain ⟨⟨v0, v1, v2, v3⟩, -⟩ := HRXm.out.four
              obtain ⟨l0, l1, l2, l3, l4, l5⟩ := HMK.out.2.1.2.six
              go_wp2
              go_roundw
              case rel => exact ⟨k + 1, _, by omega, by rw [HHK.out], by go_num, hid ⟨HMK.out, (by rw [HTF0.out, HV.out]; simp), by omega⟩⟩
              case measure => simp [intOf]; omega
          · have n1 : (x.height == u.sg.hd.height) = false := by rw [beq_eq_false_iff_ne]; omega
            have n2 : decide (x.height < u.sg.hd.height) = false := by simp; omega
            have n3 : decide (u.sg.hd.height < x.height) = true := by simpa using hgt
            have n4 : decide (x.height = u.sg.hd.height) = false := by simp; omega
            rw [n4, Bool.or_false] at HHK
            clear hgt
            by_cases ht : x.time ≤ u.sg.hd.time
            · have n5 : decide (x.time ≤ u.sg.hd.time) = true := by simpa using ht
              have HTF' := hid (show frzB l (knOf u.sg.hd) (l.take (k + 1)) = (b || nbB l x.height u.sg.hd.height) by
                rw [HTF.out, HBF.out]
                unfold offB knOf
                simp only [n3, n2, n4, n5]
                simp)
              clear ht
              cases b with
              | true =>
                have HMK := hid (HSa.out.mark hgl true)
                go_wp2
                go_roundw
                case rel => exact ⟨k + 1, _, by omega, by rw [HHK.out], by go_num, hid ⟨HMK.out, (by rw [HTF'.out]; rfl), by omega⟩⟩
                case measure => simp [intOf]; omega
              | false =>
                go_wp2_with fail
                refine (HNB.out _ _ _ HSa.out.1.1).mono ?_
                rintro e wb ⟨rfl, hbb⟩
                have HSb := hid (HSa.out.below (hbb.mono HSa.out.1.2) hgl hgB)
                have HMK := hid (HSb.out.mark hgl (nbB l x.height u.sg.hd.height))
                clear hbb hwa q0 q1 q2 q3 a0 a1 a2 a3 j0 j1 j2 j3 j4 j5 y0 y1 y2 y3 t0 t1 t2 t3 f0 f1 f2 f3
                obtain ⟨⟨y0, y1, y2, y3⟩, t0, t1, t2, t3⟩ := HSb.out.2.2.1.four
                go_wp2
                go_roundw
                case rel => exact ⟨k + 1, _, by omega, by rw [HHK.out], by go_num, hid ⟨HMK.out, (by rw [HTF'.out]; rfl), by omega⟩⟩
                case measure => simp [intOf]; omega
            · have n5 : decide (x.time ≤ u.sg.hd.time) = false := by simpa using ht
              have HTF' := hid (show b = frzB l (knOf u.sg.hd) (l.take (k + 1)) by
                rw [HTF.out, HBF.out]
                unfold offB knOf
                simp only [n2, n3, n4, n5]
                simp)
              clear ht
              go_wp2
              go_roundw
              case rel => exact ⟨k + 1, _, by omega, by rw [HHK.out], by go_num, hid ⟨HSa.out, HTF'.out, by omega⟩⟩
              case measure => simp [intOf]; omega
        · have hge : decide ((k : Int) < (n : Int)) = false := by simp; omega
          have hkn : l.take k = l := List.take_of_length_le (by rw [HN.out]; omega)
          have HBF := hid (show b = frzB l (knOf u.sg.hd) l by have := HR.out.2.1; rwa [hkn] at this)
          rw [hkn]
          clear hkn
          obtain ⟨⟨a0, a1, a2, a3⟩, -⟩ := HR.out.1.2.1.1.four
          obtain ⟨j0, j1, j2, j3, j4, j5⟩ := HR.out.1.2.1.2.six
          obtain ⟨⟨y0, y1, y2, y3⟩, t0, t1, t2, t3⟩ := HR.out.1.2.2.1.four
          cases hh : hasB u.sg.hd.height l with
          | true =>
            obtain ⟨o, ho⟩ := hasB_yes hh
            have HLE := hid (show learnC c (knOf u.sg.hd) = { c with frozen := !sameK o (knOf u.sg.hd) } by
              unfold learnC
              rw [HLL.out]
              simp only [show (knOf u.sg.hd).height = u.sg.hd.height from rfl, ho])
            have HSMO := hid (HSM.out o ho)
            clear hh ho
            go_wp2_with fail
            refine (HSMO.out _ HR.out.1.1.1).mono ?_
            rintro e wb ⟨rfl, hbb⟩
            have HSb := hid (HR.out.1.below (hbb.mono HR.out.1.1.2) hgl hgB)
            generalize sameK o (knOf u.sg.hd) = z at *
            obtain ⟨wm, hwm⟩ : ∃ wm, wb.setCell ⟨gh + 1, 2, none⟩ (.bool (!z)) = wm := ⟨_, rfl⟩
            have HSm := hid (show FolS w B gh c u oa n ca o1 o2 o3 c1 c2 c3 (!z) (.slice none 0 0) wm by rw [← hwm]; exact HSb.out.mark hgl (!z))
            obtain ⟨wn, hwn⟩ : ∃ wn, wm.setCell ⟨gh + 1, 3, none⟩ (.slice oa n ca) = wn := ⟨_, rfl⟩
            have HSn := hid (show FolS w B gh c u oa n ca o1 o2 o3 c1 c2 c3 (!z) (.slice oa n ca) wn by rw [← hwn]; exact HSm.out.put hgl _)
            clear hbb a0 a1 a2 a3 j0 j1 j2 j3 j4 j5 y0 y1 y2 y3 t0 t1 t2 t3
            obtain ⟨⟨y0, y1, y2, y3⟩, t0, t1, t2, t3⟩ := HSb.out.2.2.1.four
            obtain ⟨⟨a0, a1, a2, a3⟩, -⟩ := HSm.out.2.1.1.four
            obtain ⟨⟨r0, r1, r2, r3⟩, v0, v1, v2, v3⟩ := HSm.out.2.2.1.four
            obtain ⟨⟨k0, k1, k2, k3⟩, -⟩ := HSn.out.2.2.1.four
            have HRZn := hid HSn.out.2.2.2.2
            have HBn := hid HSn.out.1.1
            obtain ⟨⟨x0, x1, x2, x3⟩, z0, z1, z2, z3⟩ := HRZn.out.four
            go_wp2
            have hrz := set4_row HRZn.out (.string c.chain) (.int .i64 c.trust) (.bool (!z)) (.slice oa n ca)
            obtain ⟨⟨u0, u1, u2, u3⟩, -⟩ := hrz.four
            have hbz := set4_below HBn.out (show w.heap.size ≤ w.heap.size + 1 + 1 by omega) (.string c.chain) (.int .i64 c.trust) (.bool (!z)) (.slice oa n ca)
            have hkz := (HK.out.below (hbz.mono hN)).mono (Nat.le_trans hN hbz.size)
            unfold set4 at u0 u1 u2 u3
            refine bodyPost_ret (v := .tuple #[.agg #[.string c.chain, .int .i64 c.trust, .bool (!z), .slice oa n ca], .int .i64 0]) (by simp [results, Tryz.results15, go_sem, u0, u1, u2, u3]) rfl ⟨hbz, oa, n, ca, ?_⟩
            rw [HFC.out, HFE0.out, HLE.out]
            exact ⟨rfl, by rw [HLL.out]; exact hkz⟩
          | false =>
            have HNE := hid (hasB_no hh)
            clear hh
            cases b with
            | true =>
              have HLE := hid (show learnC c (knOf u.sg.hd) = { c with frozen := true } by
                unfold learnC
                rw [HLL.out, atK_of (h := (knOf u.sg.hd).height) HNE.out]
                have := frz_time HRIS.out (f := knOf u.sg.hd) HNE.out
                rw [← HBF.out] at this
                rw [if_neg (by intro h; rw [h] at this; cases this)])
              obtain ⟨wn, hwn⟩ : ∃ wn, wr.setCell ⟨gh + 1, 3, none⟩ (.slice oa n ca) = wn := ⟨_, rfl⟩
              have HSn := hid (show FolS w B gh c u oa n ca o1 o2 o3 c1 c2 c3 true (.slice oa n ca) wn by rw [← hwn]; exact HR.out.1.put hgl _)
              obtain ⟨⟨k0, k1, k2, k3⟩, -⟩ := HSn.out.2.2.1.four
              have HRZn := hid HSn.out.2.2.2.2
              have HBn := hid HSn.out.1.1
              obtain ⟨⟨x0, x1, x2, x3⟩, z0, z1, z2, z3⟩ := HRZn.out.four
              go_wp2
              have hrz := set4_row HRZn.out (.string c.chain) (.int .i64 c.trust) (.bool true) (.slice oa n ca)
              obtain ⟨⟨u0, u1, u2, u3⟩, -⟩ := hrz.four
              have hbz := set4_below HBn.out (show w.heap.size ≤ w.heap.size + 1 + 1 by omega) (.string c.chain) (.int .i64 c.trust) (.bool true) (.slice oa n ca)
              have hkz := (HK.out.below (hbz.mono hN)).mono (Nat.le_trans hN hbz.size)
              unfold set4 at u0 u1 u2 u3
              refine bodyPost_ret (v := .tuple #[.agg #[.string c.chain, .int .i64 c.trust, .bool true, .slice oa n ca], .int .i64 0]) (by simp [results, Tryz.results15, go_sem, u0, u1, u2, u3]) rfl ⟨hbz, oa, n, ca, ?_⟩
              rw [HFC.out, HFE0.out, HLE.out]
              exact ⟨rfl, by rw [HLL.out]; exact hkz⟩
            | false =>
              have HLE := hid (show learnC c (knOf u.sg.hd) = { c with known := cutK (putK l (knOf u.sg.hd)) } by
                unfold learnC
                rw [HLL.out, atK_of (h := (knOf u.sg.hd).height) HNE.out]
                have := frz_time HRIS.out (f := knOf u.sg.hd) HNE.out
                rw [← HBF.out] at this
                rw [if_pos (by simpa using this.symm)])
              have HQF := hid (show KnR.ok w N (⟨knOf u.sg.hd, .slice o1 u.sg.hd.root.length c1, .slice o3 u.sg.hd.next.length c3⟩ : KnR) from ⟨HG1.out, HG3.out⟩)
              have HSR := hid HR.out.1
              clear hge HR HBF
              clear j0 j1 j2 j3 j4 j5
              go_wp2_with fail
              clear a0 a1 a2 a3 y0 y1 y2 y3 t0 t1 t2 t3
              go_loopw [13, 17, 140] (fun s13 _ s140 wx => ∃ (k : Nat) (v : Value) (ps : List KnR), k ≤ n ∧ s13 = .bool (runK (knOf u.sg.hd) (l.take k)).2 ∧ s140 = .int .i64 (k : Int) ∧ Hid (FolS w B gh c u oa n ca o1 o2 o3 c1 c2 c3 false v wx ∧ (ps.map (·.k) = (runK (knOf u.sg.hd) (l.take k)).1 ∧ RowKn wx B v (ps.map knRow)) ∧ ∀ q ∈ ps, q.ok w N)) (fun _ _ s140 _ => n - (intOf s140).toNat)
              case atStart => exact ⟨0, .slice none 0 0, [], Nat.zero_le _, rfl, rfl, hid ⟨HSR.out, ⟨rfl, RowKn.nil _ _⟩, fun _ h => by cases h⟩⟩
              case round =>
                obtain ⟨k, v, ps, hk, rfl, rfl, HR⟩ := hrel
                have hBr := HR.out.1.1.2
                have HPL := hid (show ps.length ≤ 40 by
                  have h1 := congrArg List.length HR.out.2.1.1
                  rw [List.length_map] at h1
                  have h2 := (runK_len (knOf u.sg.hd) (l.take k)).1
                  rw [List.length_take] at h2
                  omega)
                by_cases hlt : k < n
                · have hlt' : (k : Int) < (n : Int) := by omega
                  obtain ⟨x, hx⟩ : ∃ x, l[k]? = some x := ⟨l[k]'(by rw [HN.out]; exact hlt), List.getElem?_eq_getElem _⟩
                  obtain ⟨bk, o, rfl, hcells⟩ := HK.out.spot (by omega)
                  obtain ⟨hbN, vr, vn, d0, d1, d2, d3, b2, b3⟩ := hcells k x hx
                  obtain ⟨p2, e2, rfl, -⟩ := b2.shape
                  obtain ⟨p3, e3, rfl, -⟩ := b3.shape
                  have hbl : bk < w.heap.size := by omega
                  have f0 := (HR.out.1.1.1.cell (p := ⟨bk, o + k * 4, none⟩) hbl).trans d0
                  have f1 := (HR.out.1.1.1.cell (p := ⟨bk, o + k * 4 + 1, none⟩) hbl).trans d1
                  have f2 := (HR.out.1.1.1.cell (p := ⟨bk, o + k * 4 + 2, none⟩) hbl).trans d2
                  have f3 := (HR.out.1.1.1.cell (p := ⟨bk, o + k * 4 + 3, none⟩) hbl).trans d3
                  obtain ⟨wa, hwa⟩ : ∃ wa, wr.alloc (.cells #[.int .i64 x.height, .int .i64 x.time, .slice p2 x.root.length e2, .slice p3 x.next.length e3] 27) = wa := ⟨_, rfl⟩
                  have hba : Below wr.heap.size wr wa := by rw [← hwa]; exact (Below.refl _ _).alloc (Nat.le_refl _) _
                  have HSa := hid (HR.out.1.below (hba.mono hBr) hgl hgB)
                  have HOa := hid (HR.out.2.1.2.below hba)
                  have HRXa := hid (show Row wa wr.heap.size 27 [.int .i64 x.height, .int .i64 x.time, .slice p2 x.root.length e2, .slice p3 x.next.length e3] by rw [← hwa]; exact Row.new _ _ _)
                  have HQX := hid (show KnR.ok w N (⟨x, .slice p2 x.root.length e2, .slice p3 x.next.length e3⟩ : KnR) from ⟨b2, b3⟩)
                  have HRT := hid (runK_take (knOf u.sg.hd) l k x hx)
                  obtain ⟨⟨q0, q1, q2, q3⟩, -⟩ := HRXa.out.four
                  obtain ⟨j0, j1, j2, j3, j4, j5⟩ := HSa.out.2.1.2.six
                  obtain ⟨⟨y0, y1, y2, y3⟩, t0, t1, t2, t3⟩ := HSa.out.2.2.1.four
                  obtain ⟨⟨k0, k1, k2, k3⟩, -⟩ := HSa.out.2.2.2.1.four
                  clear hcells d0 d1 d2 d3 b2 b3 hx hba
                  have HXN := hid (show some wr.heap.size ≠ v.ownBlock from fun hq => by have := (World.ownsRow.lt HR.out.2.1.2.2 _ hq.symm).2; omega)
                  have HMP := hid HR.out.2.1.1
                  have HAL := hid HR.out.2.2
                  generalize hrk : runK (knOf u.sg.hd) (l.take k) = rk at *
                  obtain ⟨rl, rb⟩ := rk
                  clear hrk
                  cases rb with
                  | true =>
                    obtain ⟨wb1, hwb1⟩ : ∃ wb, wa.alloc (.cells #[.int .i64 x.height, .int .i64 x.time, .slice p2 x.root.length e2, .slice p3 x.next.length e3] 27) = wb := ⟨_, rfl⟩
                    have hbb1 : Below wa.heap.size wa wb1 := by rw [← hwb1]; exact (Below.refl _ _).alloc (Nat.le_refl _) _
                    have HRb1 := hid (show Row wb1 wa.heap.size 27 (knRow (⟨x, .slice p2 x.root.length e2, .slice p3 x.next.length e3⟩ : KnR)) by rw [← hwb1]; exact Row.new _ _ _)
                    have HSb1 := hid (HSa.out.below (hbb1.mono HSa.out.1.2) hgl hgB)
                    have HOb1 := hid (HOa.out.below hbb1)
                    have hB1 : B ≤ wb1.heap.size := HSb1.out.1.2
                    have HWB1 := hid hbb1
                    clear hbb1
                    go_wp2_with (at_builtin; refine Hid.out ?_)
                    refine hid ?_
                    refine wpList_appendKn rfl (.tmp 160) (.tmp 162) rfl B _ _ rfl HOb1.out _ [knRow (⟨x, .slice p2 x.root.length e2, .slice p3 x.next.length e3⟩ : KnR)] rfl (oneKn HRb1.out) (by intro r hr; rw [List.mem_singleton.1 hr]; exact HQX.out.row) (by have := HPL.out; simp; omega) hB1 ?_
                    intro v1 wc1 g1 g2 g3
                    obtain ⟨oc1, nc1, cc1, rfl⟩ : ∃ oc nc cc, v1 = .slice oc nc cc := (by obtain ⟨a, b, h, -⟩ := g1.shape; exact ⟨a, _, b, h⟩)
                    have HOc1 := hid g1
                    have HSc1 := hid (HSb1.out.below g2 hgl hgB)
                    have HGc1 := hid g2
                    clear g1 g2 g3 hwb1 q0 q1 q2 q3 j0 j1 j2 j3 j4 j5 y0 y1 y2 y3 t0 t1 t2 t3 k0 k1 k2 k3 f0 f1 f2 f3 hwa
                    obtain ⟨wd1, hwd1⟩ : ∃ wd, wc1.setCell ⟨gh + 1, 3, none⟩ (.slice oc1 nc1 cc1) = wd := ⟨_, rfl⟩
                    have hS1 := HSc1.out.put hgl (.slice oc1 nc1 cc1)
                    rw [hwd1] at hS1
                    have HSd1 := hid hS1
                    clear hS1
                    have HOd1 := hid (show RowKn wd1 B (.slice oc1 nc1 cc1) ((ps ++ [(⟨x, .slice p2 x.root.length e2, .slice p3 x.next.length e3⟩ : KnR)]).map knRow) by rw [← hwd1, List.map_append]; exact HOc1.out.keep (fun g hg => heap_setCell_other _ _ _ _ (show g ≠ gh + 1 by omega)))
                    obtain ⟨⟨r10, r11, r12, r13⟩, s10, s11, s12, s13⟩ := HSc1.out.2.2.1.four
                    go_wp2
                    go_roundw
                    case rel => exact ⟨k + 1, (.slice oc1 nc1 cc1), ps ++ [(⟨x, .slice p2 x.root.length e2, .slice p3 x.next.length e3⟩ : KnR)], by omega, by rw [HRT.out]; simp [stepK], by go_num, hid ⟨HSd1.out, ⟨by rw [List.map_append, HMP.out, HRT.out]; simp [stepK], HOd1.out⟩, fun q hq => by rcases List.mem_append.1 hq with h | h; exact HAL.out q h; rw [List.mem_singleton.1 h]; exact HQX.out⟩⟩
                    case measure => simp [intOf]; omega
                  | false =>
                    by_cases hgt : u.sg.hd.height < x.height
                    · have n1 : decide (u.sg.hd.height < x.height) = true := by simpa using hgt
                      have HGT := hid hgt
                      clear hgt
                      obtain ⟨wb1, hwb1⟩ : ∃ wb, wa.alloc (.cells #[.int .i64 u.sg.hd.height, .int .i64 u.sg.hd.time, .slice o1 u.sg.hd.root.length c1, .slice o3 u.sg.hd.next.length c3] 27) = wb := ⟨_, rfl⟩
                      have hbb1 : Below wa.heap.size wa wb1 := by rw [← hwb1]; exact (Below.refl _ _).alloc (Nat.le_refl _) _
                      have HRb1 := hid (show Row wb1 wa.heap.size 27 (knRow (⟨knOf u.sg.hd, .slice o1 u.sg.hd.root.length c1, .slice o3 u.sg.hd.next.length c3⟩ : KnR)) by rw [← hwb1]; exact Row.new _ _ _)
                      have HSb1 := hid (HSa.out.below (hbb1.mono HSa.out.1.2) hgl hgB)
                      have HOb1 := hid (HOa.out.below hbb1)
                      have hB1 : B ≤ wb1.heap.size := HSb1.out.1.2
                      have HWB1 := hid hbb1
                      clear hbb1
                      go_wp2_with (at_builtin; refine Hid.out ?_)
                      refine hid ?_
                      refine wpList_appendKn rfl (.tmp 154) (.tmp 156) rfl B _ _ rfl HOb1.out _ [knRow (⟨knOf u.sg.hd, .slice o1 u.sg.hd.root.length c1, .slice o3 u.sg.hd.next.length c3⟩ : KnR)] rfl (oneKn HRb1.out) (by intro r hr; rw [List.mem_singleton.1 hr]; exact HQF.out.row) (by have := HPL.out; simp; omega) hB1 ?_
                      intro v1 wc1 g1 g2 g3
                      obtain ⟨oc1, nc1, cc1, rfl⟩ : ∃ oc nc cc, v1 = .slice oc nc cc := (by obtain ⟨a, b, h, -⟩ := g1.shape; exact ⟨a, _, b, h⟩)
                      have HOc1 := hid g1
                      have HSc1 := hid (HSb1.out.below g2 hgl hgB)
                      have HGc1 := hid g2
                      have GRW := hid (fun g h1 h2 => g3.block g h1 h2)
                      clear g1 g2 g3 hwb1 q0 q1 q2 q3 j0 j1 j2 j3 j4 j5 y0 y1 y2 y3 t0 t1 t2 t3 k0 k1 k2 k3 f0 f1 f2 f3 hwa
                      obtain ⟨wd1, hwd1⟩ : ∃ wd, wc1.setCell ⟨gh + 1, 3, none⟩ (.slice oc1 nc1 cc1) = wd := ⟨_, rfl⟩
                      have hS1 := HSc1.out.put hgl (.slice oc1 nc1 cc1)
                      rw [hwd1] at hS1
                      have HSd1 := hid hS1
                      clear hS1
                      have HOd1 := hid (show RowKn wd1 B (.slice oc1 nc1 cc1) ((ps ++ [(⟨knOf u.sg.hd, .slice o1 u.sg.hd.root.length c1, .slice o3 u.sg.hd.next.length c3⟩ : KnR)]).map knRow) by rw [← hwd1, List.map_append]; exact HOc1.out.keep (fun g hg => heap_setCell_other _ _ _ _ (show g ≠ gh + 1 by omega)))
                      obtain ⟨⟨r10, r11, r12, r13⟩, s10, s11, s12, s13⟩ := HSc1.out.2.2.1.four
                      have HRX1 := hid (show Row wd1 wr.heap.size 27 [.int .i64 x.height, .int .i64 x.time, .slice p2 x.root.length e2, .slice p3 x.next.length e3] by rw [← hwd1]; refine setCell_row ?_ _ _ (by omega); have hlt9 := HRXa.out.lt; have hsz9 := HWB1.out.size; have hr := HRXa.out.below HWB1.out HRXa.out.lt; unfold Row at hr ⊢; rw [GRW.out wr.heap.size (by omega) HXN.out]; exact hr)
                      have HSZ1 := hid HSd1.out.1.2
                      obtain ⟨⟨u0, u1, u2, u3⟩, -⟩ := HRX1.out.four
                      obtain ⟨⟨m0, m1, m2, m3⟩, l0, l1, l2, l3⟩ := HSd1.out.2.2.1.four
                      obtain ⟨wb2, hwb2⟩ : ∃ wb, wd1.alloc (.cells #[.int .i64 x.height, .int .i64 x.time, .slice p2 x.root.length e2, .slice p3 x.next.length e3] 27) = wb := ⟨_, rfl⟩
                      have hbb2 : Below wd1.heap.size wd1 wb2 := (by rw [← hwb2]; exact (Below.refl _ _).alloc (Nat.le_refl _) _)
                      have HRb2 := hid (show Row wb2 wd1.heap.size 27 (knRow (⟨x, .slice p2 x.root.length e2, .slice p3 x.next.length e3⟩ : KnR)) by rw [← hwb2]; exact Row.new _ _ _)
                      have HSb2 := hid (HSd1.out.below (hbb2.mono HSd1.out.1.2) hgl hgB)
                      have HOb2 := hid (HOd1.out.below hbb2)
                      have hB2 : B ≤ wb2.heap.size := HSb2.out.1.2
                      clear hbb2
                      go_wp2_with (at_builtin; refine Hid.out ?_)
                      refine hid ?_
                      refine wpList_appendKn rfl (.tmp 160) (.tmp 162) rfl B _ _ rfl HOb2.out _ [knRow (⟨x, .slice p2 x.root.length e2, .slice p3 x.next.length e3⟩ : KnR)] rfl (oneKn HRb2.out) (by intro r hr; rw [List.mem_singleton.1 hr]; exact HQX.out.row) (by have := HPL.out; simp; omega) hB2 ?_
                      intro v2 wc2 g1 g2 g3
                      obtain ⟨oc2, nc2, cc2, rfl⟩ : ∃ oc nc cc, v2 = .slice oc nc cc := (by obtain ⟨a, b, h, -⟩ := g1.shape; exact ⟨a, _, b, h⟩)
                      have HOc2 := hid g1
                      have HSc2 := hid (HSb2.out.below g2 hgl hgB)
                      have HGc2 := hid g2
                      clear g1 g2 g3 hwb2 u0 u1 u2 u3
                      obtain ⟨wd2, hwd2⟩ : ∃ wd, wc2.setCell ⟨gh + 1, 3, none⟩ (.slice oc2 nc2 cc2) = wd := ⟨_, rfl⟩
                      have hS2 := HSc2.out.put hgl (.slice oc2 nc2 cc2)
                      rw [hwd2] at hS2
                      have HSd2 := hid hS2
                      clear hS2
                      have HOd2 := hid (show RowKn wd2 B (.slice oc2 nc2 cc2) ((ps ++ [(⟨knOf u.sg.hd, .slice o1 u.sg.hd.root.length c1, .slice o3 u.sg.hd.next.length c3⟩ : KnR)] ++ [(⟨x, .slice p2 x.root.length e2, .slice p3 x.next.length e3⟩ : KnR)]).map knRow) by rw [← hwd2, List.map_append]; exact HOc2.out.keep (fun g hg => heap_setCell_other _ _ _ _ (show g ≠ gh + 1 by omega)))
                      obtain ⟨⟨r20, r21, r22, r23⟩, s20, s21, s22, s23⟩ := HSc2.out.2.2.1.four
                      go_wp2
                      go_roundw
                      case rel => exact ⟨k + 1, (.slice oc2 nc2 cc2), ps ++ [(⟨knOf u.sg.hd, .slice o1 u.sg.hd.root.length c1, .slice o3 u.sg.hd.next.length c3⟩ : KnR)] ++ [(⟨x, .slice p2 x.root.length e2, .slice p3 x.next.length e3⟩ : KnR)], by omega, by rw [HRT.out]; simp [stepK, knOf, HGT.out], by go_num, hid ⟨HSd2.out, ⟨by rw [List.map_append, List.map_append, HMP.out, HRT.out]; simp [stepK, knOf, HGT.out], HOd2.out⟩, fun q hq => by rcases List.mem_append.1 hq with h | h; rcases List.mem_append.1 h with h | h; exact HAL.out q h; rw [List.mem_singleton.1 h]; exact HQF.out; rw [List.mem_singleton.1 h]; exact HQX.out⟩⟩
                      case measure => simp [intOf]; omega
                    · have n1 : decide (u.sg.hd.height < x.height) = false := by simpa using hgt
                      have HGT := hid hgt
                      clear hgt
                      obtain ⟨wb1, hwb1⟩ : ∃ wb, wa.alloc (.cells #[.int .i64 x.height, .int .i64 x.time, .slice p2 x.root.length e2, .slice p3 x.next.length e3] 27) = wb := ⟨_, rfl⟩
                      have hbb1 : Below wa.heap.size wa wb1 := by rw [← hwb1]; exact (Below.refl _ _).alloc (Nat.le_refl _) _
                      have HRb1 := hid (show Row wb1 wa.heap.size 27 (knRow (⟨x, .slice p2 x.root.length e2, .slice p3 x.next.length e3⟩ : KnR)) by rw [← hwb1]; exact Row.new _ _ _)
                      have HSb1 := hid (HSa.out.below (hbb1.mono HSa.out.1.2) hgl hgB)
                      have HOb1 := hid (HOa.out.below hbb1)
                      have hB1 : B ≤ wb1.heap.size := HSb1.out.1.2
                      have HWB1 := hid hbb1
                      clear hbb1
                      go_wp2_with (at_builtin; refine Hid.out ?_)
                      refine hid ?_
                      refine wpList_appendKn rfl (.tmp 160) (.tmp 162) rfl B _ _ rfl HOb1.out _ [knRow (⟨x, .slice p2 x.root.length e2, .slice p3 x.next.length e3⟩ : KnR)] rfl (oneKn HRb1.out) (by intro r hr; rw [List.mem_singleton.1 hr]; exact HQX.out.row) (by have := HPL.out; simp; omega) hB1 ?_
                      intro v1 wc1 g1 g2 g3
                      obtain ⟨oc1, nc1, cc1, rfl⟩ : ∃ oc nc cc, v1 = .slice oc nc cc := (by obtain ⟨a, b, h, -⟩ := g1.shape; exact ⟨a, _, b, h⟩)
                      have HOc1 := hid g1
                      have HSc1 := hid (HSb1.out.below g2 hgl hgB)
                      have HGc1 := hid g2
                      clear g1 g2 g3 hwb1 q0 q1 q2 q3 j0 j1 j2 j3 j4 j5 y0 y1 y2 y3 t0 t1 t2 t3 k0 k1 k2 k3 f0 f1 f2 f3 hwa
                      obtain ⟨wd1, hwd1⟩ : ∃ wd, wc1.setCell ⟨gh + 1, 3, none⟩ (.slice oc1 nc1 cc1) = wd := ⟨_, rfl⟩
                      have hS1 := HSc1.out.put hgl (.slice oc1 nc1 cc1)
                      rw [hwd1] at hS1
                      have HSd1 := hid hS1
                      clear hS1
                      have HOd1 := hid (show RowKn wd1 B (.slice oc1 nc1 cc1) ((ps ++ [(⟨x, .slice p2 x.root.length e2, .slice p3 x.next.length e3⟩ : KnR)]).map knRow) by rw [← hwd1, List.map_append]; exact HOc1.out.keep (fun g hg => heap_setCell_other _ _ _ _ (show g ≠ gh + 1 by omega)))
                      obtain ⟨⟨r10, r11, r12, r13⟩, s10, s11, s12, s13⟩ := HSc1.out.2.2.1.four
                      go_wp2
                      go_roundw
                      case rel => exact ⟨k + 1, (.slice oc1 nc1 cc1), ps ++ [(⟨x, .slice p2 x.root.length e2, .slice p3 x.next.length e3⟩ : KnR)], by omega, by rw [HRT.out]; rw [stepK_no (f := knOf u.sg.hd) (show ¬ u.sg.hd.height < x.height by have := HGT.out; omega)]; first | done | rfl, by go_num, hid ⟨HSd1.out, ⟨by rw [List.map_append, HMP.out, HRT.out, stepK_no (f := knOf u.sg.hd) (show ¬ u.sg.hd.height < x.height by have := HGT.out; omega)]; first | done | rfl, HOd1.out⟩, fun q hq => by rcases List.mem_append.1 hq with h | h; exact HAL.out q h; rw [List.mem_singleton.1 h]; exact HQX.out⟩⟩
                      case measure => simp [intOf]; omega
                · have hge : decide ((k : Int) < (n : Int)) = false := by simp; omega
                  have hkn : l.take k = l := List.take_of_length_le (by rw [HN.out]; omega)
                  have HMP := hid HR.out.2.1.1
                  have HAL := hid HR.out.2.2
                  have HPE := hid (runK_end HRIS.out (f := knOf u.sg.hd) HNE.out)
                  have HSr := hid HR.out.1
                  have HOr := hid HR.out.2.1.2
                  rw [hkn] at HMP
                  rw [hkn]
                  clear hkn HR
                  generalize hrk : runK (knOf u.sg.hd) l = rk at *
                  obtain ⟨rl, rb⟩ := rk
                  clear hrk
                  obtain ⟨ov, nv, cv, rfl⟩ : ∃ oc nc cc, v = .slice oc nc cc := by obtain ⟨a, b, h, -⟩ := HOr.out.shape; exact ⟨a, _, b, h⟩
                  cases rb with
                  | true =>
                    have HP := hid (show ps.map (·.k) = putK l (knOf u.sg.hd) by rw [HMP.out, ← HPE.out]; rfl)
                    have HALL := hid HAL.out
                    have HNV := hid (show nv = (ps).length by obtain ⟨a, b, h, -⟩ := HOr.out.shape; rw [List.length_map] at h; simpa using (Value.slice.inj h).2.1)
                    have HKN := hid (show Knowns wr wr.heap.size (.slice ov nv cv) (putK l (knOf u.sg.hd)) from ⟨ps, HP.out, HOr.out.recs, fun q hq => ⟨((HALL.out q hq).1.below (HSr.out.1.1.mono hN)).mono (Nat.le_trans hN HSr.out.1.1.size), ((HALL.out q hq).2.below (HSr.out.1.1.mono hN)).mono (Nat.le_trans hN HSr.out.1.1.size)⟩⟩)
                    have HLN := hid (show (putK l (knOf u.sg.hd)).length = nv by rw [HNV.out, ← HP.out, List.length_map])
                    have HRZe := hid HSr.out.2.2.2.2
                    have HBe := hid HSr.out.1.1
                    obtain ⟨⟨m0, m1, m2, m3⟩, l0, l1, l2, l3⟩ := HSr.out.2.2.1.four
                    by_cases h30 : 30 < nv
                    · have e30 : decide (30 < (nv : Int)) = true := by simp; omega
                      obtain ⟨g9, c9, cs9, hv9, hb9, -, hc9, hm9, -⟩ := HOr.out.row (by rw [List.length_map, ← HNV.out]; omega)
                      have hi9 := Value.slice.inj hv9
                      obtain ⟨rfl, -, rfl⟩ := hi9
                      rw [List.length_map, ← HNV.out] at hc9
                      have hs1 : (1 : Int) ≤ (nv : Int) := by omega
                      have hs2 : (nv : Int) ≤ (cv : Int) := by omega
                      have hs3 : 1 ≤ nv := by omega
                      have hs4 : ¬ cv - 1 = 0 := by omega
                      have hs5 : ¬ cv ≤ 1 := by omega
                      have hs6 : 1 < cv := by omega
                      have hs7 : (cv - 1 == 0) = false := by simpa using hs4
                      have HCU := hid (show cutK (putK l (knOf u.sg.hd)) = (putK l (knOf u.sg.hd)).drop 1 by unfold cutK; rw [HLN.out, if_pos h30])
                      obtain ⟨wn, hwn⟩ : ∃ wn, wr.setCell ⟨gh + 1, 3, none⟩ (.slice (some ⟨g9, 4, none⟩) (nv - 1) (cv - 1)) = wn := ⟨_, rfl⟩
                      have hSn := HSr.out.put hgl (.slice (some ⟨g9, 4, none⟩) (nv - 1) (cv - 1))
                      have hKn := (HKN.out.tail hs3).cl (w' := wr.setCell ⟨gh + 1, 3, none⟩ (.slice (some ⟨g9, 4, none⟩) (nv - 1) (cv - 1))) HSr.out.2.2.1 (fun q hq => heap_setCell_other _ _ _ _ hq)
                      rw [hwn] at hSn hKn
                      have HKt := hid (hKn.mono (show wr.heap.size ≤ wn.heap.size by rw [← hwn]; simp [World.setCell]))
                      have HRZt := hid hSn.2.2.2.2
                      have HBt := hid hSn.1.1
                      obtain ⟨⟨b0, b1, b2, b3⟩, -⟩ := hSn.2.2.1.four
                      clear hv9 hSn hKn h30
                      obtain ⟨⟨x0, x1, x2, x3⟩, z0, z1, z2, z3⟩ := HRZt.out.four
                      go_wp2
                      have hrz := set4_row HRZt.out (.string c.chain) (.int .i64 c.trust) (.bool false) (.slice (some ⟨g9, 4, none⟩) (nv - 1) (cv - 1))
                      obtain ⟨⟨u0, u1, u2, u3⟩, -⟩ := hrz.four
                      have hbz := set4_below HBt.out (show w.heap.size ≤ w.heap.size + 1 + 1 by omega) (.string c.chain) (.int .i64 c.trust) (.bool false) (.slice (some ⟨g9, 4, none⟩) (nv - 1) (cv - 1))
                      have hkz := (HKt.out.cl HRZt.out (set4_other wn (w.heap.size + 1 + 1) (.string c.chain) (.int .i64 c.trust) (.bool false) (.slice (some ⟨g9, 4, none⟩) (nv - 1) (cv - 1)))).mono (Nat.le_of_eq (set4_size wn (w.heap.size + 1 + 1) (.string c.chain) (.int .i64 c.trust) (.bool false) (.slice (some ⟨g9, 4, none⟩) (nv - 1) (cv - 1))).symm)
                      unfold set4 at u0 u1 u2 u3
                      refine bodyPost_ret (v := .tuple #[.agg #[.string c.chain, .int .i64 c.trust, .bool false, .slice (some ⟨g9, 4, none⟩) (nv - 1) (cv - 1)], .int .i64 0]) (by simp [results, Tryz.results15, go_sem, u0, u1, u2, u3]) rfl ⟨hbz, some ⟨g9, 4, none⟩, nv - 1, cv - 1, ?_⟩
                      rw [HFC.out, HFE0.out, HLE.out, HCU.out]
                      exact ⟨by rw [HFZ.out], hkz⟩
                    · have e30 : decide (30 < (nv : Int)) = false := by simp; omega
                      have HCU := hid (show cutK (putK l (knOf u.sg.hd)) = putK l (knOf u.sg.hd) by unfold cutK; rw [HLN.out, if_neg h30])
                      clear h30
                      obtain ⟨⟨x0, x1, x2, x3⟩, z0, z1, z2, z3⟩ := HRZe.out.four
                      go_wp2
                      have hrz := set4_row HRZe.out (.string c.chain) (.int .i64 c.trust) (.bool false) (.slice ov nv cv)
                      obtain ⟨⟨u0, u1, u2, u3⟩, -⟩ := hrz.four
                      have hbz := set4_below HBe.out (show w.heap.size ≤ w.heap.size + 1 + 1 by omega) (.string c.chain) (.int .i64 c.trust) (.bool false) (.slice ov nv cv)
                      have hkz := (HKN.out.cl HRZe.out (set4_other wr (w.heap.size + 1 + 1) (.string c.chain) (.int .i64 c.trust) (.bool false) (.slice ov nv cv))).mono (Nat.le_of_eq (set4_size wr (w.heap.size + 1 + 1) (.string c.chain) (.int .i64 c.trust) (.bool false) (.slice ov nv cv)).symm)
                      unfold set4 at u0 u1 u2 u3
                      refine bodyPost_ret (v := .tuple #[.agg #[.string c.chain, .int .i64 c.trust, .bool false, .slice ov nv cv], .int .i64 0]) (by simp [results, Tryz.results15, go_sem, u0, u1, u2, u3]) rfl ⟨hbz, ov, nv, cv, ?_⟩
                      rw [HFC.out, HFE0.out, HLE.out, HCU.out]
                      exact ⟨by rw [HFZ.out], hkz⟩
                  | false =>
                    have HP := hid (show (ps ++ [(⟨knOf u.sg.hd, .slice o1 u.sg.hd.root.length c1, .slice o3 u.sg.hd.next.length c3⟩ : KnR)]).map (·.k) = putK l (knOf u.sg.hd) by rw [List.map_append, HMP.out, ← HPE.out]; rfl)
                    have HALL := hid (show ∀ q ∈ ps ++ [(⟨knOf u.sg.hd, .slice o1 u.sg.hd.root.length c1, .slice o3 u.sg.hd.next.length c3⟩ : KnR)], q.ok w N from fun q hq => by rcases List.mem_append.1 hq with h | h; exact HAL.out q h; rw [List.mem_singleton.1 h]; exact HQF.out)
                    obtain ⟨⟨y0, y1, y2, y3⟩, t0, t1, t2, t3⟩ := HSr.out.2.2.1.four
                    obtain ⟨⟨k0, k1, k2, k3⟩, -⟩ := HSr.out.2.2.2.1.four
                    obtain ⟨wb1, hwb1⟩ : ∃ wb, wr.alloc (.cells #[.int .i64 u.sg.hd.height, .int .i64 u.sg.hd.time, .slice o1 u.sg.hd.root.length c1, .slice o3 u.sg.hd.next.length c3] 27) = wb := ⟨_, rfl⟩
                    have hbb1 : Below wr.heap.size wr wb1 := by rw [← hwb1]; exact (Below.refl _ _).alloc (Nat.le_refl _) _
                    have HRb1 := hid (show Row wb1 wr.heap.size 27 (knRow (⟨knOf u.sg.hd, .slice o1 u.sg.hd.root.length c1, .slice o3 u.sg.hd.next.length c3⟩ : KnR)) by rw [← hwb1]; exact Row.new _ _ _)
                    have HSb1 := hid (HSr.out.below (hbb1.mono HSr.out.1.2) hgl hgB)
                    have HOb1 := hid (HOr.out.below hbb1)
                    have hB1 : B ≤ wb1.heap.size := HSb1.out.1.2
                    have HWB1 := hid hbb1
                    clear hbb1
                    go_wp2_with (at_builtin; refine Hid.out ?_)
                    refine hid ?_
                    refine wpList_appendKn rfl (.tmp 169) (.tmp 171) rfl B _ _ rfl HOb1.out _ [knRow (⟨knOf u.sg.hd, .slice o1 u.sg.hd.root.length c1, .slice o3 u.sg.hd.next.length c3⟩ : KnR)] rfl (oneKn HRb1.out) (by intro r hr; rw [List.mem_singleton.1 hr]; exact HQF.out.row) (by have := HPL.out; simp; omega) hB1 ?_
                    intro v1 wc1 g1 g2 g3
                    obtain ⟨oc1, nc1, cc1, rfl⟩ : ∃ oc nc cc, v1 = .slice oc nc cc := (by obtain ⟨a, b, h, -⟩ := g1.shape; exact ⟨a, _, b, h⟩)
                    have HOc1 := hid g1
                    have HSc1 := hid (HSb1.out.below g2 hgl hgB)
                    have HGc1 := hid g2
                    clear g1 g2 g3 hwb1 y0 y1 y2 y3 t0 t1 t2 t3 k0 k1 k2 k3
                    obtain ⟨wd1, hwd1⟩ : ∃ wd, wc1.setCell ⟨gh + 1, 3, none⟩ (.slice oc1 nc1 cc1) = wd := ⟨_, rfl⟩
                    have hS1 := HSc1.out.put hgl (.slice oc1 nc1 cc1)
                    rw [hwd1] at hS1
                    have HSd1 := hid hS1
                    clear hS1
                    have HOd1 := hid (show RowKn wd1 B (.slice oc1 nc1 cc1) ((ps ++ [(⟨knOf u.sg.hd, .slice o1 u.sg.hd.root.length c1, .slice o3 u.sg.hd.next.length c3⟩ : KnR)]).map knRow) by rw [← hwd1, List.map_append]; exact HOc1.out.keep (fun g hg => heap_setCell_other _ _ _ _ (show g ≠ gh + 1 by omega)))
                    obtain ⟨⟨r10, r11, r12, r13⟩, s10, s11, s12, s13⟩ := HSc1.out.2.2.1.four
                    have HNV := hid (show nc1 = (ps ++ [(⟨knOf u.sg.hd, .slice o1 u.sg.hd.root.length c1, .slice o3 u.sg.hd.next.length c3⟩ : KnR)]).length by obtain ⟨a, b, h, -⟩ := HOd1.out.shape; rw [List.length_map] at h; simpa using (Value.slice.inj h).2.1)
                    have HKN := hid (show Knowns wd1 wd1.heap.size (.slice oc1 nc1 cc1) (putK l (knOf u.sg.hd)) from ⟨ps ++ [(⟨knOf u.sg.hd, .slice o1 u.sg.hd.root.length c1, .slice o3 u.sg.hd.next.length c3⟩ : KnR)], HP.out, HOd1.out.recs, fun q hq => ⟨((HALL.out q hq).1.below (HSd1.out.1.1.mono hN)).mono (Nat.le_trans hN HSd1.out.1.1.size), ((HALL.out q hq).2.below (HSd1.out.1.1.mono hN)).mono (Nat.le_trans hN HSd1.out.1.1.size)⟩⟩)
                    have HLN := hid (show (putK l (knOf u.sg.hd)).length = nc1 by rw [HNV.out, ← HP.out, List.length_map])
                    have HRZe := hid HSd1.out.2.2.2.2
                    have HBe := hid HSd1.out.1.1
                    obtain ⟨⟨m0, m1, m2, m3⟩, l0, l1, l2, l3⟩ := HSd1.out.2.2.1.four
                    by_cases h30 : 30 < nc1
                    · have e30 : decide (30 < (nc1 : Int)) = true := by simp; omega
                      obtain ⟨g9, c9, cs9, hv9, hb9, -, hc9, hm9, -⟩ := HOd1.out.row (by rw [List.length_map, ← HNV.out]; omega)
                      have hi9 := Value.slice.inj hv9
                      obtain ⟨rfl, -, rfl⟩ := hi9
                      rw [List.length_map, ← HNV.out] at hc9
                      have hs1 : (1 : Int) ≤ (nc1 : Int) := by omega
                      have hs2 : (nc1 : Int) ≤ (cc1 : Int) := by omega
                      have hs3 : 1 ≤ nc1 := by omega
                      have hs4 : ¬ cc1 - 1 = 0 := by omega
                      have hs5 : ¬ cc1 ≤ 1 := by omega
                      have hs6 : 1 < cc1 := by omega
                      have hs7 : (cc1 - 1 == 0) = false := by simpa using hs4
                      have HCU := hid (show cutK (putK l (knOf u.sg.hd)) = (putK l (knOf u.sg.hd)).drop 1 by unfold cutK; rw [HLN.out, if_pos h30])
                      obtain ⟨wn, hwn⟩ : ∃ wn, wd1.setCell ⟨gh + 1, 3, none⟩ (.slice (some ⟨g9, 4, none⟩) (nc1 - 1) (cc1 - 1)) = wn := ⟨_, rfl⟩
                      have hSn := HSd1.out.put hgl (.slice (some ⟨g9, 4, none⟩) (nc1 - 1) (cc1 - 1))
                      have hKn := (HKN.out.tail hs3).cl (w' := wd1.setCell ⟨gh + 1, 3, none⟩ (.slice (some ⟨g9, 4, none⟩) (nc1 - 1) (cc1 - 1))) HSd1.out.2.2.1 (fun q hq => heap_setCell_other _ _ _ _ hq)
                      rw [hwn] at hSn hKn
                      have HKt := hid (hKn.mono (show wd1.heap.size ≤ wn.heap.size by rw [← hwn]; simp [World.setCell]))
                      have HRZt := hid hSn.2.2.2.2
                      have HBt := hid hSn.1.1
                      obtain ⟨⟨b0, b1, b2, b3⟩, -⟩ := hSn.2.2.1.four
                      clear hv9 hSn hKn h30
                      obtain ⟨⟨x0, x1, x2, x3⟩, z0, z1, z2, z3⟩ := HRZt.out.four
                      go_wp2
                      have hrz := set4_row HRZt.out (.string c.chain) (.int .i64 c.trust) (.bool false) (.slice (some ⟨g9, 4, none⟩) (nc1 - 1) (cc1 - 1))
                      obtain ⟨⟨u0, u1, u2, u3⟩, -⟩ := hrz.four
                      have hbz := set4_below HBt.out (show w.heap.size ≤ w.heap.size + 1 + 1 by omega) (.string c.chain) (.int .i64 c.trust) (.bool false) (.slice (some ⟨g9, 4, none⟩) (nc1 - 1) (cc1 - 1))
                      have hkz := (HKt.out.cl HRZt.out (set4_other wn (w.heap.size + 1 + 1) (.string c.chain) (.int .i64 c.trust) (.bool false) (.slice (some ⟨g9, 4, none⟩) (nc1 - 1) (cc1 - 1)))).mono (Nat.le_of_eq (set4_size wn (w.heap.size + 1 + 1) (.string c.chain) (.int .i64 c.trust) (.bool false) (.slice (some ⟨g9, 4, none⟩) (nc1 - 1) (cc1 - 1))).symm)
                      unfold set4 at u0 u1 u2 u3
                      refine bodyPost_ret (v := .tuple #[.agg #[.string c.chain, .int .i64 c.trust, .bool false, .slice (some ⟨g9, 4, none⟩) (nc1 - 1) (cc1 - 1)], .int .i64 0]) (by simp [results, Tryz.results15, go_sem, u0, u1, u2, u3]) rfl ⟨hbz, some ⟨g9, 4, none⟩, nc1 - 1, cc1 - 1, ?_⟩
                      rw [HFC.out, HFE0.out, HLE.out, HCU.out]
                      exact ⟨by rw [HFZ.out], hkz⟩
                    · have e30 : decide (30 < (nc1 : Int)) = false := by simp; omega
                      have HCU := hid (show cutK (putK l (knOf u.sg.hd)) = putK l (knOf u.sg.hd) by unfold cutK; rw [HLN.out, if_neg h30])
                      clear h30
                      obtain ⟨⟨x0, x1, x2, x3⟩, z0, z1, z2, z3⟩ := HRZe.out.four
                      go_wp2
                      have hrz := set4_row HRZe.out (.string c.chain) (.int .i64 c.trust) (.bool false) (.slice oc1 nc1 cc1)
                      obtain ⟨⟨u0, u1, u2, u3⟩, -⟩ := hrz.four
                      have hbz := set4_below HBe.out (show w.heap.size ≤ w.heap.size + 1 + 1 by omega) (.string c.chain) (.int .i64 c.trust) (.bool false) (.slice oc1 nc1 cc1)
                      have hkz := (HKN.out.cl HRZe.out (set4_other wd1 (w.heap.size + 1 + 1) (.string c.chain) (.int .i64 c.trust) (.bool false) (.slice oc1 nc1 cc1))).mono (Nat.le_of_eq (set4_size wd1 (w.heap.size + 1 + 1) (.string c.chain) (.int .i64 c.trust) (.bool false) (.slice oc1 nc1 cc1)).symm)
                      unfold set4 at u0 u1 u2 u3
                      refine bodyPost_ret (v := .tuple #[.agg #[.string c.chain, .int .i64 c.trust, .bool false, .slice oc1 nc1 cc1], .int .i64 0]) (by simp [results, Tryz.results15, go_sem, u0, u1, u2, u3]) rfl ⟨hbz, oc1, nc1, cc1, ?_⟩
                      rw [HFC.out, HFE0.out, HLE.out, HCU.out]
                      exact ⟨by rw [HFZ.out], hkz⟩
    · have HFC := hid (followC_no (c := c) (u := u) (now := now) (by rw [HFE.out]; exact hbl))
      have e1 : (believeN c u now != 0) = true := by simpa using hbl
      clear hbl
      generalize believeN c u now = z at *
      obtain ⟨⟨x0, x1, x2, x3⟩, z0, z1, z2, z3⟩ := HRZ2.out.four
      go_wp2
      have hrz := set4_row HRZ2.out (.string ⟨#[]⟩) (.int .i64 0) (.bool false) (.slice none 0 0)
      obtain ⟨⟨u0, u1, u2, u3⟩, -⟩ := hrz.four
      have hbz := set4_below HB2.out (show w.heap.size ≤ w.heap.size + 1 + 1 by omega) (.string ⟨#[]⟩) (.int .i64 0) (.bool false) (.slice none 0 0)
      unfold set4 at u0 u1 u2 u3
      refine bodyPost_ret (v := .tuple #[.agg #[.string ⟨#[]⟩, .int .i64 0, .bool false, .slice none 0 0], .int .i64 z]) (by simp [results, Tryz.results15, go_sem, u0, u1, u2, u3]) rfl ⟨hbz, none, 0, 0, ?_⟩
      rw [HFC.out, HFE.out]
      exact ⟨rfl, Knowns.nil _ _⟩
  · have HFE := hid (followE_ask (u := u) hask)
    have HFC := hid (followC_no (c := c) (u := u) (now := now) (by rw [HFE.out]; exact hask))
    have e1 : (askedN c now != 0) = true := by simpa using hask
    clear hask
    generalize askedN c now = z at *
    go_enter Tryz.func15, Tryz.ntmps15
    go_wp2_with fail
    rw [HW0.out]
    refine HAS.out.mono ?_
    rintro e w1 ⟨rfl, hb1⟩
    have HB1 := hid (HB0.out.trans (hb1.mono HB0.out.size))
    have HRZ1 := hid (HRZ0.out.below hb1 HRZ0.out.lt)
    clear hb1 a0 a1 a2 a3
    obtain ⟨⟨x0, x1, x2, x3⟩, z0, z1, z2, z3⟩ := HRZ1.out.four
    go_wp2
    have hrz := set4_row HRZ1.out (.string ⟨#[]⟩) (.int .i64 0) (.bool false) (.slice none 0 0)
    obtain ⟨⟨u0, u1, u2, u3⟩, -⟩ := hrz.four
    have hbz := set4_below HB1.out (show w.heap.size ≤ w.heap.size + 1 + 1 by omega) (.string ⟨#[]⟩) (.int .i64 0) (.bool false) (.slice none 0 0)
    unfold set4 at u0 u1 u2 u3
    refine bodyPost_ret (v := .tuple #[.agg #[.string ⟨#[]⟩, .int .i64 0, .bool false, .slice none 0 0], .int .i64 z]) (by simp [results, Tryz.results15, go_sem, u0, u1, u2, u3]) rfl ⟨hbz, none, 0, 0, ?_⟩
    rw [HFC.out, HFE.out]
    exact ⟨rfl, Knowns.nil _ _⟩
end Go.Proofs.YtiflkkelbnpniaaGreatDoor
