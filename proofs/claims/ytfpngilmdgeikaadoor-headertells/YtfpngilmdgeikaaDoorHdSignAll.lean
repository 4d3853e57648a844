/-
  What copied, slices.Clone of validators and Sign answer: a header in memory of its own; validators in new memory; a header with the votes of those whose seeds are there.
  What Sign answers: what keeps a header from being one of these validators; else the header, the validators, and the votes of those whose seeds are there.
-/
import Derived.Test.YtfpngilmdgeikaaDoorHdTog
import Derived.Test.YtfpngilmdgeikaaDoorHdVoteAll
import Derived.Test.YtfpngilmdgeikaaDoorHdBytes
import Derived.Test.YtfpngilmdgeikaaDoorHdMems
namespace Go.Proofs.YtfpngilmdgeikaaDoor
open Go.RowKit

theorem row_setRow {w : World} {g : Nat} {t : TypeId} {old : List Value} (h : Row w g t old) (cs : List Value) : Row (w.setRow g cs.toArray) g t cs := setRow_heap _ _ _ _ _ _ h
set_option maxRecDepth 100000 in
set_option maxHeartbeats 4000000 in
theorem copiedRegion {y13 y14 y0 y2 y15 z3 z4 z5 z6 z7 z8 z9 z10 z11 z12 : Value} {g g2 N : Nat} (ch : ByteArray) (hh tt : Int) (root vals next : List (BitVec 8)) (o1 o2 o3 : Option Addr) (n1 n2 n3 c1 c2 c3 : Nat) {w : World} (hr : Hid (Row w g 25 [.string ch, .int .i64 hh, .int .i64 tt, .slice o1 n1 c1, .slice o2 n2 c2, .slice o3 n3 c3])) (hz : Hid (Row w g2 25 [.string ⟨#[]⟩, .int .i64 0, .int .i64 0, .slice none 0 0, .slice none 0 0, .slice none 0 0])) (hne : g2 ≠ g) (b1 : Hid (Bytes w N (.slice o1 n1 c1) root)) (b2 : Hid (Bytes w N (.slice o2 n2 c2) vals)) (b3 : Hid (Bytes w N (.slice o3 n3 c3) next)) (hN : N ≤ w.heap.size) (f1 : root.length ≤ 140737488355328) (f2 : vals.length ≤ 140737488355328) (f3 : next.length ≤ 140737488355328) (Q : Exit → Act → World → Prop)
    (hQ : Hid (∀ (σ : Nat → Value) (rv vv nv : Value) (w' : World), OwnB w' w.heap.size rv root → OwnB w' w.heap.size vv vals → OwnB w' w.heap.size nv next → Row w' g 25 [.string ch, .int .i64 hh, .int .i64 tt, rv, vv, nv] → Row w' g2 25 [.string ⟨#[]⟩, .int .i64 0, .int .i64 0, .slice none 0 0, .slice none 0 0, .slice none 0 0] → Below g w w' → Q .normal ⟨#[y0, .pointer (some ⟨g, 0, none⟩), y2, σ 0, σ 1, σ 2, σ 3, σ 4, σ 5, σ 6, σ 7, σ 8, σ 9, .pointer (some ⟨g, 4, none⟩), .pointer (some ⟨g, 5, none⟩), y15], []⟩ w')) :
    Code.wp Tryd.prog (.region 1 ((Tryd.f49.body.bind (regOf 1)).getD #[]) true) Q ⟨#[y0, .pointer (some ⟨g, 0, none⟩), y2, z3, z4, z5, z6, z7, z8, z9, z10, z11, z12, y13, y14, y15], []⟩ w := by
  conv => arg 2; arg 2; whnf
  conv => arg 4; dsimp only
  refine region_grows_tail 10 (by kernel_rfl) (fun σ => #[y0, .pointer (some ⟨g, 0, none⟩), y2, σ 0, σ 1, σ 2, σ 3, σ 4, σ 5, σ 6, σ 7, σ 8, σ 9, y13, y14, y15]) (fun i => ([z3, z4, z5, z6, z7, z8, z9, z10, z11, z12] : List Value).getD i undef) rfl (fun i X W => match i with
    | 0 => X = .pointer (some ⟨g, 3, none⟩)
    | 1 => X = .slice o1 n1 c1
    | 2 => OwnB W w.heap.size X root
    | 3 => X = .pointer (some ⟨g, 4, none⟩)
    | 4 => X = .slice o2 n2 c2
    | 5 => OwnB W w.heap.size X vals
    | 6 => X = .pointer (some ⟨g, 5, none⟩)
    | 7 => X = .slice o3 n3 c3
    | 8 => OwnB W w.heap.size X next
    | 9 => X = .pointer (some ⟨g, 3, none⟩)
    | _ => True) ?_ (by kernel_rfl) ?_ ?_
  · intro i X W W' HB H
    match i, H with
    | 0, H => exact H
    | 1, H => exact H
    | 2, H => exact OwnB.below H HB
    | 3, H => exact H
    | 4, H => exact H
    | 5, H => exact OwnB.below H HB
    | 6, H => exact H
    | 7, H => exact H
    | 8, H => exact OwnB.below H HB
    | 9, H => exact H
    | _ + 10, _ => exact trivial
  · refine ⟨?_, ?_, ?_, ?_, ?_, ?_, ?_, ?_, ?_, ?_, trivial⟩
    · -- 0: Op.fieldAddr 25 t1 3
      intro σ W HJ hdep
      simp [Region.binds] at hdep
      have HJ := hid HJ
      refine wpOp_plain rfl rfl ?_
      go_simp
      exact Left.mk0 (.pointer (some ⟨g, 3, none⟩)) (by first | rfl | simp [updF, *]) HJ.out rfl
    · -- 1: Op.load 23 t3
      intro σ W HJ hdep
      simp [Region.binds] at hdep
      have HJ := hid HJ
      have k := (hr.out.below HJ.out hr.out.lt).cell 3
      simp at k
      refine wpOp_plain rfl rfl ?_
      go_simp
      exact Left.mk0 (.slice o1 n1 c1) (by first | rfl | simp [updF, *]) HJ.out rfl
    · -- 2: Op.call { value (Operand.func 60), args := #[t4], argTypes :
      intro σ W HJ hdep
      simp [Region.binds] at hdep
      have HJ := hid HJ
      have e1 := hdep
      have HC := hid (clone_any root (.slice o1 n1 c1) N W (b1.out.below (HJ.out.mono hN)) (Nat.le_trans hN HJ.out.size) f1)
      clear hdep
      refine wpOp_plain rfl rfl ?_
      go_simp
      refine HC.out.mono ?_
      rintro e w2 ⟨v, rfl, hv2, hb2⟩
      exact Left.mk v (by first | rfl | simp [updF, *]) hb2 HJ.out (hv2.mono HJ.out.size)
    · -- 3: Op.fieldAddr 25 t1 4
      intro σ W HJ hdep
      simp [Region.binds] at hdep
      have HJ := hid HJ
      refine wpOp_plain rfl rfl ?_
      go_simp
      exact Left.mk0 (.pointer (some ⟨g, 4, none⟩)) (by first | rfl | simp [updF, *]) HJ.out rfl
    · -- 4: Op.load 23 t6
      intro σ W HJ hdep
      simp [Region.binds] at hdep
      have HJ := hid HJ
      have k := (hr.out.below HJ.out hr.out.lt).cell 4
      simp at k
      refine wpOp_plain rfl rfl ?_
      go_simp
      exact Left.mk0 (.slice o2 n2 c2) (by first | rfl | simp [updF, *]) HJ.out rfl
    · -- 5: Op.call { value (Operand.func 60), args := #[t7], argTypes :
      intro σ W HJ hdep
      simp [Region.binds] at hdep
      have HJ := hid HJ
      have e1 := hdep.1
      have HC := hid (clone_any vals (.slice o2 n2 c2) N W (b2.out.below (HJ.out.mono hN)) (Nat.le_trans hN HJ.out.size) f2)
      clear hdep
      refine wpOp_plain rfl rfl ?_
      go_simp
      refine HC.out.mono ?_
      rintro e w2 ⟨v, rfl, hv2, hb2⟩
      exact Left.mk v (by first | rfl | simp [updF, *]) hb2 HJ.out (hv2.mono HJ.out.size)
    · -- 6: Op.fieldAddr 25 t1 5
      intro σ W HJ hdep
      simp [Region.binds] at hdep
      have HJ := hid HJ
      refine wpOp_plain rfl rfl ?_
      go_simp
      exact Left.mk0 (.pointer (some ⟨g, 5, none⟩)) (by first | rfl | simp [updF, *]) HJ.out rfl
    · -- 7: Op.load 23 t9
      intro σ W HJ hdep
      simp [Region.binds] at hdep
      have HJ := hid HJ
      have k := (hr.out.below HJ.out hr.out.lt).cell 5
      simp at k
      refine wpOp_plain rfl rfl ?_
      go_simp
      exact Left.mk0 (.slice o3 n3 c3) (by first | rfl | simp [updF, *]) HJ.out rfl
    · -- 8: Op.call { value (Operand.func 60), args := #[t10], argTypes 
      intro σ W HJ hdep
      simp [Region.binds] at hdep
      have HJ := hid HJ
      have e1 := hdep.1
      have HC := hid (clone_any next (.slice o3 n3 c3) N W (b3.out.below (HJ.out.mono hN)) (Nat.le_trans hN HJ.out.size) f3)
      clear hdep
      refine wpOp_plain rfl rfl ?_
      go_simp
      refine HC.out.mono ?_
      rintro e w2 ⟨v, rfl, hv2, hb2⟩
      exact Left.mk v (by first | rfl | simp [updF, *]) hb2 HJ.out (hv2.mono HJ.out.size)
    · -- 9: Op.fieldAddr 25 t1 3
      intro σ W HJ hdep
      simp [Region.binds] at hdep
      have HJ := hid HJ
      refine wpOp_plain rfl rfl ?_
      go_simp
      exact Left.mk0 (.pointer (some ⟨g, 3, none⟩)) (by first | rfl | simp [updF, *]) HJ.out rfl
  · intro σ W hj hg
    have HJ := hid hj
    clear hj
    simp only [List.drop_succ_cons, List.drop_zero]
    have h2 : OwnB W w.heap.size (σ 2) root := hg 2 (by decide)
    have h5 : OwnB W w.heap.size (σ 5) vals := hg 5 (by decide)
    have h8 : OwnB W w.heap.size (σ 8) next := hg 8 (by decide)
    have e9 : σ 9 = .pointer (some ⟨g, 3, none⟩) := hg 9 (by decide)
    obtain ⟨p1, d1, e2, _⟩ := h2.shape
    obtain ⟨p2, d2, e5, _⟩ := h5.shape
    obtain ⟨p3, d3, e8, _⟩ := h8.shape
    have hrw := hr.out.below HJ.out hr.out.lt
    have HRW := hid hrw
    have HZW := hid (hz.out.below HJ.out hz.out.lt)
    have k3 := hrw.cell 3
    have k4 := hrw.cell 4
    have k5 := hrw.cell 5
    have z3 := hrw.frozen 3
    have z4 := hrw.frozen 4
    have z5 := hrw.frozen 5
    simp at k3 k4 k5
    have H2 := hid h2
    have H5 := hid h5
    have H8 := hid h8
    clear hg hrw h2 h5 h8
    generalize root.length = m1 at *
    generalize vals.length = m2 at *
    generalize next.length = m3 at *
    rw [e2, e5, e8, e9]
    go_wp2_with fail
    have key : ∀ (x y z v : Value) (l : List (BitVec 8)), OwnB W w.heap.size v l → OwnB (((W.setCell ⟨g, 3, none⟩ x).setCell ⟨g, 4, none⟩ y).setCell ⟨g, 5, none⟩ z) w.heap.size v l := fun x y z v l ho => ho.keep fun k hk => by
      have hlt := hr.out.lt
      rw [heap_setCell_other _ _ _ _ (show k ≠ g by omega), heap_setCell_other _ _ _ _ (show k ≠ g by omega), heap_setCell_other _ _ _ _ (show k ≠ g by omega)]
    have HH2 := H2.out
    have HH5 := H5.out
    have HH8 := H8.out
    rw [e2] at HH2
    rw [e5] at HH5
    rw [e8] at HH8
    have fin := hQ.out σ _ _ _ _ (key _ _ _ _ _ HH2) (key _ _ _ _ _ HH5) (key _ _ _ _ _ HH8) (((HRW.out.set 3 _).set 4 _).set 5 _) (((HZW.out.other _ hne).other _ hne).other _ hne) (((((HJ.out.mono (Nat.le_of_lt hr.out.lt)).setCell (Nat.le_refl _) _).setCell (Nat.le_refl _) _).setCell (Nat.le_refl _) _))
    rw [e2, e5, e8, e9] at fin
    exact fin
set_option maxRecDepth 100000 in
set_option maxHeartbeats 2000000 in
theorem copied_any (h : Hd) (v : Value) (N : Nat) (w : World) (hv : HdV w N v h) (hN : N ≤ w.heap.size) (hf : h.fits) :
    Calls Tryd.prog 49 #[v] w fun e w' => ∃ v', e = .returned v' ∧ HdV w' w'.heap.size v' h ∧ Below w.heap.size w w' := by
  obtain ⟨rv, vv, nv, rfl, h1, h2, h3⟩ := hv
  obtain ⟨_, f1, f2, f3⟩ := hf
  have H1 := hid h1
  have H2 := hid h2
  have H3 := hid h3
  obtain ⟨o1, c1, rfl, _⟩ := h1.shape
  obtain ⟨o2, c2, rfl, _⟩ := h2.shape
  obtain ⟨o3, c3, rfl, _⟩ := h3.shape
  obtain ⟨w0, hw0⟩ : ∃ w0, w.alloc (.cells #[.string h.chain, .int .i64 h.height, .int .i64 h.time, .slice o1 h.root.length c1, .slice o2 h.vals.length c2, .slice o3 h.next.length c3] 25) = w0 := ⟨_, rfl⟩
  have hb0 : Below w.heap.size w w0 := by rw [← hw0]; exact (Below.refl _ _).alloc (Nat.le_refl _) _
  have hr0 : Row w0 w.heap.size 25 [.string h.chain, .int .i64 h.height, .int .i64 h.time, .slice o1 h.root.length c1, .slice o2 h.vals.length c2, .slice o3 h.next.length c3] := by rw [← hw0]; exact Row.new _ _ _
  have hsz0 : w0.heap.size = w.heap.size + 1 := by rw [← hw0]; simp
  obtain ⟨w1, hw1⟩ : ∃ w1, w0.alloc (.cells #[.string ⟨#[]⟩, .int .i64 0, .int .i64 0, .slice none 0 0, .slice none 0 0, .slice none 0 0] 25) = w1 := ⟨_, rfl⟩
  have hb1 : Below w0.heap.size w0 w1 := by rw [← hw1]; exact (Below.refl _ _).alloc (Nat.le_refl _) _
  have HR1 := hid (hr0.below hb1 hr0.lt)
  have HZ1 := hid (show Row w1 (w.heap.size + 1) 25 [.string ⟨#[]⟩, .int .i64 0, .int .i64 0, .slice none 0 0, .slice none 0 0, .slice none 0 0] by rw [← hw1, ← hsz0]; exact Row.new _ _ _)
  have HB1 := hid (hb0.trans (hb1.mono hb0.size))
  have hN1 : N ≤ w1.heap.size := Nat.le_trans hN HB1.out.size
  have HSZ := hid (show w1.heap.size = w.heap.size + 2 by rw [← hw1]; simp [hsz0])
  clear h1 h2 h3 hb0 hr0 hb1
  go_enter Tryd.func49, Tryd.ntmps49
  go_wp2_with fail
  refine copiedRegion h.chain h.height h.time h.root h.vals h.next o1 o2 o3 h.root.length h.vals.length h.next.length c1 c2 c3 HR1 HZ1 (by omega) (hid (H1.out.below (HB1.out.mono hN))) (hid (H2.out.below (HB1.out.mono hN))) (hid (H3.out.below (HB1.out.mono hN))) hN1 (by omega) (by omega) (by omega) _ (hid ?_)
  intro σ rv vv nv w2 g1 g2 g3 hrw hzw hb2
  obtain ⟨p1, d1, rfl, _⟩ := g1.shape
  obtain ⟨p2, d2, rfl, _⟩ := g2.shape
  obtain ⟨p3, d3, rfl, _⟩ := g3.shape
  have G1 := hid g1
  have G2 := hid g2
  have G3 := hid g3
  have HB2 := hid (HB1.out.trans hb2)
  have HRW := hid hrw
  have HZW := hid hzw
  obtain ⟨k0, k1, k2, k3, k4, k5⟩ := hrw.six
  obtain ⟨q0, q1, q2, q3, q4, q5⟩ := hzw.six
  have z0 := hzw.frozen 0
  have z1 := hzw.frozen 1
  have z2 := hzw.frozen 2
  have z3 := hzw.frozen 3
  have z4 := hzw.frozen 4
  have z5 := hzw.frozen 5
  clear g1 g2 g3 hb2 hrw hzw hw0 hw1
  go_wp2
  have hrz : Row _ (w.heap.size + 1) 25 [.string h.chain, .int .i64 h.height, .int .i64 h.time, .slice p1 h.root.length d1, .slice p2 h.vals.length d2, .slice p3 h.next.length d3] :=
    (((((HZW.out.set 0 (.string h.chain)).set 1 (.int .i64 h.height)).set 2 (.int .i64 h.time)).set 3 (.slice p1 h.root.length d1)).set 4 (.slice p2 h.vals.length d2)).set 5 (.slice p3 h.next.length d3)
  obtain ⟨r0, r1, r2, r3, r4, r5⟩ := hrz.six
  refine bodyPost_ret (v := .agg #[.string h.chain, .int .i64 h.height, .int .i64 h.time, .slice p1 h.root.length d1, .slice p2 h.vals.length d2, .slice p3 h.next.length d3]) (by simp [results, Tryd.results49, go_sem, r0, r1, r2, r3, r4, r5]) rfl ⟨_, rfl, ?_, ?_⟩
  · have hsz1 : w1.heap.size = w.heap.size + 2 := HSZ.out
    have key : ∀ (a b c d e f v : Value) (l : List (BitVec 8)), OwnB w2 w1.heap.size v l → OwnB ((((((w2.setCell ⟨w.heap.size + 1, 0, none⟩ a).setCell ⟨w.heap.size + 1, 1, none⟩ b).setCell ⟨w.heap.size + 1, 2, none⟩ c).setCell ⟨w.heap.size + 1, 3, none⟩ d).setCell ⟨w.heap.size + 1, 4, none⟩ e).setCell ⟨w.heap.size + 1, 5, none⟩ f) w1.heap.size v l := fun a b c d e f v l ho => ho.keep fun k hk => by
      have hk' : k ≠ w.heap.size + 1 := by omega
      rw [heap_setCell_other _ _ _ _ hk', heap_setCell_other _ _ _ _ hk', heap_setCell_other _ _ _ _ hk', heap_setCell_other _ _ _ _ hk', heap_setCell_other _ _ _ _ hk', heap_setCell_other _ _ _ _ hk']
    exact ⟨_, _, _, rfl, (key _ _ _ _ _ _ _ _ G1.out).bytes, (key _ _ _ _ _ _ _ _ G2.out).bytes, (key _ _ _ _ _ _ _ _ G3.out).bytes⟩
  · have hle : w.heap.size ≤ w.heap.size + 1 := by omega
    exact (((((HB2.out.setCell hle _).setCell hle _).setCell hle _).setCell hle _).setCell hle _).setCell hle _
theorem info_val : (Tryd.prog.info? 45).map (fun i => (i.zero, i.size, i.bytes)) = some (some (.agg #[.int .u64 0, .int .u64 0]), 2, 16) := by kernel_rfl
theorem elemV : Tryd.prog.underlying 22 = some (.slice (Tryd.prog.elem 22)) := by kernel_rfl
theorem ownV_none (w : World) : (w.alloc (.cells #[] 45)).ownsRow w.heap.size 45 2 (.slice (some ⟨w.heap.size, 0, none⟩) 0 0) 0 [] :=
  ⟨rfl, .inr ⟨w.heap.size, 0, #[], rfl, Nat.le_refl _, heap_alloc_new _ _, Nat.le_refl _, by unfold maxLen; omega, rfl, rfl⟩⟩
theorem vlFlat_len (l : List Vl) : (l.map vlRow).flatten.length = l.length * 2 := by
  induction l with
  | nil => rfl
  | cons v r ih => rw [List.map_cons, List.flatten_cons, List.length_append, ih]; simp [vlRow]; omega
set_option maxHeartbeats 1000000 in
theorem cloneV_any (l : List Vl) (sv : Value) (N : Nat) (w : World) (hb : Vals w N sv l) (hN : N ≤ w.heap.size) (h1 : 1 ≤ l.length) (hlen : l.length ≤ 10) :
    Calls Tryd.prog 50 #[sv] w fun e w' => ∃ v, e = .returned v ∧ Vals w' w'.heap.size v l ∧ Below w.heap.size w w' := by
  have hnil : ∀ (a : Option Addr) (n c : Nat) (w : World), (binOp .eql 22 (.slice a n c) (.slice none 0 0)).run Tryd.prog w = .ok (.bool a.isNone) w := fun a n c w => by
    simp only [binOp]
    simp [run_equal_slice_nil w _ _ a n c elemV]
  have hbe : Below w.heap.size w (w.alloc (.cells #[] 45)) := (Below.refl _ _).alloc (Nat.le_refl _) _
  have HBE := hid hbe
  have HS := hid (Recs.source (hb.below (hbe.mono hN)) vlRow_len (by omega))
  obtain ⟨oa, ca, rfl, hca⟩ := hb.shape
  obtain ⟨b, o, rfl, hxx⟩ := hb.spot (by omega)
  clear hb hbe hxx
  have HOW := hid (ownV_none w)
  obtain ⟨ad, cap, hsl, hsrc⟩ : ∃ ad cap, (Value.slice (some ⟨b, o, none⟩) l.length ca) = .slice (some ad) (l.map vlRow).length cap ∧ ∀ j v, (l.map vlRow).flatten[j]? = some v → (w.alloc (.cells #[] 45)).cell? (ad.add j) = some v := by
    rcases HS.out with ⟨h, _⟩ | h
    · simp at h
    · exact h
  obtain ⟨rfl, rfl⟩ : (⟨b, o, none⟩ : Addr) = ad ∧ ca = cap := by simpa using hsl
  have HSRC := hid hsrc
  have HFL := hid (vlFlat_len l)
  have HONE := hid (show ∀ u ∈ (l.map vlRow).flatten, u.oneCell' = true by
    intro u hu
    obtain ⟨r, hr, hur⟩ := List.mem_flatten.1 hu
    obtain ⟨v, _, rfl⟩ := List.mem_map.1 hr
    simp [vlRow] at hur
    rcases hur with rfl | rfl <;> rfl)
  obtain ⟨i0, hi0, hz0, hz1, hz2⟩ := info_parts info_val
  have HI := hid (show Tryd.prog.info? 45 = some i0 ∧ i0.zero = some (.agg #[.int .u64 0, .int .u64 0]) ∧ i0.size = 2 ∧ i0.bytes = 16 from ⟨hi0, hz0, hz1, hz2⟩)
  clear hsrc hsl HS hi0 hz0 hz1 hz2
  go_enter Tryd.func50, Tryd.ntmps50
  go_wp2_with (at_builtin; refine wpList_append_own _ rfl (.tmp 5) (.tmp 6) 22 rfl w.heap.size 45 i0 _ 2 16 Tryd.underlying22 HI.out.1 HI.out.2.1 HI.out.2.2.1 HI.out.2.2.2 rfl (by decide) _ 0 [] rfl HOW.out ⟨b, o, none⟩ l.length ca (l.map vlRow).flatten rfl HFL.out HSRC.out HONE.out (by unfold maxLen; omega) (by omega) HBE.out.size ?_; intro v' w1 hown' hg' _)
  go_ret
  have hb1 : Below w.heap.size (w.alloc (.cells #[] 45)) w1 := (Below.refl _ _).grown hg' HBE.out.size (fun k hk => (HOW.out.lt k hk).1)
  refine ⟨_, rfl, ?_, HBE.out.trans hb1⟩
  rw [Nat.zero_add, List.nil_append, show l.length = (l.map vlRow).length by simp] at hown'
  exact ownsRow_recs hown' vlRow_len
set_option maxRecDepth 100000 in
set_option maxHeartbeats 4000000 in
theorem signRegion {y0 y4 y5 y7 y8 y9 y10 y11 y12 y13 y14 y15 z16 z17 z18 z19 z20 z21 z22 z23 z24 z25 : Value} {g g6 N : Nat} (h : Hd) (l : List Vl) (seeds : List (List (BitVec 8))) (lv sv : Value) (o1 o2 o3 : Option Addr) (n1 n2 n3 c1 c2 c3 : Nat) {w : World} (htab : Hid (tableAt w)) (hr : Hid (Row w g 25 [.string h.chain, .int .i64 h.height, .int .i64 h.time, .slice o1 n1 c1, .slice o2 n2 c2, .slice o3 n3 c3])) (hz : Hid (Row w g6 29 [.string ⟨#[]⟩, .int .i64 0, .int .i64 0, .slice none 0 0, .slice none 0 0, .slice none 0 0, .slice none 0 0, .slice none 0 0])) (hv : Hid (HdV w N (.agg #[.string h.chain, .int .i64 h.height, .int .i64 h.time, .slice o1 n1 c1, .slice o2 n2 c2, .slice o3 n3 c3]) h)) (hl : Hid (Vals w N lv l)) (hs : Hid (Lists w N sv seeds)) (hN : N ≤ w.heap.size) (hf : h.fits) (hw : wrongH h = 0) (h1 : 1 ≤ l.length) (h10 : l.length ≤ 10) (hsl : seeds.length ≤ 35184372088832) (hsf : Hid (∀ s ∈ seeds, s.length ≤ 140737488351232)) (Q : Exit → Act → World → Prop)
    (hQ : Hid (∀ (σ : Nat → Value) (rv vv nv av bv : Value) (w' : World), SgV w' w'.heap.size (.agg #[.string h.chain, .int .i64 h.height, .int .i64 h.time, rv, vv, nv, av, bv]) ⟨h, l, votesOf seeds (bytesH h) l⟩ → Row w' g6 29 [.string h.chain, .int .i64 h.height, .int .i64 h.time, rv, vv, nv, av, bv] → Below g6 w w' → Q .normal ⟨#[y0, lv, sv, .pointer (some ⟨g, 0, none⟩), y4, y5, .pointer (some ⟨g6, 0, none⟩), .int .i64 0, y8, y9, y10, y11, y12, y13, y14, y15, σ 0, σ 1, σ 2, σ 3, σ 4, σ 5, σ 6, σ 7, σ 8, σ 9], []⟩ w')) :
    Code.wp Tryd.prog (.region 4 ((Tryd.f19.body.bind (regOf 4)).getD #[]) true) Q ⟨#[y0, lv, sv, .pointer (some ⟨g, 0, none⟩), y4, y5, .pointer (some ⟨g6, 0, none⟩), y7, y8, y9, y10, y11, y12, y13, y14, y15, z16, z17, z18, z19, z20, z21, z22, z23, z24, z25], []⟩ w := by
  conv => arg 2; arg 2; whnf
  conv => arg 4; dsimp only
  refine region_grows_tail 10 (by kernel_rfl) (fun σ => #[y0, lv, sv, .pointer (some ⟨g, 0, none⟩), y4, y5, .pointer (some ⟨g6, 0, none⟩), y7, y8, y9, y10, y11, y12, y13, y14, y15, σ 0, σ 1, σ 2, σ 3, σ 4, σ 5, σ 6, σ 7, σ 8, σ 9]) (fun i => ([z16, z17, z18, z19, z20, z21, z22, z23, z24, z25] : List Value).getD i undef) rfl (fun i X W => match i with
    | 0 => X = .agg #[.string h.chain, .int .i64 h.height, .int .i64 h.time, .slice o1 n1 c1, .slice o2 n2 c2, .slice o3 n3 c3]
    | 1 => HdV W W.heap.size X h
    | 2 => X = lv
    | 3 => Vals W W.heap.size X l
    | 4 => X = .agg #[.string h.chain, .int .i64 h.height, .int .i64 h.time, .slice o1 n1 c1, .slice o2 n2 c2, .slice o3 n3 c3]
    | 5 => Bytes W W.heap.size X (bytesH h)
    | 6 => X = lv
    | 7 => X = sv
    | 8 => Votes W W.heap.size X (votesOf seeds (bytesH h) l)
    | 9 => SgV W W.heap.size X ⟨h, l, votesOf seeds (bytesH h) l⟩
    | _ => True) ?_ (by kernel_rfl) ?_ ?_
  · intro i X W W' HB H
    match i, H with
    | 0, H => exact H
    | 1, H => exact (H.below HB).mono HB.size
    | 2, H => exact H
    | 3, H => exact (H.below HB).mono HB.size
    | 4, H => exact H
    | 5, H => exact (H.below HB).mono HB.size
    | 6, H => exact H
    | 7, H => exact H
    | 8, H => exact (H.below HB).mono HB.size
    | 9, H => exact (H.below HB).mono HB.size
    | _ + 10, _ => exact trivial
  · refine ⟨?_, ?_, ?_, ?_, ?_, ?_, ?_, ?_, ?_, ?_, trivial⟩
    · -- 0: Op.load 25 t3
      intro σ W HJ hdep
      simp [Region.binds] at hdep
      have HJ := hid HJ
      have k0 := (hr.out.below HJ.out hr.out.lt).cell 0
      have k1 := (hr.out.below HJ.out hr.out.lt).cell 1
      have k2 := (hr.out.below HJ.out hr.out.lt).cell 2
      have k3 := (hr.out.below HJ.out hr.out.lt).cell 3
      have k4 := (hr.out.below HJ.out hr.out.lt).cell 4
      have k5 := (hr.out.below HJ.out hr.out.lt).cell 5
      simp at k0
      simp at k1
      simp at k2
      simp at k3
      simp at k4
      simp at k5
      refine wpOp_plain rfl rfl ?_
      go_simp
      exact Left.mk0 (.agg #[.string h.chain, .int .i64 h.height, .int .i64 h.time, .slice o1 n1 c1, .slice o2 n2 c2, .slice o3 n3 c3]) (by first | rfl | simp [updF, *]) HJ.out rfl
    · -- 1: Op.call { value (Operand.func 36), args := #[t16], argTypes 
      intro σ W HJ hdep
      simp [Region.binds] at hdep
      have HJ := hid HJ
      have e1 := hdep
      have HC := hid (copied_any h _ N W (hv.out.below (HJ.out.mono hN)) (Nat.le_trans hN HJ.out.size) hf)
      clear hdep
      refine wpOp_plain rfl rfl ?_
      go_simp
      refine HC.out.mono ?_
      rintro e w2 ⟨v, rfl, hv2, hb2⟩
      exact Left.mk v (by first | rfl | simp [updF, *]) hb2 HJ.out hv2
    · -- 2: Op.move t1
      intro σ W HJ hdep
      simp [Region.binds] at hdep
      have HJ := hid HJ
      refine wpOp_plain rfl rfl ?_
      go_simp
      exact Left.mk0 (lv) (by first | rfl | simp [updF, *]) HJ.out rfl
    · -- 3: Op.call { value (Operand.func 37), args := #[t18], argTypes 
      intro σ W HJ hdep
      simp [Region.binds] at hdep
      have HJ := hid HJ
      have e1 := hdep.1
      have HC := hid (cloneV_any l lv N W (hl.out.below (HJ.out.mono hN)) (Nat.le_trans hN HJ.out.size) h1 h10)
      clear hdep
      refine wpOp_plain rfl rfl ?_
      go_simp
      refine HC.out.mono ?_
      rintro e w2 ⟨v, rfl, hv2, hb2⟩
      exact Left.mk v (by first | rfl | simp [updF, *]) hb2 HJ.out hv2
    · -- 4: Op.load 25 t3
      intro σ W HJ hdep
      simp [Region.binds] at hdep
      have HJ := hid HJ
      have k0 := (hr.out.below HJ.out hr.out.lt).cell 0
      have k1 := (hr.out.below HJ.out hr.out.lt).cell 1
      have k2 := (hr.out.below HJ.out hr.out.lt).cell 2
      have k3 := (hr.out.below HJ.out hr.out.lt).cell 3
      have k4 := (hr.out.below HJ.out hr.out.lt).cell 4
      have k5 := (hr.out.below HJ.out hr.out.lt).cell 5
      simp at k0
      simp at k1
      simp at k2
      simp at k3
      simp at k4
      simp at k5
      refine wpOp_plain rfl rfl ?_
      go_simp
      exact Left.mk0 (.agg #[.string h.chain, .int .i64 h.height, .int .i64 h.time, .slice o1 n1 c1, .slice o2 n2 c2, .slice o3 n3 c3]) (by first | rfl | simp [updF, *]) HJ.out rfl
    · -- 5: Op.call { value (Operand.func 21), args := #[t20], argTypes 
      intro σ W HJ hdep
      simp [Region.binds] at hdep
      have HJ := hid HJ
      have e1 := hdep.1
      have HC := hid (bytesC h _ N W (hv.out.below (HJ.out.mono hN)) (Nat.le_trans hN HJ.out.size) hw)
      clear hdep
      refine wpOp_plain rfl rfl ?_
      go_simp
      refine HC.out.mono ?_
      rintro e w2 ⟨v, rfl, hv2, hb2⟩
      exact Left.mk v (by first | rfl | simp [updF, *]) hb2 HJ.out hv2
    · -- 6: Op.move t1
      intro σ W HJ hdep
      simp [Region.binds] at hdep
      have HJ := hid HJ
      refine wpOp_plain rfl rfl ?_
      go_simp
      exact Left.mk0 (lv) (by first | rfl | simp [updF, *]) HJ.out rfl
    · -- 7: Op.move t2
      intro σ W HJ hdep
      simp [Region.binds] at hdep
      have HJ := hid HJ
      refine wpOp_plain rfl rfl ?_
      go_simp
      exact Left.mk0 (sv) (by first | rfl | simp [updF, *]) HJ.out rfl
    · -- 8: Op.call { value (Operand.func 38), args := #[t21, t22, t23],
      intro σ W HJ hdep
      simp [Region.binds] at hdep
      have HJ := hid HJ
      obtain ⟨hb5, e6, e7⟩ := hdep
      have HC := hid (votes_any (bytesH h) l seeds (σ 5) lv sv W.heap.size W (htab.out.below HJ.out htab.out.lt) (Nat.le_refl _) hb5 (by have := wrs_head h hw; omega) ((hl.out.below (HJ.out.mono hN)).mono (Nat.le_trans hN HJ.out.size)) h10 ((hs.out.below (HJ.out.mono hN)).up (Nat.le_trans hN HJ.out.size)) hsl hsf.out)
      clear hb5
      refine wpOp_plain rfl rfl ?_
      go_simp
      refine HC.out.mono ?_
      rintro e w2 ⟨v, rfl, hv2, hb2⟩
      exact Left.mk v (by first | rfl | simp [updF, *]) hb2 HJ.out hv2
    · -- 9: Op.build 29 #[(0, t17), (1, t19), (2, t24)]
      intro σ W HJ hdep
      simp [Region.binds] at hdep
      have HJ := hid HJ
      obtain ⟨⟨rv, vv, nv, e1, h1, h2, h3⟩, h4, h5⟩ := hdep
      have HP := hid (show Bytes W W.heap.size rv h.root ∧ Bytes W W.heap.size vv h.vals ∧ Bytes W W.heap.size nv h.next ∧ Vals W W.heap.size (σ 3) l ∧ Votes W W.heap.size (σ 8) (votesOf seeds (bytesH h) l) from ⟨h1, h2, h3, h4, h5⟩)
      obtain ⟨p1, d1, rfl, _⟩ := h1.shape
      obtain ⟨p2, d2, rfl, _⟩ := h2.shape
      obtain ⟨p3, d3, rfl, _⟩ := h3.shape
      obtain ⟨p4, d4, e4, _⟩ := h4.shape
      obtain ⟨p5, d5, e5, _⟩ := h5.shape
      clear h1 h2 h3 h4 h5
      refine wpOp_plain rfl rfl ?_
      go_simp
      refine Left.mk0 (.agg #[.string h.chain, .int .i64 h.height, .int .i64 h.time, .slice p1 h.root.length d1, .slice p2 h.vals.length d2, .slice p3 h.next.length d3, .slice p4 l.length d4, .slice p5 (votesOf seeds (bytesH h) l).length d5]) (by first | rfl | simp [updF, *]) HJ.out ?_
      have hp := HP.out
      rw [e4, e5] at hp
      exact ⟨_, _, _, _, _, rfl, hp.1, hp.2.1, hp.2.2.1, hp.2.2.2.1, hp.2.2.2.2⟩
  · intro σ W hj hg
    have HJ := hid hj
    clear hj
    simp only [List.drop_succ_cons, List.drop_zero]
    have h9 : SgV W W.heap.size (σ 9) ⟨h, l, votesOf seeds (bytesH h) l⟩ := hg 9 (by decide)
    obtain ⟨rv, vv, nv, av, bv, e9, h1, h2, h3, h4, h5⟩ := h9
    have HP := hid (show SgV W W.heap.size (.agg #[.string h.chain, .int .i64 h.height, .int .i64 h.time, rv, vv, nv, av, bv]) ⟨h, l, votesOf seeds (bytesH h) l⟩ from ⟨rv, vv, nv, av, bv, rfl, h1, h2, h3, h4, h5⟩)
    obtain ⟨p1, d1, rfl, _⟩ := h1.shape
    obtain ⟨p2, d2, rfl, _⟩ := h2.shape
    obtain ⟨p3, d3, rfl, _⟩ := h3.shape
    obtain ⟨p4, d4, rfl, _⟩ := h4.shape
    obtain ⟨p5, d5, rfl, _⟩ := h5.shape
    have hzw := hz.out.below HJ.out hz.out.lt
    have HZW := hid hzw
    obtain ⟨q0, q1, q2, q3, q4, q5, q6, q7⟩ := hzw.eight
    have z0 := hzw.frozen 0
    have z1 := hzw.frozen 1
    have z2 := hzw.frozen 2
    have z3 := hzw.frozen 3
    have z4 := hzw.frozen 4
    have z5 := hzw.frozen 5
    have z6 := hzw.frozen 6
    have z7 := hzw.frozen 7
    clear hg hzw h1 h2 h3 h4 h5
    rw [e9]
    go_wp2_with fail
    have hrow := set8_row HZW.out (.string h.chain) (.int .i64 h.height) (.int .i64 h.time) (.slice p1 h.root.length d1) (.slice p2 h.vals.length d2) (.slice p3 h.next.length d3) (.slice p4 l.length d4) (.slice p5 (votesOf seeds (bytesH h) l).length d5)
    have fin := hQ.out σ _ _ _ _ _ _ (SgV.mono (SgV.only HP.out HZW.out rfl (set8_other W g6 (.string h.chain) (.int .i64 h.height) (.int .i64 h.time) (.slice p1 h.root.length d1) (.slice p2 h.vals.length d2) (.slice p3 h.next.length d3) (.slice p4 l.length d4) (.slice p5 (votesOf seeds (bytesH h) l).length d5))) (by rw [set8_size]; exact Nat.le_refl _)) hrow (set8_below (HJ.out.mono (Nat.le_of_lt hz.out.lt)) (Nat.le_refl _) _ _ _ _ _ _ _ _)
    rw [e9] at fin
    exact fin
end Go.Proofs.YtfpngilmdgeikaaDoor
namespace Go.Proofs.YtfpngilmdgeikaaDoor
open Go.RowKit

/-- what Sign is to answer -/
def SignC (f : FuncId) : Prop := ∀ (h : Hd) (l : List Vl) (seeds : List (List (BitVec 8))) (hv lv sv : Value) (N : Nat) (w : World), tableAt w → N ≤ w.heap.size → HdV w N hv h → h.fits → Vals w N lv l → l.length < 2305843009213693952 → (∀ v ∈ l, v.ok) →
  Lists w N sv seeds → seeds.length ≤ 35184372088832 → (∀ s ∈ seeds, s.length ≤ 140737488351232) →
  Calls Tryd.prog f #[hv, lv, sv] w fun e w' => ∃ v, e = .returned (.tuple #[v, .int .i64 (togetherN h l)]) ∧ SgV w' w'.heap.size v (signS h l seeds) ∧ Below w.heap.size w w'
theorem sgNone (w : World) (N : Nat) : SgV w N (.agg #[.string ⟨#[]⟩, .int .i64 0, .int .i64 0, .slice none 0 0, .slice none 0 0, .slice none 0 0, .slice none 0 0, .slice none 0 0]) Sg.none :=
  ⟨_, _, _, _, _, rfl, .inl ⟨rfl, rfl⟩, .inl ⟨rfl, rfl⟩, .inl ⟨rfl, rfl⟩, .inl ⟨rfl, rfl⟩, .inl ⟨rfl, rfl⟩⟩
theorem signS_ok {h : Hd} {l : List Vl} {seeds : List (List (BitVec 8))} (e : togetherN h l = 0) : signS h l seeds = ⟨h, l, votesOf seeds (bytesH h) l⟩ := by unfold signS; rw [if_pos e]
theorem signS_no {h : Hd} {l : List Vl} {seeds : List (List (BitVec 8))} (e : togetherN h l ≠ 0) : signS h l seeds = Sg.none := by unfold signS; rw [if_neg e]
set_option maxRecDepth 100000 in
set_option maxHeartbeats 4000000 in
theorem signC : SignC 19 := by
  intro h l seeds hv lv sv N w htab hN hhv hf hl hll hok hs hsl hsf
  have HV := hid hhv
  have HL := hid hl
  have HS := hid hs
  have HTAB := hid htab
  have HSF := hid hsf
  have HOK := hid hok
  obtain ⟨rv, vv, nv, rfl, h1, h2, h3⟩ := hhv
  obtain ⟨o1, c1, rfl, _⟩ := h1.shape
  obtain ⟨o2, c2, rfl, _⟩ := h2.shape
  obtain ⟨o3, c3, rfl, _⟩ := h3.shape
  obtain ⟨ol, cl, rfl, _⟩ := hl.shape
  obtain ⟨os, cs, rfl, _⟩ := hs.shape
  obtain ⟨w0, hw0⟩ : ∃ w0, w.alloc (.cells #[.string h.chain, .int .i64 h.height, .int .i64 h.time, .slice o1 h.root.length c1, .slice o2 h.vals.length c2, .slice o3 h.next.length c3] 25) = w0 := ⟨_, rfl⟩
  have hb0 : Below w.heap.size w w0 := by rw [← hw0]; exact (Below.refl _ _).alloc (Nat.le_refl _) _
  have hr0 : Row w0 w.heap.size 25 [.string h.chain, .int .i64 h.height, .int .i64 h.time, .slice o1 h.root.length c1, .slice o2 h.vals.length c2, .slice o3 h.next.length c3] := by rw [← hw0]; exact Row.new _ _ _
  have hsz0 : w0.heap.size = w.heap.size + 1 := by rw [← hw0]; simp
  obtain ⟨w1, hw1⟩ : ∃ w1, w0.alloc (.cells #[.string ⟨#[]⟩, .int .i64 0, .int .i64 0, .slice none 0 0, .slice none 0 0, .slice none 0 0, .slice none 0 0, .slice none 0 0] 29) = w1 := ⟨_, rfl⟩
  have hb1 : Below w0.heap.size w0 w1 := by rw [← hw1]; exact (Below.refl _ _).alloc (Nat.le_refl _) _
  have hr1 := hr0.below hb1 hr0.lt
  have HR1 := hid hr1
  have HZ1 := hid (show Row w1 (w.heap.size + 1) 29 [.string ⟨#[]⟩, .int .i64 0, .int .i64 0, .slice none 0 0, .slice none 0 0, .slice none 0 0, .slice none 0 0, .slice none 0 0] by rw [← hw1, ← hsz0]; exact Row.new _ _ _)
  have HB1 := hid (hb0.trans (hb1.mono hb0.size))
  obtain ⟨k0, k1, k2, k3, k4, k5⟩ := hr1.six
  have HTG := hid (together_any h l _ _ N w1 (htab.below HB1.out htab.lt) (Nat.le_trans hN HB1.out.size) (HV.out.below (HB1.out.mono hN)) hf (HL.out.below (HB1.out.mono hN)) hll hok)
  clear h1 h2 h3 hl hs htab hsf hok hb0 hr0 hb1 hr1
  by_cases ht : togetherN h l = 0
  · obtain ⟨t1, t2, t3⟩ := togetherN_ok ht
    have HVO := hid (valsN_ok t2)
    have HSG := hid (signS_ok (seeds := seeds) ht)
    have HT := hid ht
    have e1 : (togetherN h l != 0) = false := by simp [ht]
    clear t2 t3 ht
    go_enter Tryd.func19, Tryd.ntmps19
    go_wp2_with fail
    refine HTG.out.mono ?_
    rintro e w2 ⟨rfl, hb2⟩
    have HB2 := hid (HB1.out.trans (hb2.mono HB1.out.size))
    have HR2 := hid (HR1.out.below hb2 HR1.out.lt)
    have HZ2 := hid (HZ1.out.below hb2 HZ1.out.lt)
    clear hb2 HTG hw0 hw1
    rw [HT.out] at e1 ⊢
    go_wp2_with fail
    refine signRegion h l seeds _ _ o1 o2 o3 _ _ _ c1 c2 c3 (hid (HTAB.out.below HB2.out HTAB.out.lt)) HR2 HZ2 (hid (HV.out.below (HB2.out.mono hN))) (hid (HL.out.below (HB2.out.mono hN))) (hid (HS.out.below (HB2.out.mono hN))) (Nat.le_trans hN HB2.out.size) hf t1 HVO.out.1 HVO.out.2.1 hsl HSF _ (hid ?_)
    intro σ rv vv nv av bv w3 hsg hrow hb3
    obtain ⟨q0, q1, q2, q3, q4, q5, q6, q7⟩ := hrow.eight
    have HSS := hid hsg
    have HB3 := hid (HB2.out.trans (hb3.mono (by omega)))
    clear hsg hrow hb3
    go_wp2
    refine bodyPost_ret (v := .tuple #[.agg #[.string h.chain, .int .i64 h.height, .int .i64 h.time, rv, vv, nv, av, bv], .int .i64 0]) (by simp [results, Tryd.results19, go_sem, q0, q1, q2, q3, q4, q5, q6, q7]) rfl ⟨_, by rw [HT.out], ?_, HB3.out⟩
    rw [HSG.out]
    exact HSS.out
  · have HSG := hid (signS_no (seeds := seeds) ht)
    have e1 : (togetherN h l != 0) = true := by simp [ht]
    clear ht
    go_enter Tryd.func19, Tryd.ntmps19
    go_wp2_with fail
    refine HTG.out.mono ?_
    rintro e w2 ⟨rfl, hb2⟩
    have HB2 := hid (HB1.out.trans (hb2.mono HB1.out.size))
    have hz2 := HZ1.out.below hb2 HZ1.out.lt
    obtain ⟨q0, q1, q2, q3, q4, q5, q6, q7⟩ := hz2.eight
    have z0 := hz2.frozen 0
    have z1 := hz2.frozen 1
    have z2 := hz2.frozen 2
    have z3 := hz2.frozen 3
    have z4 := hz2.frozen 4
    have z5 := hz2.frozen 5
    have z6 := hz2.frozen 6
    have z7 := hz2.frozen 7
    have s0 := setCell_same hz2 (i := 0) rfl
    have s1 := setCell_same hz2 (i := 1) rfl
    have s2 := setCell_same hz2 (i := 2) rfl
    have s3 := setCell_same hz2 (i := 3) rfl
    have s4 := setCell_same hz2 (i := 4) rfl
    have s5 := setCell_same hz2 (i := 5) rfl
    have s6 := setCell_same hz2 (i := 6) rfl
    have s7 := setCell_same hz2 (i := 7) rfl
    clear hb2 HTG hw0 hw1 hz2
    generalize htt : togetherN h l = tt at *
    have HTT := hid htt
    clear htt
    go_wp2
    refine bodyPost_ret (v := .tuple #[.agg #[.string ⟨#[]⟩, .int .i64 0, .int .i64 0, .slice none 0 0, .slice none 0 0, .slice none 0 0, .slice none 0 0, .slice none 0 0], .int .i64 tt]) (by simp [results, Tryd.results19, go_sem, q0, q1, q2, q3, q4, q5, q6, q7]) rfl ⟨_, by rw [HTT.out], ?_, HB2.out⟩
    rw [HSG.out]
    exact sgNone _ _
end Go.Proofs.YtfpngilmdgeikaaDoor
