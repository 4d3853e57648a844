/-
  What Clone and cutPiece answer: new memory that reads as what was handed in; the piece that bytes begin with, and what is behind. Nothing that was there is turned.
-/
import Derived.Test.YthogidagokdipabWireCut
import Derived.Test.YthogidagokdipabWireNum
import Derived.Deep.RegionHeld3
import Derived.Deep.RegionWith
import Derived.Laws.Cover3
namespace Go.Proofs.Ythogidagokdipab
open Go.RowKit

theorem own_none (w : World) : (w.alloc (.cells #[] 5)).ownsRow w.heap.size 5 1 (.slice (some ⟨w.heap.size, 0, none⟩) 0 0) 0 [] :=
  ⟨rfl, .inr ⟨w.heap.size, 0, #[], rfl, Nat.le_refl _, heap_alloc_new w _, Nat.le_refl _, by simp [maxLen], rfl, rfl⟩⟩
set_option maxRecDepth 100000 in
set_option maxHeartbeats 1000000 in
theorem clone_any (l : List (BitVec 8)) (sv : Value) (N : Nat) (w : World) (hb : Bytes w N sv l) (hN : N ≤ w.heap.size) (hlen : l.length ≤ 140737488355328) :
    Calls Try.prog 19 #[sv] w fun e w' => ∃ v, e = .returned v ∧ OwnB w' w.heap.size v l ∧ Below w.heap.size w w' := by
  obtain ⟨oa, ca, rfl, hca⟩ := hb.shape
  have HB := hid hb
  clear hb
  have hnil : ∀ (a : Option Addr) (n c : Nat) (w : World), (binOp .eql 23 (.slice a n c) (.slice none 0 0)).run Try.prog w = .ok (.bool a.isNone) w := fun a n c w => by
    simp only [binOp]
    simp [run_equal_slice_nil w _ _ a n c elemB]
  cases oa with
  | none =>
    have h0 : l = [] := by
      rcases HB.out with ⟨_, h⟩ | ⟨_, _, h, _⟩ | ⟨_, _, _, h, _⟩
      · exact h
      · simp at h
      · simp at h
    subst h0
    go_enter Try.func19, Try.ntmps19
    go_wp2
    go_ret
    have hz : ca = 0 := by
      rcases HB.out with ⟨h, _⟩ | ⟨_, _, h, _⟩ | ⟨_, _, _, h, _⟩
      · simp at h; exact h
      · simp at h
      · simp at h
    subst hz
    exact ⟨_, rfl, OwnB.nil _ _, Below.refl _ _⟩
  | some a =>
    have hbe : Below w.heap.size w (w.alloc (.cells #[] 5)) := (Below.refl _ _).alloc (Nat.le_refl _) _
    have HBE := hid hbe
    have HB' := hid (HB.out.below (hbe.mono hN))
    clear hbe
    have HOW := hid (own_none w)
    go_enter Try.func19, Try.ntmps19
    go_wp2_with (at_builtin; refine wpList_append_bytes rfl (.tmp 5) (.tmp 6) rfl w.heap.size _ 0 [] rfl HOW.out _ l rfl HB'.out ?_ ?_ ?_; (rw [Nat.zero_add]; exact hlen); exact HBE.out.size; intro v' w1 hown' hbe')
    go_ret
    refine ⟨_, rfl, ?_, HBE.out.trans hbe'⟩
    rw [Nat.zero_add, List.nil_append] at hown'
    unfold OwnB
    exact hown'
theorem Row.three {w : World} {g : Nat} {t : TypeId} {a b c : Value} (h : Row w g t [a, b, c]) :
    w.cell? ⟨g, 0, none⟩ = some a ∧ w.cell? ⟨g, 1, none⟩ = some b ∧ w.cell? ⟨g, 2, none⟩ = some c ∧ w.frozen? ⟨g, 0, none⟩ = false ∧ w.frozen? ⟨g, 1, none⟩ = false ∧ w.frozen? ⟨g, 2, none⟩ = false :=
  ⟨h.cell 0, h.cell 1, h.cell 2, h.frozen 0, h.frozen 1, h.frozen 2⟩
theorem Row.set3 {w : World} {g : Nat} {t : TypeId} {a b c : Value} (h : Row w g t [a, b, c]) (x y z : Value) :
    (((w.setCell ⟨g, 0, none⟩ x).setCell ⟨g, 1, none⟩ y).setCell ⟨g, 2, none⟩ z).cell? ⟨g, 0, none⟩ = some x ∧
    (((w.setCell ⟨g, 0, none⟩ x).setCell ⟨g, 1, none⟩ y).setCell ⟨g, 2, none⟩ z).cell? ⟨g, 1, none⟩ = some y ∧
    (((w.setCell ⟨g, 0, none⟩ x).setCell ⟨g, 1, none⟩ y).setCell ⟨g, 2, none⟩ z).cell? ⟨g, 2, none⟩ = some z :=
  have h3 := ((h.set 0 x).set 1 y).set 2 z
  ⟨h3.cell 0, h3.cell 1, h3.cell 2⟩
theorem below_set3 {B : Nat} {a w : World} (h : Below B a w) {g : Nat} (hg : B ≤ g) (x y z : Value) : Below B a (((w.setCell ⟨g, 0, none⟩ x).setCell ⟨g, 1, none⟩ y).setCell ⟨g, 2, none⟩ z) :=
  ((h.setCell hg _).setCell hg _).setCell hg _
theorem drewN_below (w : World) (n N : Nat) : Below N w (w.drewN n) := ⟨rfl, rfl, rfl, Nat.le_refl _, fun _ _ => rfl⟩
/-- what is read in a world that is no more than the old one, with blocks added, is read in the old one -/
theorem Bytes.above {w w' : World} {N : Nat} {sv : Value} {l : List (BitVec 8)} (h : Bytes w' N sv l) (hg : Below w.heap.size w w') (hN : N ≤ w.heap.size) : Bytes w N sv l := by
  rcases h with h | h | ⟨b, off, cap, h1, h2, h3⟩
  · exact .inl h
  · exact .inr (.inl h)
  · refine .inr (.inr ⟨b, off, cap, h1, h2, fun i hi => ⟨(h3 i hi).1, ?_⟩⟩)
    have hb := (h3 i hi).1
    rw [← (h3 i hi).2]
    exact (hg.cell (show b < w.heap.size by omega)).symm
theorem OwnB.set3 {w : World} {base g : Nat} {v : Value} {l : List (BitVec 8)} (h : OwnB w base v l) (hg : g < base) (x y z : Value) : OwnB (((w.setCell ⟨g, 0, none⟩ x).setCell ⟨g, 1, none⟩ y).setCell ⟨g, 2, none⟩ z) base v l :=
  h.keep fun k hk => by
    rw [heap_setCell_other _ _ _ _ (show k ≠ g by omega), heap_setCell_other _ _ _ _ (show k ≠ g by omega), heap_setCell_other _ _ _ _ (show k ≠ g by omega)]
/-- a piece as a value -/
def pcV (p : Pc) (vb : Value) : Value := .agg #[.int .i64 p.k, .int .u64 (p.n : Int), vb]
theorem cutP_nil : cutP [] = none := rfl
theorem cutP_far (x : BitVec 8) (r : List (BitVec 8)) (h : 1 < x.toNat) : cutP (x :: r) = none := by rw [cutP, if_pos h]
theorem cutP_none (x : BitVec 8) (r : List (BitVec 8)) (h : cutN r = none) : cutP (x :: r) = none := by rw [cutP, h]; split <;> rfl
theorem cutP_num (x : BitVec 8) (r r' : List (BitVec 8)) (n : Nat) (h0 : x.toNat = 0) (h : cutN r = some (n, r')) : cutP (x :: r) = some (⟨1, n, []⟩, r') := by rw [cutP, if_neg (by omega), h]; simp [h0]
theorem cutP_bytes (x : BitVec 8) (r r' : List (BitVec 8)) (n : Nat) (h0 : x.toNat = 1) (h : cutN r = some (n, r')) : cutP (x :: r) = if r'.length < n then none else some (⟨2, 0, r'.take n⟩, r'.drop n) := by rw [cutP, if_neg (by omega), h]; simp [h0]

set_option maxRecDepth 100000 in
set_option maxHeartbeats 2000000 in
theorem cutPiece_any (l : List (BitVec 8)) (sv : Value) (N : Nat) (w : World) (hb : Bytes w N sv l) (hN : N ≤ w.heap.size) (hlen : l.length ≤ 140737488355328) :
    Calls Try.prog 17 #[sv] w fun e w' => Below w.heap.size w w' ∧
      ((cutP l = none ∧ e = .returned (.tuple #[pcV ⟨0, 0, []⟩ (.slice none 0 0), .slice none 0 0, .bool false])) ∨
       ∃ (p : Pc) (r : List (BitVec 8)) (vb vr : Value), cutP l = some (p, r) ∧ e = .returned (.tuple #[pcV p vb, vr, .bool true]) ∧ OwnB w' w.heap.size vb p.b ∧ Bytes w N vr r) := by
  obtain ⟨oa, ca, rfl, hca⟩ := hb.shape
  obtain ⟨w0, hw0⟩ : ∃ w0, w.alloc (.cells #[.int .i64 0, .int .u64 0, .slice none 0 0] 38) = w0 := ⟨_, rfl⟩
  have hsz0 : w0.heap.size = w.heap.size + 1 := by rw [← hw0]; simp
  have hb0 : Below w.heap.size w w0 := by rw [← hw0]; exact (Below.refl _ _).alloc (Nat.le_refl _) _
  have hrow0 : Row w0 w.heap.size 38 [.int .i64 0, .int .u64 0, .slice none 0 0] := by rw [← hw0]; exact Row.new _ _ _
  have HB := hid hb
  have HB0 := hid hb0
  have HR0 := hid hrow0
  have HW0 := hid hb0
  clear hb hb0 hrow0
  cases l with
  | nil =>
    obtain ⟨c0, c1, c2, z0, z1, z2⟩ := HR0.out.three
    go_enter Try.func17, Try.ntmps17
    go_wp2
    obtain ⟨d0, d1, d2⟩ := HR0.out.set3 (.int .i64 0) (.int .u64 0) (.slice none 0 0)
    refine bodyPost_ret (v := .tuple #[pcV ⟨0, 0, []⟩ (.slice none 0 0), .slice none 0 0, .bool false]) (by simp [results, Try.results17, go_sem, d0, d1, d2, pcV]) rfl ⟨?_, .inl ⟨rfl, rfl⟩⟩
    exact below_set3 HB0.out (Nat.le_refl _) _ _ _
  | cons x l =>
    obtain ⟨b, o, rfl, c1⟩ := HB.out.some (by simp)
    have hx0 : w0.cell? ⟨b, o, none⟩ = some (.int .u8 (b8 x)) := by
      have := c1 0 (by simp)
      rw [HB0.out.cell (by show b < w.heap.size; omega)]
      simpa using this.2
    have hx8 := x.isLt
    obtain ⟨vt, hsl, hvt⟩ := slice_from HB.out .i64 1 (by simp)
    have HVT := hid (show Bytes w N vt l by simpa using hvt)
    generalize hn : (x :: l).length = n at *
    have HN := hid hn
    have hn0 : 0 < n := by rw [← hn]; simp
    have hne : ((n : Int) == 0) = false := by simp; omega
    have hsl1 : ∀ w' : World, (Instr.sliceAt 23 (.slice (some ⟨b, o, none⟩) n ca) (some (.int .i64 1)) none none).run Try.prog w' = .ok vt w' := hsl
    clear c1 hvt hn hsl
    by_cases hfar : 1 < x.toNat
    · have e1 : decide ((1 : Int) < b8 x) = true := by unfold b8; simp; omega
      obtain ⟨c0, c1, c2, z0, z1, z2⟩ := HR0.out.three
      go_enter Try.func17, Try.ntmps17
      go_wp2
      obtain ⟨d0, d1, d2⟩ := HR0.out.set3 (.int .i64 0) (.int .u64 0) (.slice none 0 0)
      refine bodyPost_ret (v := .tuple #[pcV ⟨0, 0, []⟩ (.slice none 0 0), .slice none 0 0, .bool false]) (by simp [results, Try.results17, go_sem, d0, d1, d2, pcV]) rfl ⟨?_, .inl ⟨cutP_far x l hfar, rfl⟩⟩
      exact below_set3 HB0.out (Nat.le_refl _) _ _ _
    · have e1 : decide ((1 : Int) < b8 x) = false := by unfold b8; simp; omega
      have HC := hid (cutNumber_any l vt N w0 (HVT.out.below (HB0.out.mono hN)) (by have := HN.out; simp at this; omega))
      go_enter Try.func17, Try.ntmps17
      go_wp2_with fail
      refine HC.out.mono ?_
      rintro e w1 ⟨⟨q, rfl⟩, ⟨hc, rfl⟩ | ⟨m, r, v, hc, rfl, hv⟩⟩
      · obtain ⟨c0, c1, c2, z0, z1, z2⟩ := (HR0.out.drewN q).three
        go_wp2
        obtain ⟨d0, d1, d2⟩ := (HR0.out.drewN q).set3 (.int .i64 0) (.int .u64 0) (.slice none 0 0)
        refine bodyPost_ret (v := .tuple #[pcV ⟨0, 0, []⟩ (.slice none 0 0), .slice none 0 0, .bool false]) (by simp [results, Try.results17, go_sem, d0, d1, d2, pcV]) rfl ⟨?_, .inl ⟨cutP_none x l hc, rfl⟩⟩
        exact below_set3 (HB0.out.trans (drewN_below w0 q _)) (Nat.le_refl _) _ _ _
      · obtain ⟨rfl, hm64⟩ := cutN_some hc
        have HV := hid hv
        have HCN := hid hc
        obtain ⟨ov, cv, rfl, hcv⟩ := hv.shape
        have hxq : (w0.drewN q).cell? ⟨b, o, none⟩ = some (.int .u8 (b8 x)) := hx0
        clear hv hc hx0
        by_cases hx1 : x.toNat = 0
        · have e2 : (b8 x == 0) = true := by unfold b8; simp; omega
          obtain ⟨c0, c1, c2, z0, z1, z2⟩ := (HR0.out.drewN q).three
          go_wp2
          obtain ⟨d0, d1, d2⟩ := (HR0.out.drewN q).set3 (.int .i64 1) (.int .u64 (m : Int)) (.slice none 0 0)
          refine bodyPost_ret (v := .tuple #[pcV ⟨1, m, []⟩ (.slice none 0 0), .slice ov r.length cv, .bool true]) (by simp [results, Try.results17, go_sem, d0, d1, d2, pcV]) rfl ⟨?_, .inr ⟨_, r, _, _, cutP_num x _ r m hx1 HCN.out, rfl, OwnB.nil _ _, HV.out.above HB0.out hN⟩⟩
          exact below_set3 (HB0.out.trans (drewN_below w0 q _)) (Nat.le_refl _) _ _ _
        · have e2 : (b8 x == 0) = false := by unfold b8; simp; omega
          have HCP := hid (cutP_bytes x _ r m (by omega) HCN.out)
          have hrl : r.length ≤ 140737488355328 := by have := HN.out; simp at this; omega
          have hwr : IntKind.u64.wrap (r.length : Int) = (r.length : Int) := wrap64 _ (by omega)
          by_cases hgt : r.length < m
          · have e3 : decide ((r.length : Int) < (m : Int)) = true := by simp; omega
            obtain ⟨c0, c1, c2, z0, z1, z2⟩ := (HR0.out.drewN q).three
            go_wp2
            obtain ⟨d0, d1, d2⟩ := (HR0.out.drewN q).set3 (.int .i64 0) (.int .u64 0) (.slice none 0 0)
            refine bodyPost_ret (v := .tuple #[pcV ⟨0, 0, []⟩ (.slice none 0 0), .slice none 0 0, .bool false]) (by simp [results, Try.results17, go_sem, d0, d1, d2, pcV]) rfl ⟨?_, .inl ⟨by rw [HCP.out, if_pos hgt], rfl⟩⟩
            exact below_set3 (HB0.out.trans (drewN_below w0 q _)) (Nat.le_refl _) _ _ _
          · have e3 : decide ((r.length : Int) < (m : Int)) = false := by simp; omega
            obtain ⟨v1, hs1, hv1⟩ := slice_to HV.out .u64 m (by omega)
            obtain ⟨v2, hs2, hv2⟩ := slice_from HV.out .u64 m (by omega)
            have HV2 := hid (hv2.above HB0.out hN)
            obtain ⟨t, ht⟩ : ∃ t, r.take m = t := ⟨_, rfl⟩
            rw [ht] at hv1
            have htl : t.length ≤ 140737488355328 := by rw [← ht]; simp; omega
            have HT := hid (show cutP (x :: (numB m ++ r)) = some (⟨2, 0, t⟩, r.drop m) by rw [HCP.out, if_neg hgt, ht])
            clear ht
            have HCL := hid (fun (k : Nat) => clone_any t v1 N (w0.drewN k) (hv1.below (drewN_below _ _ _)) (by show N ≤ w0.heap.size; omega) htl)
            clear hv1 hv2
            go_wp2_with fail
            have HBD : Hid (Below w0.heap.size w0 (w0.drewN (q + 1))) := hid (drewN_below _ _ _)
            go_region_with (go_at_call 19; refine (HCL.out _).mono ?_; rintro e wc ⟨vc, rfl, hvc, hbc⟩; obtain ⟨ovc, cvc, rfl, hcvc⟩ := hvc.shape; have hrow := hid (HR0.out.below ((drewN_below w0 _ _).trans hbc) (Nat.lt_of_lt_of_eq (Nat.lt_succ_self _) hsz0.symm)); have hbc' := (drewN_below w0 _ _).trans hbc; have HBC := hid hbc'; have HVC := hid hvc; obtain ⟨c0, c1, c2, z0, z1, z2⟩ := (HR0.out.below hbc' (Nat.lt_of_lt_of_eq (Nat.lt_succ_self _) hsz0.symm)).three; clear hbc hbc' hvc)
            go_wp2
            obtain ⟨d0, d1, d2⟩ := hrow.out.set3 (.int .i64 2) (.int .u64 0) (.slice ovc t.length cvc)
            refine bodyPost_ret (v := .tuple #[pcV ⟨2, 0, t⟩ (.slice ovc t.length cvc), v2, .bool true]) (by simp [results, Try.results17, go_sem, d0, d1, d2, pcV]) rfl ⟨?_, .inr ⟨_, _, _, _, HT.out, rfl, ?_, HV2.out⟩⟩
            · exact below_set3 (HB0.out.trans (HBC.out.mono (show w.heap.size ≤ w0.heap.size by omega))) (Nat.le_refl _) _ _ _
            · refine (OwnB.set3 HVC.out (show w.heap.size < w0.heap.size by omega) _ _ _).mono (show w.heap.size ≤ w0.heap.size by omega)
end Go.Proofs.Ythogidagokdipab
