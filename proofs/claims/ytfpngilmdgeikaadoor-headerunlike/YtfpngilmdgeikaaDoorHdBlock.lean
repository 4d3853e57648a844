/-
  What the law's block does: a header of the validators' digest.
-/
import Derived.Test.YtfpngilmdgeikaaDoorHdFours
import Derived.Test.YtfpngilmdgeikaaDoorHdRDig
import Derived.Test.YtfpngilmdgeikaaDoorHdSignAll
import Derived.Test.YtfpngilmdgeikaaDoorHdCheck
namespace Go.Proofs.YtfpngilmdgeikaaDoor
open Go.RowKit

/-- what every law asks first -/
def AliveC6 (f : FuncId) : Prop := ∀ (w : World), tableAt w → Calls Tryd.prog f #[] w fun e w' => e = .returned (.bool true) ∧ Below w.heap.size w w'
theorem votesOf_okA (seeds : List (List (BitVec 8))) (m : List (BitVec 8)) (l : List Vl) : ∀ t ∈ votesOf seeds m l, t.ok := by
  intro t ht
  obtain ⟨v, _, rfl⟩ := List.mem_map.1 ht
  unfold voteOf
  split
  · exact ⟨by simp [Vt.none], by simp [Vt.none]⟩
  · rename_i s _
    exact ⟨by have := sealR_lt s m; simp only; omega, by have := sealS_lt s m; simp only; omega⟩
theorem signS_fitsA (h : Hd) (l : List Vl) (seeds : List (List (BitVec 8))) (hf : h.fits) (hok : ∀ v ∈ l, v.ok) : (signS h l seeds).fits := by
  by_cases e : togetherN h l = 0
  · rw [signS_ok e]
    have := (valsN_ok (togetherN_ok e).2.1).2.1
    exact ⟨hf, by simp only; omega, by simp only [votesOf, List.length_map]; omega, hok, votesOf_okA _ _ _⟩
  · rw [signS_no e]
    refine ⟨⟨?_, ?_, ?_, ?_⟩, ?_, ?_, ?_, ?_⟩ <;> simp [Sg.none, Hd.none]
    decide
theorem blockH_fits (l : List Vl) : (blockH l).fits := by
  refine ⟨by show (1 : Nat) ≤ _; omega, ?_, ?_, ?_⟩ <;> simp only [blockH, digV_length] <;> omega
theorem elemL : Tryd.prog.underlying 26 = some (.slice (Tryd.prog.elem 26)) := by kernel_rfl
theorem sizeL (w : World) : (sizeOf (Tryd.prog.elem 26)).run Tryd.prog w = .ok 1 w := by kernel_rfl
theorem lists_to {w : World} {N : Nat} {oa : Option Addr} {n ca : Nat} {ls : List (List (BitVec 8))} (h : Lists w N (.slice oa n ca) ls) (kd : IntKind) (j : Nat) (h0 : 0 < j) (hj : j ≤ n) :
    ∃ v, (∀ w', (Instr.sliceAt 26 (.slice oa n ca) none (some (.int kd (j : Int))) none).run Tryd.prog w' = .ok v w') ∧ Lists w N v (ls.take j) := by
  obtain ⟨oa', ca', he, hc⟩ := h.shape
  obtain ⟨rfl, hn, rfl⟩ : oa = oa' ∧ n = ls.length ∧ ca = ca' := by simpa using he
  subst hn
  refine ⟨sliced oa 0 j ca 1, fun w' => ?_, ?_⟩
  · rw [run_sliceAt_slice w' _ _ _ _ _ elemL, run_slice_h w' _ _ _ _ elemL kd (j : Int) (by omega) (by omega), sizeL]
    rfl
  · obtain ⟨b, off, rfl, hx⟩ := h.some (by omega)
    have hne : ¬ ca = 0 := by omega
    have hl : (ls.take j).length = j := by simp; omega
    refine .inr (.inr ⟨b, off, ca, ?_, by rw [hl]; omega, fun i hi => ?_⟩)
    · rw [hl]
      simp [sliced, Addr.add]
    · rw [hl] at hi
      obtain ⟨h1, x, h2, h3⟩ := hx i (by omega)
      refine ⟨h1, x, h2, ?_⟩
      rw [show (ls.take j).getD i [] = ls.getD i [] by simp [List.getD, hi]]
      exact h3
set_option maxRecDepth 100000 in
set_option maxHeartbeats 4000000 in
theorem block_any (l : List Vl) (lv : Value) (N : Nat) (w : World) (htab : tableAt w) (hl : Vals w N lv l) (hN : N ≤ w.heap.size) (h10 : l.length ≤ 10) (hok : ∀ v ∈ l, v.ok) :
    Calls Tryd.prog 65 #[lv] w fun e w' => ∃ v, e = .returned v ∧ HdV w' w'.heap.size v (blockH l) ∧ Below w.heap.size w w' := by
  have HL := hid hl
  have HTAB := hid htab
  have HOK := hid hok
  obtain ⟨ol, cl, rfl, _⟩ := hl.shape
  obtain ⟨w1, hw1⟩ : ∃ w1, w.alloc (.cells #[.string ⟨#[]⟩, .int .i64 0, .int .i64 0, .slice none 0 0, .slice none 0 0, .slice none 0 0] 25) = w1 := ⟨_, rfl⟩
  have hb1 : Below w.heap.size w w1 := by rw [← hw1]; exact (Below.refl _ _).alloc (Nat.le_refl _) _
  have hr1 : Row w1 w.heap.size 25 [.string ⟨#[]⟩, .int .i64 0, .int .i64 0, .slice none 0 0, .slice none 0 0, .slice none 0 0] := by rw [← hw1]; exact Row.new _ _ _
  have HD := hid (refDigestC l _ N w1 (HTAB.out.below hb1 HTAB.out.lt) (HL.out.below (hb1.mono hN)) (Nat.le_trans hN hb1.size) h10 HOK.out)
  have HB1 := hid hb1
  have HR1 := hid hr1
  clear hl htab hok hb1 hr1
  go_enter Tryd.func65, Tryd.ntmps65
  go_wp2_with fail
  refine HD.out.mono ?_
  rintro e w2 ⟨x, rfl, hx, hb2⟩
  have HX := hid hx
  have HB2 := hid (HB1.out.trans (hb2.mono HB1.out.size))
  have hr2 := HR1.out.below hb2 HR1.out.lt
  have HR2 := hid hr2
  obtain ⟨ox, cx, rfl, _⟩ := hx.shape
  obtain ⟨k0, k1, k2, k3, k4, k5⟩ := hr2.six
  have z0 := hr2.frozen 0
  have z1 := hr2.frozen 1
  have z2 := hr2.frozen 2
  have z3 := hr2.frozen 3
  have z4 := hr2.frozen 4
  have z5 := hr2.frozen 5
  clear hx hb2 hw1 hr2
  generalize (digV l).length = dn at *
  go_wp2
  have hrz : Row _ w.heap.size 25 [.string ⟨#[97]⟩, .int .i64 1, .int .i64 5, .slice ox dn cx, .slice ox dn cx, .slice ox dn cx] :=
    (((((HR2.out.set 0 (.string ⟨#[97]⟩)).set 1 (.int .i64 1)).set 2 (.int .i64 5)).set 3 (.slice ox dn cx)).set 4 (.slice ox dn cx)).set 5 (.slice ox dn cx)
  obtain ⟨r0, r1, r2, r3, r4, r5⟩ := hrz.six
  refine bodyPost_ret (v := .agg #[.string ⟨#[97]⟩, .int .i64 1, .int .i64 5, .slice ox dn cx, .slice ox dn cx, .slice ox dn cx]) (by simp [results, Tryd.results65, go_sem, r0, r1, r2, r3, r4, r5]) rfl ⟨_, rfl, ?_, ?_⟩
  · have key := HX.out.only HR2.out rfl (fun k hk => by
      show ((((((w2.setCell ⟨w.heap.size, 0, none⟩ (.string ⟨#[97]⟩)).setCell ⟨w.heap.size, 1, none⟩ (.int .i64 1)).setCell ⟨w.heap.size, 2, none⟩ (.int .i64 5)).setCell ⟨w.heap.size, 3, none⟩ (.slice ox dn cx)).setCell ⟨w.heap.size, 4, none⟩ (.slice ox dn cx)).setCell ⟨w.heap.size, 5, none⟩ (.slice ox dn cx)).heap[k]? = w2.heap[k]?
      rw [heap_setCell_other _ _ _ _ hk, heap_setCell_other _ _ _ _ hk, heap_setCell_other _ _ _ _ hk, heap_setCell_other _ _ _ _ hk, heap_setCell_other _ _ _ _ hk, heap_setCell_other _ _ _ _ hk])
    have key' := key.mono (M := ((((((w2.setCell ⟨w.heap.size, 0, none⟩ (.string ⟨#[97]⟩)).setCell ⟨w.heap.size, 1, none⟩ (.int .i64 1)).setCell ⟨w.heap.size, 2, none⟩ (.int .i64 5)).setCell ⟨w.heap.size, 3, none⟩ (.slice ox dn cx)).setCell ⟨w.heap.size, 4, none⟩ (.slice ox dn cx)).setCell ⟨w.heap.size, 5, none⟩ (.slice ox dn cx)).heap.size) (by simp)
    exact ⟨_, _, _, rfl, key', key', key'⟩
  · have hle : w.heap.size ≤ w.heap.size := Nat.le_refl _
    exact (((((HB2.out.setCell hle _).setCell hle _).setCell hle _).setCell hle _).setCell hle _).setCell hle _
end Go.Proofs.YtfpngilmdgeikaaDoor
