/-
  What the document's Digest answers: the digest of validators' bytes, in new memory.
-/
import Derived.Test.YtiflkkelbnpniaaGreatDoorHdCheck
namespace Go.Proofs.YtiflkkelbnpniaaGreatDoor
open Go.RowKit

set_option maxRecDepth 100000 in
set_option maxHeartbeats 4000000 in
theorem refDigRegion {y0 y1 y2 y4 y6 y7 y8 y9 y10 y11 y20 y21 y22 y23 y24 z12 z13 z14 z15 z16 z17 z18 z19 : Value} {g base : Nat} (sv : Value) (m n : Nat) (ns : List Nat) {w : World} (hr : Hid (Row w g 89 [.int .u64 (m : Int), .int .u64 (n : Int)])) (hown : Hid (OwnN w base sv ns)) (hl : ns.length ≤ 1000) (hbase : base ≤ w.heap.size) (Q : Exit → Act → World → Prop)
    (hQ : Hid (∀ (σ : Nat → Value) (v' : Value) (w' : World), OwnN w' base v' (ns ++ [m, n]) → Below base w w' → Q .normal ⟨#[y0, y1, y2, v', y4, .pointer (some ⟨g, 0, none⟩), y6, y7, y8, y9, y10, y11, σ 0, σ 1, σ 2, σ 3, σ 4, σ 5, σ 6, σ 7, v', y21, y22, y23, y24], []⟩ w')) :
    Code.wp Tryz.prog (.region 5 ((Tryz.f22.body.bind (regOf 5)).getD #[]) true) Q ⟨#[y0, y1, y2, sv, y4, .pointer (some ⟨g, 0, none⟩), y6, y7, y8, y9, y10, y11, z12, z13, z14, z15, z16, z17, z18, z19, y20, y21, y22, y23, y24], []⟩ w := by
  conv => arg 2; arg 2; whnf
  conv => arg 4; dsimp only
  refine region_grows_tail 8 (by kernel_rfl) (fun σ => #[y0, y1, y2, sv, y4, .pointer (some ⟨g, 0, none⟩), y6, y7, y8, y9, y10, y11, σ 0, σ 1, σ 2, σ 3, σ 4, σ 5, σ 6, σ 7, y20, y21, y22, y23, y24]) (fun i => ([z12, z13, z14, z15, z16, z17, z18, z19] : List Value).getD i undef) rfl (fun i X W => match i with
    | 0 => X = sv
    | 1 => X = .pointer (some ⟨g, 0, none⟩)
    | 2 => X = .int .u64 (m : Int)
    | 3 => X = .agg #[.int .i64 1, .int .u64 (m : Int), .slice none 0 0]
    | 4 => X = .pointer (some ⟨g, 1, none⟩)
    | 5 => X = .int .u64 (n : Int)
    | 6 => X = .agg #[.int .i64 1, .int .u64 (n : Int), .slice none 0 0]
    | 7 => ∃ k, X = .slice (some ⟨k, 0, none⟩) 2 2 ∧ Row W k 91 (numCells m ++ numCells n)
    | _ => True) ?_ (by kernel_rfl) ?_ ?_
  · intro i X W W' HB H
    match i, H with
    | 0, H => exact H
    | 1, H => exact H
    | 2, H => exact H
    | 3, H => exact H
    | 4, H => exact H
    | 5, H => exact H
    | 6, H => exact H
    | 7, H => exact by obtain ⟨k, h1, h2⟩ := H; exact ⟨k, h1, h2.below HB h2.lt⟩
    | _ + 8, _ => exact trivial
  · refine ⟨?_, ?_, ?_, ?_, ?_, ?_, ?_, ?_, trivial⟩
    · -- 0: Op.move t3
      intro σ W HJ hdep
      simp [Region.binds] at hdep
      have HJ := hid HJ
      refine wpOp_plain rfl rfl ?_
      go_simp
      exact Left.mk0 sv (by first | rfl | simp [updF, *]) HJ.out rfl
    · -- 1: Op.fieldAddr 45 t5 0
      intro σ W HJ hdep
      simp [Region.binds] at hdep
      have HJ := hid HJ
      refine wpOp_plain rfl rfl ?_
      go_simp
      exact Left.mk0 (.pointer (some ⟨g, 0, none⟩)) (by first | rfl | simp [updF, *]) HJ.out rfl
    · -- 2: Op.load 43 t13
      intro σ W HJ hdep
      simp [Region.binds] at hdep
      have HJ := hid HJ
      have k := (hr.out.below HJ.out hr.out.lt).cell 0
      simp at k
      refine wpOp_plain rfl rfl ?_
      go_simp
      exact Left.mk0 (.int .u64 (m : Int)) (by first | rfl | simp [updF, *]) HJ.out rfl
    · -- 3: Op.call { value (Operand.func 43), args := #[t14], argTypes 
      intro σ W HJ hdep
      simp [Region.binds] at hdep
      have HJ := hid HJ
      refine wpOp_plain rfl rfl ?_
      go_simp
      refine (refU m W).mono ?_
      rintro e w2 ⟨rfl, hb2⟩
      exact Left.mk (.agg #[.int .i64 1, .int .u64 (m : Int), .slice none 0 0]) (by first | rfl | simp [updF, *]) hb2 HJ.out rfl
    · -- 4: Op.fieldAddr 45 t5 1
      intro σ W HJ hdep
      simp [Region.binds] at hdep
      have HJ := hid HJ
      refine wpOp_plain rfl rfl ?_
      go_simp
      exact Left.mk0 (.pointer (some ⟨g, 1, none⟩)) (by first | rfl | simp [updF, *]) HJ.out rfl
    · -- 5: Op.load 43 t16
      intro σ W HJ hdep
      simp [Region.binds] at hdep
      have HJ := hid HJ
      have k := (hr.out.below HJ.out hr.out.lt).cell 1
      simp at k
      refine wpOp_plain rfl rfl ?_
      go_simp
      exact Left.mk0 (.int .u64 (n : Int)) (by first | rfl | simp [updF, *]) HJ.out rfl
    · -- 6: Op.call { value (Operand.func 43), args := #[t17], argTypes 
      intro σ W HJ hdep
      simp [Region.binds] at hdep
      have HJ := hid HJ
      refine wpOp_plain rfl rfl ?_
      go_simp
      refine (refU n W).mono ?_
      rintro e w2 ⟨rfl, hb2⟩
      exact Left.mk (.agg #[.int .i64 1, .int .u64 (n : Int), .slice none 0 0]) (by first | rfl | simp [updF, *]) hb2 HJ.out rfl
    · -- 7: Op.buildSlice 67 2 #[(0, t15), (1, t18)]
      intro σ W HJ hdep
      simp [Region.binds] at hdep
      have HJ := hid HJ
      obtain ⟨e1, e2⟩ := hdep
      refine wpOp_plain rfl rfl ?_
      go_simp
      exact Left.mk (.slice (some ⟨W.heap.size, 0, none⟩) 2 2) (by first | rfl | simp [updF, *]) ((Below.refl _ _).alloc (Nat.le_refl _) _) HJ.out ⟨W.heap.size, rfl, Row.new _ _ _⟩
  · intro σ W hj hg
    have HJ := hid hj
    clear hj
    simp only [List.drop_succ_cons, List.drop_zero]
    have e0 : σ 0 = sv := hg 0 (by decide)
    obtain ⟨k, e7, hrow⟩ : ∃ k, σ 7 = .slice (some ⟨k, 0, none⟩) 2 2 ∧ Row W k 91 (numCells m ++ numCells n) := hg 7 (by decide)
    refine wpList_append_two rfl (.tmp 12) (.tmp 19) rfl base sv ns e0 (OwnN.below hown.out HJ.out) k m n e7 hrow hl (Nat.le_trans hbase HJ.out.size) ?_
    intro v' w' hown2 hb2
    have HO2 := hid hown2
    have HB2 := hid ((HJ.out.mono hbase).trans hb2)
    clear hown2 hb2 hrow e0 e7 hg
    go_wp2
    exact hQ.out σ v' w' HO2.out HB2.out
set_option maxRecDepth 100000 in
set_option maxHeartbeats 2000000 in
theorem refDigestC : DigestC 22 := by
  intro l sv N w _ hb hN hlen hok
  obtain ⟨oa, ca, rfl, hca⟩ := hb.shape
  have HB := hid hb
  have HX := hid (wrAll_vals l hlen hok)
  have HXL := hid (vBytes_length l hlen hok)
  have HFIT := hid (vPieces_fits l hok)
  have HPL := hid (vPieces_length l)
  clear hb hok
  generalize hn : l.length = n at *
  have HN := hid hn
  clear hn
  go_enter Tryz.func22, Tryz.ntmps22
  go_wp2_with fail
  go_loopw [3, 5, 8] (fun y _ i wr => ∃ k : Nat, k ≤ n ∧ i = .int .i64 (k : Int) ∧ Hid (OwnN wr w.heap.size y (vNums (l.take k)) ∧ Below w.heap.size w wr)) (fun _ _ i _ => n - (intOf i).toNat)
  case atStart => exact ⟨0, by omega, rfl, hid ⟨World.ownsRow_nil _ _ _ _, Below.refl _ _⟩⟩
  case round =>
    obtain ⟨k, hk, rfl, HT⟩ := hrel
    have hszr := HT.out.2.size
    by_cases hlt : k < n
    · obtain ⟨v, hv⟩ : ∃ v, l[k]? = some v := ⟨l[k]'(by rw [HN.out]; exact hlt), List.getElem?_eq_getElem _⟩
      obtain ⟨b, o, rfl, hcells⟩ := HB.out.spot (by omega)
      obtain ⟨hbN, d0, d1⟩ := hcells k v hv
      have hbl : b < w.heap.size := by omega
      have f0 := (HT.out.2.cell (p := ⟨b, o + k * 2, none⟩) hbl).trans d0
      have f1 := (HT.out.2.cell (p := ⟨b, o + k * 2 + 1, none⟩) hbl).trans d1
      have hlt' : (k : Int) < (n : Int) := by omega
      obtain ⟨w2, hw2⟩ : ∃ w2, wr.alloc (.cells #[.int .u64 (v.key : Int), .int .u64 (v.power : Int)] 89) = w2 := ⟨_, rfl⟩
      have hbr2 : Below wr.heap.size wr w2 := by rw [← hw2]; exact (Below.refl _ _).alloc (Nat.le_refl _) _
      have HB2 := hid (HT.out.2.trans (hbr2.mono hszr))
      have HRW := hid (show Row w2 wr.heap.size 89 [.int .u64 (v.key : Int), .int .u64 (v.power : Int)] by rw [← hw2]; exact Row.new _ _ _)
      have HO2 := hid (HT.out.1.below hbr2)
      have HW2 := hid hw2
      have HNT := hid (vNums_take l k v hv)
      have hns : (vNums (l.take k)).length ≤ 1000 := by rw [vNums_len]; simp; omega
      have HSZ2 := hid HB2.out.size
      clear d0 d1 hbr2 hw2 hcells
      go_wp2_with fail
      rw [HW2.out]
      refine refDigRegion _ v.key v.power (vNums (l.take k)) HRW HO2 hns HSZ2.out _ (hid ?_)
      intro σ v2 w3 hown3 hb3
      have HO3 := hid hown3
      have HB3 := hid hb3
      clear hown3 hb3
      go_wp2_with fail
      go_roundw
      case rel => exact ⟨k + 1, by omega, by go_num, hid ⟨by rw [HNT.out]; exact HO3.out, HB2.out.trans HB3.out⟩⟩
      case measure => simp [intOf]; omega
    · have hge : decide ((k : Int) < (n : Int)) = false := by simp; omega
      have hkl : l.take k = l := List.take_of_length_le (by rw [HN.out]; omega)
      have hp0 := HT.out.1.pieces
      rw [hkl, vNums_pieces] at hp0
      have HP := hid hp0
      obtain ⟨oy, cy, rfl⟩ := HT.out.1.shape
      clear hkl hp0
      generalize (vNums (l.take k)).length = m at *
      have HC := hid (refPieces_any (vPieces l) (vBytes l) _ wr.heap.size wr HP.out (Nat.le_refl _) (by have := HPL.out; omega) HFIT.out HX.out)
      go_wp2_with fail
      refine HC.out.mono ?_
      rintro e w4 ⟨v, rfl, ho, hb4⟩
      obtain ⟨ov, cv, rfl, hcv⟩ := ho.shape
      have HO := hid ho
      have HB4 := hid (HT.out.2.trans (hb4.mono hszr))
      clear ho hb4 HC hcv
      have HS := hid (refSum_any (vBytes l) _ w4.heap.size w4 (Nat.le_refl _) HO.out (by have := HXL.out; omega))
      generalize (vBytes l).length = m2 at *
      go_wp2_with fail
      refine HS.out.mono ?_
      rintro e w6 ⟨v6, rfl, hown6, hb6⟩
      have HO6 := hid (ownsRow_bytes hown6)
      have HB6 := hid hb6
      clear hown6 hb6
      go_wp2
      go_ret
      exact ⟨_, rfl, HO6.out, HB4.out.trans (HB6.out.mono HB4.out.size)⟩
end Go.Proofs.YtiflkkelbnpniaaGreatDoor
