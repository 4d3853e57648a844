/-
  What Digest answers, the landed one and the document's: the digest of validators' bytes, in new memory.
-/
import Derived.Test.YtfpngilmdgeikaaDoorHdPc
import Derived.Test.YtfpngilmdgeikaaDoorRegions
import Derived.Test.YtfpngilmdgeikaaDoorShaSum
import Derived.Test.YtfpngilmdgeikaaDoorRef1All
import Derived.Laws.MakeOwn
namespace Go.Proofs.YtfpngilmdgeikaaDoor
open Go.RowKit

def numCells (n : Nat) : List Value := [.int .i64 1, .int .u64 (n : Int), .slice none 0 0]
/-- a row of numbers' pieces that a call owns -/
def OwnN (w : World) (base : Nat) (v : Value) (ns : List Nat) : Prop := w.ownsRow base 91 3 v ns.length (ns.flatMap numCells)
theorem OwnN.below {w w' : World} {base : Nat} {v : Value} {ns : List Nat} (h : OwnN w base v ns) (hg : Below w.heap.size w w') : OwnN w' base v ns := ownsRow_below h hg
theorem OwnN.shape {w : World} {base : Nat} {v : Value} {ns : List Nat} (h : OwnN w base v ns) : ∃ oa cap, v = .slice oa ns.length cap := by
  obtain ⟨_, h2⟩ := h
  rcases h2 with ⟨rfl, h3⟩ | ⟨g, cap, cur, rfl, _⟩
  · exact ⟨none, 0, by rw [h3]⟩
  · exact ⟨_, cap, rfl⟩
theorem OwnN.pieces {w : World} {base : Nat} {v : Value} {ns : List Nat} (h : OwnN w base v ns) : Pieces w w.heap.size v (ns.map fun n => ⟨1, n, []⟩) := by
  have e : (ns.map fun n => ((⟨1, n, []⟩ : Pc), Value.slice none 0 0)).map (·.1) = ns.map fun n => ⟨1, n, []⟩ := by simp
  rw [← e]
  refine OwnP.pieces (base := base) ⟨?_, fun q hq => ?_⟩
  · have : (ns.map fun n => ((⟨1, n, []⟩ : Pc), Value.slice none 0 0)).flatMap pcCells = ns.flatMap numCells := by rw [List.flatMap_map]; rfl
    rw [this, List.length_map]
    exact h
  · obtain ⟨n, _, rfl⟩ := List.mem_map.1 hq
    exact OwnB.nil _ _
theorem row_source {w : World} {g : Nat} {t : TypeId} {cs : List Value} (h : Row w g t cs) : ∀ (j : Nat) (x : Value), cs[j]? = some x → w.cell? ((⟨g, 0, none⟩ : Addr).add j) = some x := by
  intro j x hx
  have hadd : (⟨g, 0, none⟩ : Addr).add j = ⟨g, j, none⟩ := by unfold Addr.add; split <;> simp_all
  rw [hadd, h.cell, hx]
theorem wpList_append_two {ops : Array Oper} {rest : List Oper} {o : Oper} {a : Act} {w : World} {Q : Exit → Act → World → Prop} (hgd : o.guard = none) (s x : Operand)
    (ho : o.op = .call { callee := .builtin .append, args := #[s, x], argTypes := #[89, 89] })
    (base : Nat) (v : Value) (ns : List Nat) (hs : a.eval s = v) (hown : OwnN w base v ns) (g m n : Nat) (hx : a.eval x = .slice (some ⟨g, 0, none⟩) 2 2) (hrow : Row w g 91 (numCells m ++ numCells n)) (hl : ns.length ≤ 1000) (hbase : base ≤ w.heap.size)
    (h : ∀ v' w', OwnN w' base v' (ns ++ [m, n]) → Below base w w' → wpList Tryd.prog ops Q rest (a.put o.dst v') w') : wpList Tryd.prog ops Q (o :: rest) a w := by
  obtain ⟨i0, hi0, hz0, hz1, hz2⟩ := info_parts info_piece
  refine wpList_append_own _ hgd s x 89 ho base 91 i0 _ 3 40 Tryd.underlying89 hi0 hz0 hz1 hz2 rfl (by decide) v ns.length (ns.flatMap numCells) hs hown ⟨g, 0, none⟩ 2 2
    (numCells m ++ numCells n) hx rfl (row_source hrow) (by simp [numCells, Value.oneCell']) (by unfold maxLen; omega) (by omega) hbase ?_
  intro v' w' h1 h2 _
  refine h v' w' ?_ ((Below.refl base _).grown h2 hbase (fun k hk => (hown.lt k hk).1))
  unfold OwnN
  rw [List.length_append, List.flatMap_append]
  have e : [m, n].flatMap numCells = numCells m ++ numCells n := by simp
  rw [e]
  exact h1
def vNums (l : List Vl) : List Nat := l.flatMap fun v => [v.key, v.power]
theorem vNums_take (l : List Vl) (k : Nat) (v : Vl) (h : l[k]? = some v) : vNums (l.take (k + 1)) = vNums (l.take k) ++ [v.key, v.power] := by
  obtain ⟨hk, rfl⟩ := List.getElem?_eq_some_iff.1 h
  rw [List.take_succ_eq_append_getElem hk]
  unfold vNums
  rw [List.flatMap_append]
  rfl
theorem vNums_pieces (l : List Vl) : (vNums l).map (fun n => (⟨1, n, []⟩ : Pc)) = vPieces l := by
  unfold vNums vPieces
  rw [List.map_flatMap]
  rfl
theorem vNums_len (l : List Vl) : (vNums l).length = 2 * l.length := by
  have := vPieces_length l
  rw [← vNums_pieces, List.length_map] at this
  exact this
theorem vPieces_fits (l : List Vl) (h : ∀ v ∈ l, v.ok) : ∀ p ∈ vPieces l, p.fits := by
  intro p hp
  obtain ⟨v, hv, hm⟩ := List.mem_flatMap.1 hp
  obtain ⟨h1, h2⟩ := h v hv
  simp at hm
  rcases hm with rfl | rfl
  · exact ⟨h1, by simp⟩
  · exact ⟨h2, by simp⟩
/-- what Digest is to answer, of few validators -/
def DigestC (f : FuncId) : Prop := ∀ (l : List Vl) (sv : Value) (N : Nat) (w : World), tableAt w → Vals w N sv l → N ≤ w.heap.size → l.length ≤ 10 → (∀ v ∈ l, v.ok) →
  Calls Tryd.prog f #[sv] w fun e w' => ∃ x, e = .returned x ∧ Bytes w' w'.heap.size x (digV l) ∧ Below w.heap.size w w'
set_option maxRecDepth 100000 in
set_option maxHeartbeats 4000000 in
theorem digRegion {y0 y1 y2 y4 y6 y7 y8 y9 y10 y11 y12 y13 y14 y15 y16 y17 y18 y19 y20 y29 y30 y31 y32 y33 y34 y35 y36 y37 z21 z22 z23 z24 z25 z26 z27 z28 : Value} {g base : Nat} (sv : Value) (m n : Nat) (ns : List Nat) {w : World} (hr : Hid (Row w g 45 [.int .u64 (m : Int), .int .u64 (n : Int)])) (hown : Hid (OwnN w base sv ns)) (hl : ns.length ≤ 1000) (hbase : base ≤ w.heap.size) (Q : Exit → Act → World → Prop)
    (hQ : Hid (∀ (σ : Nat → Value) (v' : Value) (w' : World), OwnN w' base v' (ns ++ [m, n]) → Below base w w' → Q .normal ⟨#[y0, y1, y2, v', y4, .pointer (some ⟨g, 0, none⟩), y6, y7, y8, y9, y10, y11, y12, y13, y14, y15, y16, y17, y18, y19, y20, σ 0, σ 1, σ 2, σ 3, σ 4, σ 5, σ 6, σ 7, v', y30, y31, y32, y33, y34, y35, y36, y37], []⟩ w')) :
    Code.wp Tryd.prog (.region 7 ((Tryd.f23.body.bind (regOf 7)).getD #[]) true) Q ⟨#[y0, y1, y2, sv, y4, .pointer (some ⟨g, 0, none⟩), y6, y7, y8, y9, y10, y11, y12, y13, y14, y15, y16, y17, y18, y19, y20, z21, z22, z23, z24, z25, z26, z27, z28, y29, y30, y31, y32, y33, y34, y35, y36, y37], []⟩ w := by
  conv => arg 2; arg 2; whnf
  conv => arg 4; dsimp only
  refine region_grows_tail 8 (by kernel_rfl) (fun σ => #[y0, y1, y2, sv, y4, .pointer (some ⟨g, 0, none⟩), y6, y7, y8, y9, y10, y11, y12, y13, y14, y15, y16, y17, y18, y19, y20, σ 0, σ 1, σ 2, σ 3, σ 4, σ 5, σ 6, σ 7, y29, y30, y31, y32, y33, y34, y35, y36, y37]) (fun i => ([z21, z22, z23, z24, z25, z26, z27, z28] : List Value).getD i undef) rfl (fun i X W => match i with
    | 0 => X = sv
    | 1 => X = .pointer (some ⟨g, 0, none⟩)
    | 2 => X = .int .u64 (m : Int)
    | 3 => X = .agg #[.int .i64 1, .int .u64 (m : Int), .slice none 0 0]
    | 4 => X = .pointer (some ⟨g, 1, none⟩)
    | 5 => X = .int .u64 (n : Int)
    | 6 => X = .agg #[.int .i64 1, .int .u64 (n : Int), .slice none 0 0]
    | 7 => ∃ k, X = .slice (some ⟨k, 0, none⟩) 2 2 ∧ Row W k 91 (numCells m ++ numCells n)
    | _ => True) ?_ (by kernel_rfl) ?_ ?_
  · intro i X W W' HB H
    match i, H with
    | 0, H => exact H
    | 1, H => exact H
    | 2, H => exact H
    | 3, H => exact H
    | 4, H => exact H
    | 5, H => exact H
    | 6, H => exact H
    | 7, H => exact by obtain ⟨k, h1, h2⟩ := H; exact ⟨k, h1, h2.below HB h2.lt⟩
    | _ + 8, _ => exact trivial
  · refine ⟨?_, ?_, ?_, ?_, ?_, ?_, ?_, ?_, trivial⟩
    · -- 0: Op.move t3
      intro σ W HJ hdep
      simp [Region.binds] at hdep
      have HJ := hid HJ
      refine wpOp_plain rfl rfl ?_
      go_simp
      exact Left.mk0 sv (by first | rfl | simp [updF, *]) HJ.out rfl
    · -- 1: Op.fieldAddr 45 t5 0
      intro σ W HJ hdep
      simp [Region.binds] at hdep
      have HJ := hid HJ
      refine wpOp_plain rfl rfl ?_
      go_simp
      exact Left.mk0 (.pointer (some ⟨g, 0, none⟩)) (by first | rfl | simp [updF, *]) HJ.out rfl
    · -- 2: Op.load 43 t22
      intro σ W HJ hdep
      simp [Region.binds] at hdep
      have HJ := hid HJ
      have k := (hr.out.below HJ.out hr.out.lt).cell 0
      simp at k
      refine wpOp_plain rfl rfl ?_
      go_simp
      exact Left.mk0 (.int .u64 (m : Int)) (by first | rfl | simp [updF, *]) HJ.out rfl
    · -- 3: Op.call { value (Operand.func 40), args := #[t23], argTypes 
      intro σ W HJ hdep
      simp [Region.binds] at hdep
      have HJ := hid HJ
      refine wpOp_plain rfl rfl ?_
      go_simp
      refine (numberC m W).mono ?_
      rintro e w2 ⟨rfl, hb2⟩
      exact Left.mk (.agg #[.int .i64 1, .int .u64 (m : Int), .slice none 0 0]) (by first | rfl | simp [updF, *]) hb2 HJ.out rfl
    · -- 4: Op.fieldAddr 45 t5 1
      intro σ W HJ hdep
      simp [Region.binds] at hdep
      have HJ := hid HJ
      refine wpOp_plain rfl rfl ?_
      go_simp
      exact Left.mk0 (.pointer (some ⟨g, 1, none⟩)) (by first | rfl | simp [updF, *]) HJ.out rfl
    · -- 5: Op.load 43 t25
      intro σ W HJ hdep
      simp [Region.binds] at hdep
      have HJ := hid HJ
      have k := (hr.out.below HJ.out hr.out.lt).cell 1
      simp at k
      refine wpOp_plain rfl rfl ?_
      go_simp
      exact Left.mk0 (.int .u64 (n : Int)) (by first | rfl | simp [updF, *]) HJ.out rfl
    · -- 6: Op.call { value (Operand.func 40), args := #[t26], argTypes 
      intro σ W HJ hdep
      simp [Region.binds] at hdep
      have HJ := hid HJ
      refine wpOp_plain rfl rfl ?_
      go_simp
      refine (numberC n W).mono ?_
      rintro e w2 ⟨rfl, hb2⟩
      exact Left.mk (.agg #[.int .i64 1, .int .u64 (n : Int), .slice none 0 0]) (by first | rfl | simp [updF, *]) hb2 HJ.out rfl
    · -- 7: Op.buildSlice 67 2 #[(0, t24), (1, t27)]
      intro σ W HJ hdep
      simp [Region.binds] at hdep
      have HJ := hid HJ
      obtain ⟨e1, e2⟩ := hdep
      refine wpOp_plain rfl rfl ?_
      go_simp
      exact Left.mk (.slice (some ⟨W.heap.size, 0, none⟩) 2 2) (by first | rfl | simp [updF, *]) ((Below.refl _ _).alloc (Nat.le_refl _) _) HJ.out ⟨W.heap.size, rfl, Row.new _ _ _⟩
  · intro σ W hj hg
    have HJ := hid hj
    clear hj
    simp only [List.drop_succ_cons, List.drop_zero]
    have e0 : σ 0 = sv := hg 0 (by decide)
    obtain ⟨k, e7, hrow⟩ : ∃ k, σ 7 = .slice (some ⟨k, 0, none⟩) 2 2 ∧ Row W k 91 (numCells m ++ numCells n) := hg 7 (by decide)
    refine wpList_append_two rfl (.tmp 21) (.tmp 28) rfl base sv ns e0 (OwnN.below hown.out HJ.out) k m n e7 hrow hl (Nat.le_trans hbase HJ.out.size) ?_
    intro v' w' hown2 hb2
    have HO2 := hid hown2
    have HB2 := hid ((HJ.out.mono hbase).trans hb2)
    clear hown2 hb2 hrow e0 e7 hg
    go_wp2
    exact hQ.out σ v' w' HO2.out HB2.out
set_option maxRecDepth 100000 in
set_option maxHeartbeats 2000000 in
theorem digestC : DigestC 23 := by
  intro l sv N w htab hb hN hlen hok
  obtain ⟨oa, ca, rfl, hca⟩ := hb.shape
  have HB := hid hb
  have HTAB := hid htab
  have HX := hid (wrAll_vals l hlen hok)
  have HXL := hid (vBytes_length l hlen hok)
  have HFIT := hid (vPieces_fits l hok)
  have HPL := hid (vPieces_length l)
  clear hb htab hok
  generalize hn : l.length = n at *
  have HN := hid hn
  clear hn
  have e1 : decide ((10 : Int) < (n : Int)) = false := by simp; omega
  obtain ⟨i0, hi0, hz0, hz1, hz2⟩ := info_parts info_piece
  obtain ⟨w1, hrun, hown1, hgr1⟩ := run_make_own (P := Tryd.prog) (w := w) w.heap.size 89 91 i0 _ 3 Tryd.underlying89 hi0 hz0 hz1 .i64 .i64 (2 * n) (by rw [hz2]; omega) (by unfold maxLen; omega) (Nat.le_refl _)
  have HO1 := hid (show OwnN w1 w.heap.size (.slice (some ⟨w.heap.size, 0, none⟩) 0 (2 * n)) (vNums (l.take 0)) from hown1)
  have HB1 := hid (show Below w.heap.size w w1 from ⟨hgr1.os, hgr1.tape, hgr1.output, hgr1.size, fun k hk => hgr1.block k hk (by simp)⟩)
  rw [show ((2 * n : Nat) : Int) = 2 * (n : Int) by omega] at hrun
  have hmul : IntKind.i64.wrap (2 * (n : Int)) = 2 * (n : Int) := by simp [IntKind.wrap, IntKind.bits, IntKind.signed]; split <;> omega
  clear hown1 hgr1
  go_enter Tryd.func23, Tryd.ntmps23
  go_wp2
  go_loopw [3, 5, 17] (fun y _ i wr => ∃ k : Nat, k ≤ n ∧ i = .int .i64 (k : Int) ∧ Hid (OwnN wr w.heap.size y (vNums (l.take k)) ∧ Below w.heap.size w wr)) (fun _ _ i _ => n - (intOf i).toNat)
  case atStart => exact ⟨0, by omega, rfl, hid ⟨HO1.out, HB1.out⟩⟩
  case round =>
    obtain ⟨k, hk, rfl, HT⟩ := hrel
    have hszr := HT.out.2.size
    by_cases hlt : k < n
    · obtain ⟨v, hv⟩ : ∃ v, l[k]? = some v := ⟨l[k]'(by rw [HN.out]; exact hlt), List.getElem?_eq_getElem _⟩
      obtain ⟨b, o, rfl, hcells⟩ := HB.out.spot (by omega)
      obtain ⟨hbN, d0, d1⟩ := hcells k v hv
      have hbl : b < w.heap.size := by omega
      have f0 := (HT.out.2.cell (p := ⟨b, o + k * 2, none⟩) hbl).trans d0
      have f1 := (HT.out.2.cell (p := ⟨b, o + k * 2 + 1, none⟩) hbl).trans d1
      have hlt' : (k : Int) < (n : Int) := by omega
      obtain ⟨w2, hw2⟩ : ∃ w2, wr.alloc (.cells #[.int .u64 (v.key : Int), .int .u64 (v.power : Int)] 45) = w2 := ⟨_, rfl⟩
      have hbr2 : Below wr.heap.size wr w2 := by rw [← hw2]; exact (Below.refl _ _).alloc (Nat.le_refl _) _
      have HB2 := hid (HT.out.2.trans (hbr2.mono hszr))
      have HRW := hid (show Row w2 wr.heap.size 45 [.int .u64 (v.key : Int), .int .u64 (v.power : Int)] by rw [← hw2]; exact Row.new _ _ _)
      have HO2 := hid (HT.out.1.below hbr2)
      have HW2 := hid hw2
      have HNT := hid (vNums_take l k v hv)
      have hns : (vNums (l.take k)).length ≤ 1000 := by rw [vNums_len]; simp; omega
      have HSZ2 := hid HB2.out.size
      clear d0 d1 hbr2 hw2 hcells
      go_wp2_with fail
      rw [HW2.out]
      refine digRegion _ v.key v.power (vNums (l.take k)) HRW HO2 hns HSZ2.out _ (hid ?_)
      intro σ v2 w3 hown3 hb3
      have HO3 := hid hown3
      have HB3 := hid hb3
      clear hown3 hb3
      go_wp2_with fail
      go_roundw
      case rel => exact ⟨k + 1, by omega, by go_num, hid ⟨by rw [HNT.out]; exact HO3.out, HB2.out.trans HB3.out⟩⟩
      case measure => simp [intOf]; omega
    · have hge : decide ((k : Int) < (n : Int)) = false := by simp; omega
      have hkl : l.take k = l := List.take_of_length_le (by rw [HN.out]; omega)
      have hp0 := HT.out.1.pieces
      rw [hkl, vNums_pieces] at hp0
      have HP := hid hp0
      obtain ⟨oy, cy, rfl⟩ := HT.out.1.shape
      clear hkl hp0
      generalize (vNums (l.take k)).length = m at *
      have HC := hid (write_any (vPieces l) _ wr.heap.size wr HP.out (Nat.le_refl _) (by have := HPL.out; omega) HFIT.out)
      go_wp2_with fail
      refine HC.out.mono ?_
      rintro e w4 ⟨hb4, h4⟩
      have h5 : ∃ v, e = .returned (.tuple #[v, okV]) ∧ OwnB w4 wr.heap.size v (vBytes l) := by
        rcases h4 with ⟨x2, v, hx2, he, ho⟩ | ⟨c, i, hx2, _⟩
        · rw [HX.out] at hx2
          cases hx2
          exact ⟨v, he, ho⟩
        · rw [HX.out] at hx2
          cases hx2
      obtain ⟨v, rfl, ho⟩ := h5
      obtain ⟨ov, cv, rfl, hcv⟩ := ho.shape
      have HO := hid ho.bytes
      have HB4 := hid (HT.out.2.trans (hb4.mono hszr))
      clear h4 ho hb4 HC hcv
      unfold okV
      obtain ⟨w5, hw5⟩ : ∃ w5, w4.alloc (.cells #[.int .i64 0, .int .i64 0] 94) = w5 := ⟨_, rfl⟩
      have HR5 := hid (show Row w5 w4.heap.size 94 [.int .i64 0, .int .i64 0] by rw [← hw5]; exact Row.new _ _ _)
      have HB5 := hid (show Below w4.heap.size w4 w5 by rw [← hw5]; exact (Below.refl _ _).alloc (Nat.le_refl _) _)
      have s0 := setCell_same HR5.out (i := 0) rfl
      have s1 := setCell_same HR5.out (i := 1) rfl
      obtain ⟨c0, c1, z0, z1⟩ := HR5.out.two
      have HBW := hid (HB4.out.trans (HB5.out.mono HB4.out.size))
      have HS := hid (sum_any (vBytes l) _ w5.heap.size w5 (Nat.le_refl _) ((HO.out.below HB5.out).mono HB5.out.size) (HTAB.out.below HBW.out HTAB.out.lt) (by have := HXL.out; omega))
      generalize (vBytes l).length = m2 at *
      go_wp2_with fail
      refine HS.out.mono ?_
      rintro e w6 ⟨v6, rfl, hown6, hb6⟩
      have HO6 := hid (ownsRow_bytes hown6)
      have HB6 := hid hb6
      clear hown6 hb6
      go_wp2
      go_ret
      exact ⟨_, rfl, HO6.out, HBW.out.trans (HB6.out.mono HBW.out.size)⟩
end Go.Proofs.YtfpngilmdgeikaaDoor
