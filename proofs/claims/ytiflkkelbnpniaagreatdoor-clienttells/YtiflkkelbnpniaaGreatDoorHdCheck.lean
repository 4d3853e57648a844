/-
  What the makers of pieces answer, the landed ones and the document's: a piece of a number, a piece of bytes. What the document's Bytes of pieces answers.
  What Bytes does: a header's bytes, in new memory, in whatever order its steps come.
  What Digest answers, the landed one and the document's: the digest of validators' bytes, in new memory.
  What wrongTogether answers: what keeps a header from being one of these validators.
  What allGood answers: whether each vote that is one is good, of the header's bytes, by its validator's key.
  What Check answers: what keeps a signed header from being one that its validators voted for.
-/
import Derived.Test.YtiflkkelbnpniaaGreatDoorHdMems
import Derived.Test.YtiflkkelbnpniaaGreatDoorWireBoth
import Derived.Test.YtiflkkelbnpniaaGreatDoorRegions
import Derived.Lib.ConvBytes
import Derived.Laws.IdiomStrings
import Derived.Test.YtiflkkelbnpniaaGreatDoorRef1All
import Derived.Laws.MakeOwn
import Derived.Test.YtiflkkelbnpniaaGreatDoorSameB
import Derived.Test.YtiflkkelbnpniaaGreatDoorSealGood
namespace Go.Proofs.YtiflkkelbnpniaaGreatDoor
open Go.RowKit

/-- a maker of a number's piece -/
def NumC (f : FuncId) : Prop := ∀ (n : Nat) (w : World), Calls Tryz.prog f #[.int .u64 (n : Int)] w fun e w' => e = .returned (.agg #[.int .i64 1, .int .u64 (n : Int), .slice none 0 0]) ∧ Below w.heap.size w w'
/-- a maker of bytes' piece -/
def TextC (f : FuncId) : Prop := ∀ (o : Option Addr) (n c : Nat) (w : World), Calls Tryz.prog f #[.slice o n c] w fun e w' => e = .returned (.agg #[.int .i64 2, .int .u64 0, .slice o n c]) ∧ Below w.heap.size w w'
theorem numberC : NumC 102 := by
  intro n w
  obtain ⟨w0, hw0⟩ : ∃ w0, w.alloc (.cells #[.int .i64 0, .int .u64 0, .slice none 0 0] 91) = w0 := ⟨_, rfl⟩
  have HB0 := hid (show Below w.heap.size w w0 by rw [← hw0]; exact (Below.refl _ _).alloc (Nat.le_refl _) _)
  have HR0 := hid (show Row w0 w.heap.size 91 [.int .i64 0, .int .u64 0, .slice none 0 0] by rw [← hw0]; exact Row.new _ _ _)
  obtain ⟨c0, c1, c2, z0, z1, z2⟩ := HR0.out.three
  go_enter Tryz.func102, Tryz.ntmps102
  go_wp2
  obtain ⟨d0, d1, d2⟩ := HR0.out.set3 (.int .i64 1) (.int .u64 (n : Int)) (.slice none 0 0)
  exact bodyPost_ret (v := .agg #[.int .i64 1, .int .u64 (n : Int), .slice none 0 0]) (by simp [results, Tryz.results102, go_sem, d0, d1, d2]) rfl ⟨rfl, below_set3 HB0.out (Nat.le_refl _) _ _ _⟩
theorem textC : TextC 101 := by
  intro o n c w
  obtain ⟨w0, hw0⟩ : ∃ w0, w.alloc (.cells #[.int .i64 0, .int .u64 0, .slice none 0 0] 91) = w0 := ⟨_, rfl⟩
  have HB0 := hid (show Below w.heap.size w w0 by rw [← hw0]; exact (Below.refl _ _).alloc (Nat.le_refl _) _)
  have HR0 := hid (show Row w0 w.heap.size 91 [.int .i64 0, .int .u64 0, .slice none 0 0] by rw [← hw0]; exact Row.new _ _ _)
  obtain ⟨c0, c1, c2, z0, z1, z2⟩ := HR0.out.three
  go_enter Tryz.func101, Tryz.ntmps101
  go_wp2
  obtain ⟨d0, d1, d2⟩ := HR0.out.set3 (.int .i64 2) (.int .u64 0) (.slice o n c)
  exact bodyPost_ret (v := .agg #[.int .i64 2, .int .u64 0, .slice o n c]) (by simp [results, Tryz.results101, go_sem, d0, d1, d2]) rfl ⟨rfl, below_set3 HB0.out (Nat.le_refl _) _ _ _⟩
theorem refU : NumC 48 := by
  intro n w
  obtain ⟨w0, hw0⟩ : ∃ w0, w.alloc (.cells #[.int .i64 0, .int .u64 0, .slice none 0 0] 91) = w0 := ⟨_, rfl⟩
  have HB0 := hid (show Below w.heap.size w w0 by rw [← hw0]; exact (Below.refl _ _).alloc (Nat.le_refl _) _)
  have HR0 := hid (show Row w0 w.heap.size 91 [.int .i64 0, .int .u64 0, .slice none 0 0] by rw [← hw0]; exact Row.new _ _ _)
  obtain ⟨c0, c1, c2, z0, z1, z2⟩ := HR0.out.three
  go_enter Tryz.func48, Tryz.ntmps48
  go_wp2
  obtain ⟨d0, d1, d2⟩ := HR0.out.set3 (.int .i64 1) (.int .u64 (n : Int)) (.slice none 0 0)
  exact bodyPost_ret (v := .agg #[.int .i64 1, .int .u64 (n : Int), .slice none 0 0]) (by simp [results, Tryz.results48, go_sem, d0, d1, d2]) rfl ⟨rfl, below_set3 HB0.out (Nat.le_refl _) _ _ _⟩
theorem refB : TextC 127 := by
  intro o n c w
  obtain ⟨w0, hw0⟩ : ∃ w0, w.alloc (.cells #[.int .i64 0, .int .u64 0, .slice none 0 0] 91) = w0 := ⟨_, rfl⟩
  have HB0 := hid (show Below w.heap.size w w0 by rw [← hw0]; exact (Below.refl _ _).alloc (Nat.le_refl _) _)
  have HR0 := hid (show Row w0 w.heap.size 91 [.int .i64 0, .int .u64 0, .slice none 0 0] by rw [← hw0]; exact Row.new _ _ _)
  obtain ⟨c0, c1, c2, z0, z1, z2⟩ := HR0.out.three
  go_enter Tryz.func127, Tryz.ntmps127
  go_wp2
  obtain ⟨d0, d1, d2⟩ := HR0.out.set3 (.int .i64 2) (.int .u64 0) (.slice o n c)
  exact bodyPost_ret (v := .agg #[.int .i64 2, .int .u64 0, .slice o n c]) (by simp [results, Tryz.results127, go_sem, d0, d1, d2]) rfl ⟨rfl, below_set3 HB0.out (Nat.le_refl _) _ _ _⟩
/-- the document's N: of a number that is not below nothing -/
theorem refN_any (n : Nat) (w : World) (hn : n < 9223372036854775808) : Calls Tryz.prog 128 #[.int .i64 (n : Int)] w fun e w' => e = .returned (.agg #[.int .i64 1, .int .u64 (n : Int), .slice none 0 0]) ∧ Below w.heap.size w w' := by
  have hw := wrap64 n (by omega)
  obtain ⟨w0, hw0⟩ : ∃ w0, w.alloc (.cells #[.int .i64 0, .int .u64 0, .slice none 0 0] 91) = w0 := ⟨_, rfl⟩
  have HB0 := hid (show Below w.heap.size w w0 by rw [← hw0]; exact (Below.refl _ _).alloc (Nat.le_refl _) _)
  have HR0 := hid (show Row w0 w.heap.size 91 [.int .i64 0, .int .u64 0, .slice none 0 0] by rw [← hw0]; exact Row.new _ _ _)
  obtain ⟨c0, c1, c2, z0, z1, z2⟩ := HR0.out.three
  go_enter Tryz.func128, Tryz.ntmps128
  go_wp2
  obtain ⟨d0, d1, d2⟩ := HR0.out.set3 (.int .i64 1) (.int .u64 (n : Int)) (.slice none 0 0)
  exact bodyPost_ret (v := .agg #[.int .i64 1, .int .u64 (n : Int), .slice none 0 0]) (by simp [results, Tryz.results128, go_sem, d0, d1, d2]) rfl ⟨rfl, below_set3 HB0.out (Nat.le_refl _) _ _ _⟩
/-- the document's Bytes of pieces: what Write makes of them, where it makes something -/
theorem refPieces_any (l : List Pc) (x : List (BitVec 8)) (sv : Value) (N : Nat) (w : World) (hb : Pieces w N sv l) (hN : N ≤ w.heap.size) (hlen : l.length < 2305843009213693952) (hfit : ∀ p ∈ l, p.fits) (hx : wrAll l = .ok x) :
    Calls Tryz.prog 50 #[sv] w fun e w' => ∃ v, e = .returned v ∧ Bytes w' w'.heap.size v x ∧ Below w.heap.size w w' := by
  have HC := hid (refWrite_any l sv N w hb hN hlen hfit)
  have HX := hid hx
  obtain ⟨oa, ca, rfl, hca⟩ := hb.shape
  clear hb hfit hx hlen hca
  generalize l.length = n at *
  go_enter Tryz.func50, Tryz.ntmps50
  go_wp2_with fail
  refine HC.out.mono ?_
  rintro e w1 ⟨hb1, h1⟩
  have h2 : ∃ v, e = .returned (.tuple #[v, okV]) ∧ OwnB w1 w.heap.size v x := by
    rcases h1 with ⟨x', v, hx', he, ho⟩ | ⟨c, i, hx', _⟩
    · rw [HX.out] at hx'
      cases hx'
      exact ⟨v, he, ho⟩
    · rw [HX.out] at hx'
      cases hx'
  obtain ⟨v, rfl, ho⟩ := h2
  obtain ⟨ov, cv, rfl, hcv⟩ := ho.shape
  have HO := hid ho
  have HB1 := hid hb1
  clear h1 ho hb1 HC
  unfold okV
  obtain ⟨w2, hw2⟩ : ∃ w2, w1.alloc (.cells #[.int .i64 0, .int .i64 0] 124) = w2 := ⟨_, rfl⟩
  have HB2 := hid (show Below w1.heap.size w1 w2 by rw [← hw2]; exact (Below.refl _ _).alloc (Nat.le_refl _) _)
  have HR2 := hid (show Row w2 w1.heap.size 124 [.int .i64 0, .int .i64 0] by rw [← hw2]; exact Row.new _ _ _)
  have HO2 := hid HO.out.bytes
  obtain ⟨c0, c1, z0, z1⟩ := HR2.out.two
  have HSZ := hid HB1.out.size
  clear HO
  generalize hm : x.length = m at *
  have HM := hid hm
  clear hm
  go_wp2
  go_ret
  have hbz := below_set2 HB2.out (Nat.le_refl _) (.int .i64 0) (.int .i64 0)
  exact ⟨_, rfl, (HO2.out.below hbz).mono hbz.size, HB1.out.trans (hbz.mono HSZ.out)⟩
end Go.Proofs.YtiflkkelbnpniaaGreatDoor
namespace Go.Proofs.YtiflkkelbnpniaaGreatDoor
open Go.RowKit

theorem pieces_new (w : World) (t : TypeId) (ps : List (Pc × Value)) (h : ∀ q ∈ ps, Bytes w w.heap.size q.2 q.1.b) :
    Pieces (w.alloc (.cells (ps.flatMap pcCells).toArray t)) (w.alloc (.cells (ps.flatMap pcCells).toArray t)).heap.size (.slice (some ⟨w.heap.size, 0, none⟩) ps.length ps.length) (ps.map (·.1)) := by
  have hb : Below w.heap.size w (w.alloc (.cells (ps.flatMap pcCells).toArray t)) := (Below.refl _ _).alloc (Nat.le_refl _) _
  have hr : Row (w.alloc (.cells (ps.flatMap pcCells).toArray t)) w.heap.size t (ps.flatMap pcCells) := Row.new _ _ _
  refine .inr (.inr ⟨w.heap.size, 0, ps.length, by simp, by simp, fun i p hp => ?_⟩)
  obtain ⟨q, hq, rfl⟩ : ∃ q, ps[i]? = some q ∧ q.1 = p := by simpa using hp
  refine ⟨hr.lt, q.2, ?_⟩
  have cell : ∀ j, j < 3 → (w.alloc (.cells (ps.flatMap pcCells).toArray t)).cell? ⟨w.heap.size, 0 + i * 3 + j, none⟩ = (pcCells q)[j]? := fun j hj => by
    rw [hr.cell, Nat.zero_add, flat_get ps i j q hq hj]
  exact ⟨cell 0 (by omega), cell 1 (by omega), cell 2 (by omega), ((h q (List.mem_of_getElem? hq)).below hb).mono hb.size⟩
theorem conv_text (w : World) (x : ByteArray) : (convert 9 25 (.string x)).run Tryz.prog w = .ok (.slice (some ⟨w.heap.size, 0, none⟩) x.size (grownCap w x.size 0 5)) (Lib.bytesWorld w 5 x) :=
  Lib.run_convert_string_bytes w 9 25 5 x Tryz.underlying9 Tryz.underlying25 Tryz.underlying5
theorem text_bytes (w : World) (s : ByteArray) : Bytes (Lib.bytesWorld w 5 s) (Lib.bytesWorld w 5 s).heap.size (.slice (some ⟨w.heap.size, 0, none⟩) s.size (grownCap w s.size 0 5)) (lets s) := by
  have hsz := Lib.bytesWorld_size w 5 s
  refine .inr (.inr ⟨w.heap.size, 0, _, by rw [lets_length], by rw [lets_length]; exact grownCap_ge _ _ _ _, fun i hi => ⟨by omega, ?_⟩⟩)
  rw [lets_length] at hi
  rw [Nat.zero_add, Lib.bytesWorld_cell _ _ _ _ hi]
  congr 2
  unfold b8 lets
  simp
theorem text_below (w : World) (s : ByteArray) : Below w.heap.size w (Lib.bytesWorld w 5 s) :=
  ⟨rfl, rfl, rfl, by rw [Lib.bytesWorld_size]; omega, fun j hj => Lib.bytesWorld_at_old _ _ _ _ hj⟩
/-- what Bytes is to answer, of a right header -/
def BytesC (f : FuncId) : Prop := ∀ (h : Hd) (v : Value) (N : Nat) (w : World), HdV w N v h → N ≤ w.heap.size → wrongH h = 0 →
  Calls Tryz.prog f #[v] w fun e w' => ∃ x, e = .returned x ∧ Bytes w' w'.heap.size x (bytesH h) ∧ Below w.heap.size w w'
set_option maxRecDepth 100000 in
set_option maxHeartbeats 4000000 in
theorem bytesRegion {y0 y2 y31 z3 z4 z5 z6 z7 z8 z9 z10 z11 z12 z13 z14 z15 z16 z17 z18 z19 z20 z21 z22 z23 z24 z25 z26 z27 z28 z29 z30 : Value} {g : Nat} (ch : ByteArray) (ht tm : Nat) (root vals next x : List (BitVec 8)) (o1 o2 o3 : Option Addr) (c1 c2 c3 : Nat) {w : World} (hr : Hid (Row w g 29 [.string ch, .int .i64 (ht : Int), .int .i64 (tm : Int), .slice o1 root.length c1, .slice o2 vals.length c2, .slice o3 next.length c3])) (hht : ht < 9223372036854775808) (htm : tm < 9223372036854775808)
    (b1 : Hid (Bytes w w.heap.size (.slice o1 root.length c1) root)) (b2 : Hid (Bytes w w.heap.size (.slice o2 vals.length c2) vals)) (b3 : Hid (Bytes w w.heap.size (.slice o3 next.length c3) next))
    (hx : Hid (wrAll [⟨2, 0, lets ch⟩, ⟨1, ht, []⟩, ⟨1, tm, []⟩, ⟨2, 0, root⟩, ⟨2, 0, vals⟩, ⟨2, 0, next⟩] = .ok x)) (hfit : Hid (∀ p ∈ ([⟨2, 0, lets ch⟩, ⟨1, ht, []⟩, ⟨1, tm, []⟩, ⟨2, 0, root⟩, ⟨2, 0, vals⟩, ⟨2, 0, next⟩] : List Pc), p.fits)) (Q : Exit → Act → World → Prop)
    (hQ : Hid (∀ (σ : Nat → Value) (w' : World), Below w.heap.size w w' → /-27-/ Bytes w' w'.heap.size (σ 27) x → Q .normal ⟨#[y0, .pointer (some ⟨g, 0, none⟩), y2, σ 27, σ 26, σ 23, σ 0, σ 1, σ 2, σ 3, σ 4, σ 5, σ 6, σ 7, σ 8, σ 9, σ 10, σ 11, σ 12, σ 13, σ 14, σ 15, σ 16, σ 17, σ 18, σ 19, σ 20, σ 21, σ 22, σ 24, σ 25, y31], []⟩ w')) :
    Code.wp Tryz.prog (.region 1 ((Tryz.f75.body.bind (regOf 1)).getD #[]) true) Q ⟨#[y0, .pointer (some ⟨g, 0, none⟩), y2, z3, z4, z5, z6, z7, z8, z9, z10, z11, z12, z13, z14, z15, z16, z17, z18, z19, z20, z21, z22, z23, z24, z25, z26, z27, z28, z29, z30, y31], []⟩ w := by
  conv => arg 2; arg 2; whnf
  conv => arg 4; dsimp only
  refine region_grows (by kernel_rfl) (fun σ => #[y0, .pointer (some ⟨g, 0, none⟩), y2, σ 27, σ 26, σ 23, σ 0, σ 1, σ 2, σ 3, σ 4, σ 5, σ 6, σ 7, σ 8, σ 9, σ 10, σ 11, σ 12, σ 13, σ 14, σ 15, σ 16, σ 17, σ 18, σ 19, σ 20, σ 21, σ 22, σ 24, σ 25, y31]) (fun i => ([z6, z7, z8, z9, z10, z11, z12, z13, z14, z15, z16, z17, z18, z19, z20, z21, z22, z23, z24, z25, z26, z27, z28, z5, z29, z30, z4, z3, undef] : List Value).getD i undef) rfl (fun i X W => match i with
    | 0 => X = .pointer (some ⟨g, 0, none⟩)
    | 1 => X = .string ch
    | 2 => Bytes W W.heap.size X (lets ch)
    | 3 => ∃ o n c, X = .agg #[.int .i64 2, .int .u64 0, .slice o n c] ∧ Bytes W W.heap.size (.slice o n c) (lets ch)
    | 4 => X = .pointer (some ⟨g, 1, none⟩)
    | 5 => X = .int .i64 (ht : Int)
    | 6 => X = .int .u64 (ht : Int)
    | 7 => X = .agg #[.int .i64 1, .int .u64 (ht : Int), .slice none 0 0]
    | 8 => X = .pointer (some ⟨g, 2, none⟩)
    | 9 => X = .int .i64 (tm : Int)
    | 10 => X = .int .u64 (tm : Int)
    | 11 => X = .agg #[.int .i64 1, .int .u64 (tm : Int), .slice none 0 0]
    | 12 => X = .pointer (some ⟨g, 3, none⟩)
    | 13 => X = .slice o1 root.length c1
    | 14 => X = .agg #[.int .i64 2, .int .u64 0, .slice o1 root.length c1]
    | 15 => X = .pointer (some ⟨g, 4, none⟩)
    | 16 => X = .slice o2 vals.length c2
    | 17 => X = .agg #[.int .i64 2, .int .u64 0, .slice o2 vals.length c2]
    | 18 => X = .pointer (some ⟨g, 5, none⟩)
    | 19 => X = .slice o3 next.length c3
    | 20 => X = .agg #[.int .i64 2, .int .u64 0, .slice o3 next.length c3]
    | 21 => Pieces W W.heap.size X [⟨2, 0, lets ch⟩, ⟨1, ht, []⟩, ⟨1, tm, []⟩, ⟨2, 0, root⟩, ⟨2, 0, vals⟩, ⟨2, 0, next⟩]
    | 22 => ∃ v, X = .tuple #[v, .agg #[.int .i64 0, .int .i64 0]] ∧ Bytes W W.heap.size v x
    | 23 => ∃ v, X = .tuple #[v, .agg #[.int .i64 0, .int .i64 0]] ∧ Bytes W W.heap.size v x
    | 24 => Bytes W W.heap.size X x
    | 25 => X = .agg #[.int .i64 0, .int .i64 0]
    | 26 => ∃ k, X = .pointer (some ⟨k, 0, none⟩) ∧ Row W k 124 [.int .i64 0, .int .i64 0]
    | 27 => Bytes W W.heap.size X x
    | _ => True) ?_ (by kernel_rfl) ?_ ?_
  · intro i X W W' HB H
    match i, H with
    | 0, H => exact H
    | 1, H => exact H
    | 2, H => exact (H.below HB).mono HB.size
    | 3, H => exact by obtain ⟨o, n, c, h1, h2⟩ := H; exact ⟨o, n, c, h1, (h2.below HB).mono HB.size⟩
    | 4, H => exact H
    | 5, H => exact H
    | 6, H => exact H
    | 7, H => exact H
    | 8, H => exact H
    | 9, H => exact H
    | 10, H => exact H
    | 11, H => exact H
    | 12, H => exact H
    | 13, H => exact H
    | 14, H => exact H
    | 15, H => exact H
    | 16, H => exact H
    | 17, H => exact H
    | 18, H => exact H
    | 19, H => exact H
    | 20, H => exact H
    | 21, H => exact (H.below HB).mono HB.size
    | 22, H => exact by obtain ⟨v, h1, h2⟩ := H; exact ⟨v, h1, (h2.below HB).mono HB.size⟩
    | 23, H => exact by obtain ⟨v, h1, h2⟩ := H; exact ⟨v, h1, (h2.below HB).mono HB.size⟩
    | 24, H => exact (H.below HB).mono HB.size
    | 25, H => exact H
    | 26, H => exact by obtain ⟨k, h1, h2⟩ := H; exact ⟨k, h1, h2.below HB h2.lt⟩
    | 27, H => exact (H.below HB).mono HB.size
    | 28, _ => exact trivial
    | _ + 29, _ => exact trivial
  · refine ⟨?_, ?_, ?_, ?_, ?_, ?_, ?_, ?_, ?_, ?_, ?_, ?_, ?_, ?_, ?_, ?_, ?_, ?_, ?_, ?_, ?_, ?_, ?_, ?_, ?_, ?_, ?_, ?_, ?_, trivial⟩
    · -- 0: Op.fieldAddr 25 t1 0
      intro σ W HJ hdep
      simp [Region.binds] at hdep
      have HJ := hid HJ
      refine wpOp_plain rfl rfl ?_
      go_simp
      exact Left.mk0 (.pointer (some ⟨g, 0, none⟩)) (by first | rfl | simp [updF, *]) HJ.out rfl
    · -- 1: Op.load 9 t6
      intro σ W HJ hdep
      simp [Region.binds] at hdep
      have HJ := hid HJ
      have k := (hr.out.below HJ.out hr.out.lt).cell 0
      simp at k
      refine wpOp_plain rfl rfl ?_
      go_simp
      exact Left.mk0 (.string ch) (by first | rfl | simp [updF, *]) HJ.out rfl
    · -- 2: Op.convert 9 23 t7
      intro σ W HJ hdep
      simp [Region.binds] at hdep
      have HJ := hid HJ
      have hcv := conv_text W ch
      refine wpOp_plain rfl rfl ?_
      go_simp
      exact Left.mk (.slice (some ⟨W.heap.size, 0, none⟩) ch.size (grownCap W ch.size 0 5)) (by first | rfl | simp [updF, *]) (text_below W ch) HJ.out (text_bytes W ch)
    · -- 3: Op.call { value (Operand.func 46), args := #[t8], argTypes :
      intro σ W HJ hdep
      simp [Region.binds] at hdep
      have HJ := hid HJ
      obtain ⟨o, c, he, _⟩ := hdep.shape
      have HD := hid hdep
      clear hdep
      generalize hn : (lets ch).length = n at he
      clear hn
      refine wpOp_plain rfl rfl ?_
      go_simp
      refine (textC o n c W).mono ?_
      rintro e w2 ⟨rfl, hb2⟩
      have h2 := HD.out
      rw [he] at h2
      exact Left.mk (.agg #[.int .i64 2, .int .u64 0, .slice o n c]) (by first | rfl | simp [updF, *]) hb2 HJ.out ⟨o, n, c, rfl, (h2.below hb2).mono hb2.size⟩
    · -- 4: Op.fieldAddr 25 t1 1
      intro σ W HJ hdep
      simp [Region.binds] at hdep
      have HJ := hid HJ
      refine wpOp_plain rfl rfl ?_
      go_simp
      exact Left.mk0 (.pointer (some ⟨g, 1, none⟩)) (by first | rfl | simp [updF, *]) HJ.out rfl
    · -- 5: Op.load 3 t10
      intro σ W HJ hdep
      simp [Region.binds] at hdep
      have HJ := hid HJ
      have k := (hr.out.below HJ.out hr.out.lt).cell 1
      simp at k
      refine wpOp_plain rfl rfl ?_
      go_simp
      exact Left.mk0 (.int .i64 (ht : Int)) (by first | rfl | simp [updF, *]) HJ.out rfl
    · -- 6: Op.convert 3 43 t11
      intro σ W HJ hdep
      simp [Region.binds] at hdep
      have HJ := hid HJ
      have hwr := wrap64 ht (by omega)
      refine wpOp_plain rfl rfl ?_
      go_simp
      exact Left.mk0 (.int .u64 (ht : Int)) (by first | rfl | simp [updF, *]) HJ.out rfl
    · -- 7: Op.call { value (Operand.func 40), args := #[t12], argTypes 
      intro σ W HJ hdep
      simp [Region.binds] at hdep
      have HJ := hid HJ
      refine wpOp_plain rfl rfl ?_
      go_simp
      refine (numberC ht W).mono ?_
      rintro e w2 ⟨rfl, hb2⟩
      exact Left.mk (.agg #[.int .i64 1, .int .u64 (ht : Int), .slice none 0 0]) (by first | rfl | simp [updF, *]) hb2 HJ.out rfl
    · -- 8: Op.fieldAddr 25 t1 2
      intro σ W HJ hdep
      simp [Region.binds] at hdep
      have HJ := hid HJ
      refine wpOp_plain rfl rfl ?_
      go_simp
      exact Left.mk0 (.pointer (some ⟨g, 2, none⟩)) (by first | rfl | simp [updF, *]) HJ.out rfl
    · -- 9: Op.load 3 t14
      intro σ W HJ hdep
      simp [Region.binds] at hdep
      have HJ := hid HJ
      have k := (hr.out.below HJ.out hr.out.lt).cell 2
      simp at k
      refine wpOp_plain rfl rfl ?_
      go_simp
      exact Left.mk0 (.int .i64 (tm : Int)) (by first | rfl | simp [updF, *]) HJ.out rfl
    · -- 10: Op.convert 3 43 t15
      intro σ W HJ hdep
      simp [Region.binds] at hdep
      have HJ := hid HJ
      have hwr := wrap64 tm (by omega)
      refine wpOp_plain rfl rfl ?_
      go_simp
      exact Left.mk0 (.int .u64 (tm : Int)) (by first | rfl | simp [updF, *]) HJ.out rfl
    · -- 11: Op.call { value (Operand.func 40), args := #[t16], argTypes 
      intro σ W HJ hdep
      simp [Region.binds] at hdep
      have HJ := hid HJ
      refine wpOp_plain rfl rfl ?_
      go_simp
      refine (numberC tm W).mono ?_
      rintro e w2 ⟨rfl, hb2⟩
      exact Left.mk (.agg #[.int .i64 1, .int .u64 (tm : Int), .slice none 0 0]) (by first | rfl | simp [updF, *]) hb2 HJ.out rfl
    · -- 12: Op.fieldAddr 25 t1 3
      intro σ W HJ hdep
      simp [Region.binds] at hdep
      have HJ := hid HJ
      refine wpOp_plain rfl rfl ?_
      go_simp
      exact Left.mk0 (.pointer (some ⟨g, 3, none⟩)) (by first | rfl | simp [updF, *]) HJ.out rfl
    · -- 13: Op.load 23 t18
      intro σ W HJ hdep
      simp [Region.binds] at hdep
      have HJ := hid HJ
      have k := (hr.out.below HJ.out hr.out.lt).cell 3
      simp at k
      refine wpOp_plain rfl rfl ?_
      go_simp
      exact Left.mk0 (.slice o1 root.length c1) (by first | rfl | simp [updF, *]) HJ.out rfl
    · -- 14: Op.call { value (Operand.func 46), args := #[t19], argTypes 
      intro σ W HJ hdep
      simp [Region.binds] at hdep
      have HJ := hid HJ
      refine wpOp_plain rfl rfl ?_
      go_simp
      refine (textC o1 root.length c1 W).mono ?_
      rintro e w2 ⟨rfl, hb2⟩
      exact Left.mk (.agg #[.int .i64 2, .int .u64 0, .slice o1 root.length c1]) (by first | rfl | simp [updF, *]) hb2 HJ.out rfl
    · -- 15: Op.fieldAddr 25 t1 4
      intro σ W HJ hdep
      simp [Region.binds] at hdep
      have HJ := hid HJ
      refine wpOp_plain rfl rfl ?_
      go_simp
      exact Left.mk0 (.pointer (some ⟨g, 4, none⟩)) (by first | rfl | simp [updF, *]) HJ.out rfl
    · -- 16: Op.load 23 t21
      intro σ W HJ hdep
      simp [Region.binds] at hdep
      have HJ := hid HJ
      have k := (hr.out.below HJ.out hr.out.lt).cell 4
      simp at k
      refine wpOp_plain rfl rfl ?_
      go_simp
      exact Left.mk0 (.slice o2 vals.length c2) (by first | rfl | simp [updF, *]) HJ.out rfl
    · -- 17: Op.call { value (Operand.func 46), args := #[t22], argTypes 
      intro σ W HJ hdep
      simp [Region.binds] at hdep
      have HJ := hid HJ
      refine wpOp_plain rfl rfl ?_
      go_simp
      refine (textC o2 vals.length c2 W).mono ?_
      rintro e w2 ⟨rfl, hb2⟩
      exact Left.mk (.agg #[.int .i64 2, .int .u64 0, .slice o2 vals.length c2]) (by first | rfl | simp [updF, *]) hb2 HJ.out rfl
    · -- 18: Op.fieldAddr 25 t1 5
      intro σ W HJ hdep
      simp [Region.binds] at hdep
      have HJ := hid HJ
      refine wpOp_plain rfl rfl ?_
      go_simp
      exact Left.mk0 (.pointer (some ⟨g, 5, none⟩)) (by first | rfl | simp [updF, *]) HJ.out rfl
    · -- 19: Op.load 23 t24
      intro σ W HJ hdep
      simp [Region.binds] at hdep
      have HJ := hid HJ
      have k := (hr.out.below HJ.out hr.out.lt).cell 5
      simp at k
      refine wpOp_plain rfl rfl ?_
      go_simp
      exact Left.mk0 (.slice o3 next.length c3) (by first | rfl | simp [updF, *]) HJ.out rfl
    · -- 20: Op.call { value (Operand.func 46), args := #[t25], argTypes 
      intro σ W HJ hdep
      simp [Region.binds] at hdep
      have HJ := hid HJ
      refine wpOp_plain rfl rfl ?_
      go_simp
      refine (textC o3 next.length c3 W).mono ?_
      rintro e w2 ⟨rfl, hb2⟩
      exact Left.mk (.agg #[.int .i64 2, .int .u64 0, .slice o3 next.length c3]) (by first | rfl | simp [updF, *]) hb2 HJ.out rfl
    · -- 21: Op.buildSlice 67 6 #[(0, t9), (1, t13), (2, t17), (3, t20), 
      intro σ W HJ hdep
      simp [Region.binds] at hdep
      have HJ := hid HJ
      obtain ⟨⟨o, n, c, e3, hb3⟩, e7, e11, e14, e17, e20⟩ := hdep
      have HB3 := hid hb3
      clear hb3
      have hbn : Below W.heap.size W (W.alloc (.cells #[.int .i64 2, .int .u64 0, .slice o n c, .int .i64 1, .int .u64 (ht : Int), .slice none 0 0, .int .i64 1, .int .u64 (tm : Int), .slice none 0 0, .int .i64 2, .int .u64 0, .slice o1 root.length c1, .int .i64 2, .int .u64 0, .slice o2 vals.length c2, .int .i64 2, .int .u64 0, .slice o3 next.length c3] 91)) := (Below.refl _ _).alloc (Nat.le_refl _) _
      have HBN := hid hbn
      clear hbn
      refine wpOp_plain rfl rfl ?_
      go_simp
      refine Left.mk (.slice (some ⟨W.heap.size, 0, none⟩) 6 6) (by first | rfl | simp [updF, *]) HBN.out HJ.out ?_
      exact pieces_new W 91 [(⟨2, 0, lets ch⟩, .slice o n c), (⟨1, ht, []⟩, .slice none 0 0), (⟨1, tm, []⟩, .slice none 0 0), (⟨2, 0, root⟩, .slice o1 root.length c1), (⟨2, 0, vals⟩, .slice o2 vals.length c2), (⟨2, 0, next⟩, .slice o3 next.length c3)] (by
        intro q hq
        simp at hq
        rcases hq with rfl | rfl | rfl | rfl | rfl | rfl
        · exact HB3.out
        · exact .inl ⟨rfl, rfl⟩
        · exact .inl ⟨rfl, rfl⟩
        · exact (b1.out.below HJ.out).mono HJ.out.size
        · exact (b2.out.below HJ.out).mono HJ.out.size
        · exact (b3.out.below HJ.out).mono HJ.out.size)
    · -- 22: Op.call { value (Operand.func 41), args := #[t27], argTypes 
      intro σ W HJ hdep
      simp [Region.binds] at hdep
      have HJ := hid HJ
      have HC := hid (write_any _ (σ 21) W.heap.size W hdep.1 (Nat.le_refl _) (by simp) hfit.out)
      clear hdep
      refine wpOp_plain rfl rfl ?_
      go_simp
      refine HC.out.mono ?_
      rintro e w2 ⟨hb2, h2⟩
      have h3 : ∃ v, e = .returned (.tuple #[v, okV]) ∧ OwnB w2 W.heap.size v x := by
        rcases h2 with ⟨x2, v, hx2, he, ho⟩ | ⟨c, i, hx2, _⟩
        · rw [hx.out] at hx2; cases hx2; exact ⟨v, he, ho⟩
        · rw [hx.out] at hx2; cases hx2
      obtain ⟨v, rfl, ho⟩ := h3
      exact Left.mk (.tuple #[v, .agg #[.int .i64 0, .int .i64 0]]) (by first | rfl | simp [updF, *]) hb2 HJ.out ⟨v, rfl, ho.bytes⟩
    · -- 23: Op.move t28
      intro σ W HJ hdep
      simp [Region.binds] at hdep
      have HJ := hid HJ
      obtain ⟨v, e1, h2⟩ := hdep
      have H2 := hid h2
      clear h2
      refine wpOp_plain rfl rfl ?_
      go_simp
      exact Left.mk0 (.tuple #[v, .agg #[.int .i64 0, .int .i64 0]]) (by first | rfl | simp [updF, *]) HJ.out ⟨v, rfl, H2.out⟩
    · -- 24: Op.extract t5 0
      intro σ W HJ hdep
      simp [Region.binds] at hdep
      have HJ := hid HJ
      obtain ⟨v, e1, h2⟩ := hdep
      have H2 := hid h2
      clear h2
      refine wpOp_plain rfl rfl ?_
      go_simp
      exact Left.mk0 v (by first | rfl | simp [updF, *]) HJ.out H2.out
    · -- 25: Op.extract t5 1
      intro σ W HJ hdep
      simp [Region.binds] at hdep
      have HJ := hid HJ
      obtain ⟨v, e1, h2⟩ := hdep
      clear h2
      refine wpOp_plain rfl rfl ?_
      go_simp
      exact Left.mk0 (.agg #[.int .i64 0, .int .i64 0]) (by first | rfl | simp [updF, *]) HJ.out rfl
    · -- 26: Op.alloc 72
      intro σ W HJ hdep
      simp [Region.binds] at hdep
      have HJ := hid HJ
      refine wpOp_plain rfl rfl ?_
      go_simp
      exact Left.mk (.pointer (some ⟨W.heap.size, 0, none⟩)) (by first | rfl | simp [updF, *]) ((Below.refl _ _).alloc (Nat.le_refl _) _) HJ.out ⟨W.heap.size, rfl, Row.new _ _ _⟩
    · -- 27: Op.assign t29
      intro σ W HJ hdep
      simp [Region.binds] at hdep
      have HJ := hid HJ
      have HD := hid hdep.1
      clear hdep
      refine wpOp_plain rfl rfl ?_
      go_simp
      exact Left.mk0 (σ 24) (by first | rfl | simp [updF, *]) HJ.out HD.out
    · -- 28: Op.store 72 t4 t30
      intro σ W HJ hdep
      simp [Region.binds] at hdep
      have HJ := hid HJ
      obtain ⟨⟨k, e1, hrow⟩, e2⟩ := hdep
      obtain ⟨q0, q1, z0, z1⟩ := hrow.two
      have s0 := setCell_same hrow (i := 0) rfl
      have s1 := setCell_same hrow (i := 1) rfl
      clear hrow
      refine wpOp_plain rfl rfl ?_
      go_simp
      exact Left.mk0 undef (by first | rfl | simp [updF, *]) HJ.out trivial
  · intro σ w' hb hg
    exact hQ.out σ w' hb (by first | exact ⟨hg 27 (by decide)⟩ | exact hg 27 (by decide))
set_option maxRecDepth 100000 in
set_option maxHeartbeats 2000000 in
theorem bytesC : BytesC 75 := by
  intro h v N w hv hN hw
  obtain ⟨⟨_, f1, f2⟩, ⟨f3, f4, f5, f6⟩, f7, f8, f9⟩ := wrongH_ok hw
  have HX := hid (wrAll_head h hw)
  have HFIT := hid (show ∀ p ∈ hPieces h, p.fits from hPieces_fits h hw)
  obtain ⟨rv, vv, nv, rfl, h1, h2, h3⟩ := hv
  obtain ⟨o1, c1, rfl, _⟩ := h1.shape
  obtain ⟨o2, c2, rfl, _⟩ := h2.shape
  obtain ⟨o3, c3, rfl, _⟩ := h3.shape
  obtain ⟨ch, hh, tt, root, vals, next⟩ := h
  simp only at f1 f2 f3 f4 f5 f6 f7 f8 f9 h1 h2 h3
  obtain ⟨ht, rfl⟩ : ∃ n : Nat, hh = (n : Int) := ⟨hh.toNat, by omega⟩
  obtain ⟨tm, rfl⟩ : ∃ n : Nat, tt = (n : Int) := ⟨tt.toNat, by omega⟩
  obtain ⟨w0, hw0⟩ : ∃ w0, w.alloc (.cells #[.string ch, .int .i64 (ht : Int), .int .i64 (tm : Int), .slice o1 root.length c1, .slice o2 vals.length c2, .slice o3 next.length c3] 29) = w0 := ⟨_, rfl⟩
  have hb0 : Below w.heap.size w w0 := by rw [← hw0]; exact (Below.refl _ _).alloc (Nat.le_refl _) _
  have HB0 := hid hb0
  have HR0 := hid (show Row w0 w.heap.size 29 [.string ch, .int .i64 (ht : Int), .int .i64 (tm : Int), .slice o1 root.length c1, .slice o2 vals.length c2, .slice o3 next.length c3] by rw [← hw0]; exact Row.new _ _ _)
  have H1 := hid ((h1.below (hb0.mono hN)).mono (Nat.le_trans hN hb0.size))
  have H2 := hid ((h2.below (hb0.mono hN)).mono (Nat.le_trans hN hb0.size))
  have H3 := hid ((h3.below (hb0.mono hN)).mono (Nat.le_trans hN hb0.size))
  clear h1 h2 h3 hb0 hw f7 f8 f9
  go_enter Tryz.func75, Tryz.ntmps75
  go_wp2_with fail
  refine bytesRegion ch ht tm root vals next _ o1 o2 o3 c1 c2 c3 HR0 (by omega) (by omega) H1 H2 H3 HX HFIT _ (hid ?_)
  intro σ w1 hb1 hx
  have HB1 := hid hb1
  have HXX := hid hx
  clear hb1 hx HX HFIT hw0
  go_wp2
  go_ret
  exact ⟨_, rfl, HXX.out, HB0.out.trans (HB1.out.mono HB0.out.size)⟩
end Go.Proofs.YtiflkkelbnpniaaGreatDoor
namespace Go.Proofs.YtiflkkelbnpniaaGreatDoor
open Go.RowKit

def numCells (n : Nat) : List Value := [.int .i64 1, .int .u64 (n : Int), .slice none 0 0]
/-- a row of numbers' pieces that a call owns -/
def OwnN (w : World) (base : Nat) (v : Value) (ns : List Nat) : Prop := w.ownsRow base 91 3 v ns.length (ns.flatMap numCells)
theorem OwnN.below {w w' : World} {base : Nat} {v : Value} {ns : List Nat} (h : OwnN w base v ns) (hg : Below w.heap.size w w') : OwnN w' base v ns := ownsRow_below h hg
theorem OwnN.shape {w : World} {base : Nat} {v : Value} {ns : List Nat} (h : OwnN w base v ns) : ∃ oa cap, v = .slice oa ns.length cap := by
  obtain ⟨_, h2⟩ := h
  rcases h2 with ⟨rfl, h3⟩ | ⟨g, cap, cur, rfl, _⟩
  · exact ⟨none, 0, by rw [h3]⟩
  · exact ⟨_, cap, rfl⟩
theorem OwnN.pieces {w : World} {base : Nat} {v : Value} {ns : List Nat} (h : OwnN w base v ns) : Pieces w w.heap.size v (ns.map fun n => ⟨1, n, []⟩) := by
  have e : (ns.map fun n => ((⟨1, n, []⟩ : Pc), Value.slice none 0 0)).map (·.1) = ns.map fun n => ⟨1, n, []⟩ := by simp
  rw [← e]
  refine OwnP.pieces (base := base) ⟨?_, fun q hq => ?_⟩
  · have : (ns.map fun n => ((⟨1, n, []⟩ : Pc), Value.slice none 0 0)).flatMap pcCells = ns.flatMap numCells := by rw [List.flatMap_map]; rfl
    rw [this, List.length_map]
    exact h
  · obtain ⟨n, _, rfl⟩ := List.mem_map.1 hq
    exact OwnB.nil _ _
theorem row_source {w : World} {g : Nat} {t : TypeId} {cs : List Value} (h : Row w g t cs) : ∀ (j : Nat) (x : Value), cs[j]? = some x → w.cell? ((⟨g, 0, none⟩ : Addr).add j) = some x := by
  intro j x hx
  have hadd : (⟨g, 0, none⟩ : Addr).add j = ⟨g, j, none⟩ := by unfold Addr.add; split <;> simp_all
  rw [hadd, h.cell, hx]
theorem wpList_append_two {ops : Array Oper} {rest : List Oper} {o : Oper} {a : Act} {w : World} {Q : Exit → Act → World → Prop} (hgd : o.guard = none) (s x : Operand)
    (ho : o.op = .call { callee := .builtin .append, args := #[s, x], argTypes := #[87, 87] })
    (base : Nat) (v : Value) (ns : List Nat) (hs : a.eval s = v) (hown : OwnN w base v ns) (g m n : Nat) (hx : a.eval x = .slice (some ⟨g, 0, none⟩) 2 2) (hrow : Row w g 91 (numCells m ++ numCells n)) (hl : ns.length ≤ 1000) (hbase : base ≤ w.heap.size)
    (h : ∀ v' w', OwnN w' base v' (ns ++ [m, n]) → Below base w w' → wpList Tryz.prog ops Q rest (a.put o.dst v') w') : wpList Tryz.prog ops Q (o :: rest) a w := by
  obtain ⟨i0, hi0, hz0, hz1, hz2⟩ := info_parts info_piece
  refine wpList_append_own _ hgd s x 87 ho base 91 i0 _ 3 40 Tryz.underlying87 hi0 hz0 hz1 hz2 rfl (by decide) v ns.length (ns.flatMap numCells) hs hown ⟨g, 0, none⟩ 2 2
    (numCells m ++ numCells n) hx rfl (row_source hrow) (by simp [numCells, Value.oneCell']) (by unfold maxLen; omega) (by omega) hbase ?_
  intro v' w' h1 h2 _
  refine h v' w' ?_ ((Below.refl base _).grown h2 hbase (fun k hk => (hown.lt k hk).1))
  unfold OwnN
  rw [List.length_append, List.flatMap_append]
  have e : [m, n].flatMap numCells = numCells m ++ numCells n := by simp
  rw [e]
  exact h1
def vNums (l : List Vl) : List Nat := l.flatMap fun v => [v.key, v.power]
theorem vNums_take (l : List Vl) (k : Nat) (v : Vl) (h : l[k]? = some v) : vNums (l.take (k + 1)) = vNums (l.take k) ++ [v.key, v.power] := by
  obtain ⟨hk, rfl⟩ := List.getElem?_eq_some_iff.1 h
  rw [List.take_succ_eq_append_getElem hk]
  unfold vNums
  rw [List.flatMap_append]
  rfl
theorem vNums_pieces (l : List Vl) : (vNums l).map (fun n => (⟨1, n, []⟩ : Pc)) = vPieces l := by
  unfold vNums vPieces
  rw [List.map_flatMap]
  rfl
theorem vNums_len (l : List Vl) : (vNums l).length = 2 * l.length := by
  have := vPieces_length l
  rw [← vNums_pieces, List.length_map] at this
  exact this
theorem vPieces_fits (l : List Vl) (h : ∀ v ∈ l, v.ok) : ∀ p ∈ vPieces l, p.fits := by
  intro p hp
  obtain ⟨v, hv, hm⟩ := List.mem_flatMap.1 hp
  obtain ⟨h1, h2⟩ := h v hv
  simp at hm
  rcases hm with rfl | rfl
  · exact ⟨h1, by simp⟩
  · exact ⟨h2, by simp⟩
/-- what Digest is to answer, of few validators -/
def DigestC (f : FuncId) : Prop := ∀ (l : List Vl) (sv : Value) (N : Nat) (w : World), tableAt w → Vals w N sv l → N ≤ w.heap.size → l.length ≤ 10 → (∀ v ∈ l, v.ok) →
  Calls Tryz.prog f #[sv] w fun e w' => ∃ x, e = .returned x ∧ Bytes w' w'.heap.size x (digV l) ∧ Below w.heap.size w w'
set_option maxRecDepth 100000 in
set_option maxHeartbeats 4000000 in
theorem digRegion {y0 y1 y2 y4 y6 y7 y8 y9 y10 y11 y12 y13 y14 y15 y16 y17 y18 y19 y20 y29 y30 y31 y32 y33 y34 y35 y36 y37 z21 z22 z23 z24 z25 z26 z27 z28 : Value} {g base : Nat} (sv : Value) (m n : Nat) (ns : List Nat) {w : World} (hr : Hid (Row w g 89 [.int .u64 (m : Int), .int .u64 (n : Int)])) (hown : Hid (OwnN w base sv ns)) (hl : ns.length ≤ 1000) (hbase : base ≤ w.heap.size) (Q : Exit → Act → World → Prop)
    (hQ : Hid (∀ (σ : Nat → Value) (v' : Value) (w' : World), OwnN w' base v' (ns ++ [m, n]) → Below base w w' → Q .normal ⟨#[y0, y1, y2, v', y4, .pointer (some ⟨g, 0, none⟩), y6, y7, y8, y9, y10, y11, y12, y13, y14, y15, y16, y17, y18, y19, y20, σ 0, σ 1, σ 2, σ 3, σ 4, σ 5, σ 6, σ 7, v', y30, y31, y32, y33, y34, y35, y36, y37], []⟩ w')) :
    Code.wp Tryz.prog (.region 7 ((Tryz.f78.body.bind (regOf 7)).getD #[]) true) Q ⟨#[y0, y1, y2, sv, y4, .pointer (some ⟨g, 0, none⟩), y6, y7, y8, y9, y10, y11, y12, y13, y14, y15, y16, y17, y18, y19, y20, z21, z22, z23, z24, z25, z26, z27, z28, y29, y30, y31, y32, y33, y34, y35, y36, y37], []⟩ w := by
  conv => arg 2; arg 2; whnf
  conv => arg 4; dsimp only
  refine region_grows_tail 8 (by kernel_rfl) (fun σ => #[y0, y1, y2, sv, y4, .pointer (some ⟨g, 0, none⟩), y6, y7, y8, y9, y10, y11, y12, y13, y14, y15, y16, y17, y18, y19, y20, σ 0, σ 1, σ 2, σ 3, σ 4, σ 5, σ 6, σ 7, y29, y30, y31, y32, y33, y34, y35, y36, y37]) (fun i => ([z21, z22, z23, z24, z25, z26, z27, z28] : List Value).getD i undef) rfl (fun i X W => match i with
    | 0 => X = sv
    | 1 => X = .pointer (some ⟨g, 0, none⟩)
    | 2 => X = .int .u64 (m : Int)
    | 3 => X = .agg #[.int .i64 1, .int .u64 (m : Int), .slice none 0 0]
    | 4 => X = .pointer (some ⟨g, 1, none⟩)
    | 5 => X = .int .u64 (n : Int)
    | 6 => X = .agg #[.int .i64 1, .int .u64 (n : Int), .slice none 0 0]
    | 7 => ∃ k, X = .slice (some ⟨k, 0, none⟩) 2 2 ∧ Row W k 91 (numCells m ++ numCells n)
    | _ => True) ?_ (by kernel_rfl) ?_ ?_
  · intro i X W W' HB H
    match i, H with
    | 0, H => exact H
    | 1, H => exact H
    | 2, H => exact H
    | 3, H => exact H
    | 4, H => exact H
    | 5, H => exact H
    | 6, H => exact H
    | 7, H => exact by obtain ⟨k, h1, h2⟩ := H; exact ⟨k, h1, h2.below HB h2.lt⟩
    | _ + 8, _ => exact trivial
  · refine ⟨?_, ?_, ?_, ?_, ?_, ?_, ?_, ?_, trivial⟩
    · -- 0: Op.move t3
      intro σ W HJ hdep
      simp [Region.binds] at hdep
      have HJ := hid HJ
      refine wpOp_plain rfl rfl ?_
      go_simp
      exact Left.mk0 sv (by first | rfl | simp [updF, *]) HJ.out rfl
    · -- 1: Op.fieldAddr 45 t5 0
      intro σ W HJ hdep
      simp [Region.binds] at hdep
      have HJ := hid HJ
      refine wpOp_plain rfl rfl ?_
      go_simp
      exact Left.mk0 (.pointer (some ⟨g, 0, none⟩)) (by first | rfl | simp [updF, *]) HJ.out rfl
    · -- 2: Op.load 43 t22
      intro σ W HJ hdep
      simp [Region.binds] at hdep
      have HJ := hid HJ
      have k := (hr.out.below HJ.out hr.out.lt).cell 0
      simp at k
      refine wpOp_plain rfl rfl ?_
      go_simp
      exact Left.mk0 (.int .u64 (m : Int)) (by first | rfl | simp [updF, *]) HJ.out rfl
    · -- 3: Op.call { value (Operand.func 40), args := #[t23], argTypes 
      intro σ W HJ hdep
      simp [Region.binds] at hdep
      have HJ := hid HJ
      refine wpOp_plain rfl rfl ?_
      go_simp
      refine (numberC m W).mono ?_
      rintro e w2 ⟨rfl, hb2⟩
      exact Left.mk (.agg #[.int .i64 1, .int .u64 (m : Int), .slice none 0 0]) (by first | rfl | simp [updF, *]) hb2 HJ.out rfl
    · -- 4: Op.fieldAddr 45 t5 1
      intro σ W HJ hdep
      simp [Region.binds] at hdep
      have HJ := hid HJ
      refine wpOp_plain rfl rfl ?_
      go_simp
      exact Left.mk0 (.pointer (some ⟨g, 1, none⟩)) (by first | rfl | simp [updF, *]) HJ.out rfl
    · -- 5: Op.load 43 t25
      intro σ W HJ hdep
      simp [Region.binds] at hdep
      have HJ := hid HJ
      have k := (hr.out.below HJ.out hr.out.lt).cell 1
      simp at k
      refine wpOp_plain rfl rfl ?_
      go_simp
      exact Left.mk0 (.int .u64 (n : Int)) (by first | rfl | simp [updF, *]) HJ.out rfl
    · -- 6: Op.call { value (Operand.func 40), args := #[t26], argTypes 
      intro σ W HJ hdep
      simp [Region.binds] at hdep
      have HJ := hid HJ
      refine wpOp_plain rfl rfl ?_
      go_simp
      refine (numberC n W).mono ?_
      rintro e w2 ⟨rfl, hb2⟩
      exact Left.mk (.agg #[.int .i64 1, .int .u64 (n : Int), .slice none 0 0]) (by first | rfl | simp [updF, *]) hb2 HJ.out rfl
    · -- 7: Op.buildSlice 67 2 #[(0, t24), (1, t27)]
      intro σ W HJ hdep
      simp [Region.binds] at hdep
      have HJ := hid HJ
      obtain ⟨e1, e2⟩ := hdep
      refine wpOp_plain rfl rfl ?_
      go_simp
      exact Left.mk (.slice (some ⟨W.heap.size, 0, none⟩) 2 2) (by first | rfl | simp [updF, *]) ((Below.refl _ _).alloc (Nat.le_refl _) _) HJ.out ⟨W.heap.size, rfl, Row.new _ _ _⟩
  · intro σ W hj hg
    have HJ := hid hj
    clear hj
    simp only [List.drop_succ_cons, List.drop_zero]
    have e0 : σ 0 = sv := hg 0 (by decide)
    obtain ⟨k, e7, hrow⟩ : ∃ k, σ 7 = .slice (some ⟨k, 0, none⟩) 2 2 ∧ Row W k 91 (numCells m ++ numCells n) := hg 7 (by decide)
    refine wpList_append_two rfl (.tmp 21) (.tmp 28) rfl base sv ns e0 (OwnN.below hown.out HJ.out) k m n e7 hrow hl (Nat.le_trans hbase HJ.out.size) ?_
    intro v' w' hown2 hb2
    have HO2 := hid hown2
    have HB2 := hid ((HJ.out.mono hbase).trans hb2)
    clear hown2 hb2 hrow e0 e7 hg
    go_wp2
    exact hQ.out σ v' w' HO2.out HB2.out
set_option maxRecDepth 100000 in
set_option maxHeartbeats 2000000 in
theorem digestC : DigestC 78 := by
  intro l sv N w htab hb hN hlen hok
  obtain ⟨oa, ca, rfl, hca⟩ := hb.shape
  have HB := hid hb
  have HTAB := hid htab
  have HX := hid (wrAll_vals l hlen hok)
  have HXL := hid (vBytes_length l hlen hok)
  have HFIT := hid (vPieces_fits l hok)
  have HPL := hid (vPieces_length l)
  clear hb htab hok
  generalize hn : l.length = n at *
  have HN := hid hn
  clear hn
  have e1 : decide ((10 : Int) < (n : Int)) = false := by simp; omega
  obtain ⟨i0, hi0, hz0, hz1, hz2⟩ := info_parts info_piece
  obtain ⟨w1, hrun, hown1, hgr1⟩ := run_make_own (P := Tryz.prog) (w := w) w.heap.size 87 91 i0 _ 3 Tryz.underlying87 hi0 hz0 hz1 .i64 .i64 (2 * n) (by rw [hz2]; omega) (by unfold maxLen; omega) (Nat.le_refl _)
  have HO1 := hid (show OwnN w1 w.heap.size (.slice (some ⟨w.heap.size, 0, none⟩) 0 (2 * n)) (vNums (l.take 0)) from hown1)
  have HB1 := hid (show Below w.heap.size w w1 from ⟨hgr1.os, hgr1.tape, hgr1.output, hgr1.size, fun k hk => hgr1.block k hk (by simp)⟩)
  rw [show ((2 * n : Nat) : Int) = 2 * (n : Int) by omega] at hrun
  have hmul : IntKind.i64.wrap (2 * (n : Int)) = 2 * (n : Int) := by simp [IntKind.wrap, IntKind.bits, IntKind.signed]; split <;> omega
  clear hown1 hgr1
  go_enter Tryz.func78, Tryz.ntmps78
  go_wp2
  go_loopw [3, 5, 17] (fun y _ i wr => ∃ k : Nat, k ≤ n ∧ i = .int .i64 (k : Int) ∧ Hid (OwnN wr w.heap.size y (vNums (l.take k)) ∧ Below w.heap.size w wr)) (fun _ _ i _ => n - (intOf i).toNat)
  case atStart => exact ⟨0, by omega, rfl, hid ⟨HO1.out, HB1.out⟩⟩
  case round =>
    obtain ⟨k, hk, rfl, HT⟩ := hrel
    have hszr := HT.out.2.size
    by_cases hlt : k < n
    · obtain ⟨v, hv⟩ : ∃ v, l[k]? = some v := ⟨l[k]'(by rw [HN.out]; exact hlt), List.getElem?_eq_getElem _⟩
      obtain ⟨b, o, rfl, hcells⟩ := HB.out.spot (by omega)
      obtain ⟨hbN, d0, d1⟩ := hcells k v hv
      have hbl : b < w.heap.size := by omega
      have f0 := (HT.out.2.cell (p := ⟨b, o + k * 2, none⟩) hbl).trans d0
      have f1 := (HT.out.2.cell (p := ⟨b, o + k * 2 + 1, none⟩) hbl).trans d1
      have hlt' : (k : Int) < (n : Int) := by omega
      obtain ⟨w2, hw2⟩ : ∃ w2, wr.alloc (.cells #[.int .u64 (v.key : Int), .int .u64 (v.power : Int)] 89) = w2 := ⟨_, rfl⟩
      have hbr2 : Below wr.heap.size wr w2 := by rw [← hw2]; exact (Below.refl _ _).alloc (Nat.le_refl _) _
      have HB2 := hid (HT.out.2.trans (hbr2.mono hszr))
      have HRW := hid (show Row w2 wr.heap.size 89 [.int .u64 (v.key : Int), .int .u64 (v.power : Int)] by rw [← hw2]; exact Row.new _ _ _)
      have HO2 := hid (HT.out.1.below hbr2)
      have HW2 := hid hw2
      have HNT := hid (vNums_take l k v hv)
      have hns : (vNums (l.take k)).length ≤ 1000 := by rw [vNums_len]; simp; omega
      have HSZ2 := hid HB2.out.size
      clear d0 d1 hbr2 hw2 hcells
      go_wp2_with fail
      rw [HW2.out]
      refine digRegion _ v.key v.power (vNums (l.take k)) HRW HO2 hns HSZ2.out _ (hid ?_)
      intro σ v2 w3 hown3 hb3
      have HO3 := hid hown3
      have HB3 := hid hb3
      clear hown3 hb3
      go_wp2_with fail
      go_roundw
      case rel => exact ⟨k + 1, by omega, by go_num, hid ⟨by rw [HNT.out]; exact HO3.out, HB2.out.trans HB3.out⟩⟩
      case measure => simp [intOf]; omega
    · have hge : decide ((k : Int) < (n : Int)) = false := by simp; omega
      have hkl : l.take k = l := List.take_of_length_le (by rw [HN.out]; omega)
      have hp0 := HT.out.1.pieces
      rw [hkl, vNums_pieces] at hp0
      have HP := hid hp0
      obtain ⟨oy, cy, rfl⟩ := HT.out.1.shape
      clear hkl hp0
      generalize (vNums (l.take k)).length = m at *
      have HC := hid (write_any (vPieces l) _ wr.heap.size wr HP.out (Nat.le_refl _) (by have := HPL.out; omega) HFIT.out)
      go_wp2_with fail
      refine HC.out.mono ?_
      rintro e w4 ⟨hb4, h4⟩
      have h5 : ∃ v, e = .returned (.tuple #[v, okV]) ∧ OwnB w4 wr.heap.size v (vBytes l) := by
        rcases h4 with ⟨x2, v, hx2, he, ho⟩ | ⟨c, i, hx2, _⟩
        · rw [HX.out] at hx2
          cases hx2
          exact ⟨v, he, ho⟩
        · rw [HX.out] at hx2
          cases hx2
      obtain ⟨v, rfl, ho⟩ := h5
      obtain ⟨ov, cv, rfl, hcv⟩ := ho.shape
      have HO := hid ho.bytes
      have HB4 := hid (HT.out.2.trans (hb4.mono hszr))
      clear h4 ho hb4 HC hcv
      unfold okV
      obtain ⟨w5, hw5⟩ : ∃ w5, w4.alloc (.cells #[.int .i64 0, .int .i64 0] 124) = w5 := ⟨_, rfl⟩
      have HR5 := hid (show Row w5 w4.heap.size 124 [.int .i64 0, .int .i64 0] by rw [← hw5]; exact Row.new _ _ _)
      have HB5 := hid (show Below w4.heap.size w4 w5 by rw [← hw5]; exact (Below.refl _ _).alloc (Nat.le_refl _) _)
      have s0 := setCell_same HR5.out (i := 0) rfl
      have s1 := setCell_same HR5.out (i := 1) rfl
      obtain ⟨c0, c1, z0, z1⟩ := HR5.out.two
      have HBW := hid (HB4.out.trans (HB5.out.mono HB4.out.size))
      have HS := hid (sum_any (vBytes l) _ w5.heap.size w5 (Nat.le_refl _) ((HO.out.below HB5.out).mono HB5.out.size) (HTAB.out.below HBW.out HTAB.out.lt) (by have := HXL.out; omega))
      generalize (vBytes l).length = m2 at *
      go_wp2_with fail
      refine HS.out.mono ?_
      rintro e w6 ⟨v6, rfl, hown6, hb6⟩
      have HO6 := hid (ownsRow_bytes hown6)
      have HB6 := hid hb6
      clear hown6 hb6
      go_wp2
      go_ret
      exact ⟨_, rfl, HO6.out, HBW.out.trans (HB6.out.mono HBW.out.size)⟩
end Go.Proofs.YtiflkkelbnpniaaGreatDoor
namespace Go.Proofs.YtiflkkelbnpniaaGreatDoor
open Go.RowKit

set_option maxRecDepth 100000 in
set_option maxHeartbeats 4000000 in
theorem togRegion {y0 y3 y4 y5 y6 y7 y8 y9 y10 y11 y12 y13 y14 y15 y16 z17 z18 z19 z20 z21 z22 : Value} {g N : Nat} (h : Hd) (l : List Vl) (sv : Value) (o1 o2 o3 : Option Addr) (c1 c2 c3 : Nat) {w : World} (htab : Hid (tableAt w)) (hr : Hid (Row w g 29 [.string h.chain, .int .i64 h.height, .int .i64 h.time, .slice o1 h.root.length c1, .slice o2 h.vals.length c2, .slice o3 h.next.length c3])) (hv2 : Hid (Bytes w N (.slice o2 h.vals.length c2) h.vals)) (hl : Hid (Vals w N sv l)) (hN : N ≤ w.heap.size) (hten : l.length ≤ 10) (hok : Hid (∀ v ∈ l, v.ok)) (Q : Exit → Act → World → Prop)
    (hQ : Hid (∀ (σ : Nat → Value) (w' : World), Below w.heap.size w w' → /-5-/ σ 5 = .bool (!decide (h.vals = digV l)) → Q .normal ⟨#[y0, sv, .pointer (some ⟨g, 0, none⟩), y3, y4, y5, y6, y7, y8, y9, y10, y11, y12, y13, y14, y15, y16, σ 0, σ 1, σ 2, σ 3, σ 4, σ 5], []⟩ w')) :
    Code.wp Tryz.prog (.region 7 ((Tryz.f43.body.bind (regOf 7)).getD #[]) true) Q ⟨#[y0, sv, .pointer (some ⟨g, 0, none⟩), y3, y4, y5, y6, y7, y8, y9, y10, y11, y12, y13, y14, y15, y16, z17, z18, z19, z20, z21, z22], []⟩ w := by
  conv => arg 2; arg 2; whnf
  conv => arg 4; dsimp only
  refine region_grows (by kernel_rfl) (fun σ => #[y0, sv, .pointer (some ⟨g, 0, none⟩), y3, y4, y5, y6, y7, y8, y9, y10, y11, y12, y13, y14, y15, y16, σ 0, σ 1, σ 2, σ 3, σ 4, σ 5]) (fun i => ([z17, z18, z19, z20, z21, z22] : List Value).getD i undef) rfl (fun i X W => match i with
    | 0 => X = .pointer (some ⟨g, 4, none⟩)
    | 1 => X = .slice o2 h.vals.length c2
    | 2 => X = sv
    | 3 => Bytes W W.heap.size X (digV l)
    | 4 => X = .bool (decide (h.vals = digV l))
    | 5 => X = .bool (!decide (h.vals = digV l))
    | _ => True) ?_ (by kernel_rfl) ?_ ?_
  · intro i X W W' HB H
    match i, H with
    | 0, H => exact H
    | 1, H => exact H
    | 2, H => exact H
    | 3, H => exact (H.below HB).mono HB.size
    | 4, H => exact H
    | 5, H => exact H
    | _ + 6, _ => exact trivial
  · refine ⟨?_, ?_, ?_, ?_, ?_, ?_, trivial⟩
    · -- 0: Op.fieldAddr 25 t2 4
      intro σ W HJ hdep
      simp [Region.binds] at hdep
      have HJ := hid HJ
      refine wpOp_plain rfl rfl ?_
      go_simp
      exact Left.mk0 (.pointer (some ⟨g, 4, none⟩)) (by first | rfl | simp [updF, *]) HJ.out rfl
    · -- 1: Op.load 23 t17
      intro σ W HJ hdep
      simp [Region.binds] at hdep
      have HJ := hid HJ
      have k := (hr.out.below HJ.out hr.out.lt).cell 4
      simp at k
      refine wpOp_plain rfl rfl ?_
      go_simp
      exact Left.mk0 (.slice o2 h.vals.length c2) (by first | rfl | simp [updF, *]) HJ.out rfl
    · -- 2: Op.move t1
      intro σ W HJ hdep
      simp [Region.binds] at hdep
      have HJ := hid HJ
      refine wpOp_plain rfl rfl ?_
      go_simp
      exact Left.mk0 (sv) (by first | rfl | simp [updF, *]) HJ.out rfl
    · -- 3: Op.call { value (Operand.func 19), args := #[t19], argTypes 
      intro σ W HJ hdep
      simp [Region.binds] at hdep
      have HJ := hid HJ
      have HD := hid (digestC l sv N W (htab.out.below HJ.out htab.out.lt) (hl.out.below (HJ.out.mono hN)) (Nat.le_trans hN HJ.out.size) hten hok.out)
      refine wpOp_plain rfl rfl ?_
      go_simp
      refine (HD.out).mono ?_
      rintro e w2 ⟨v, rfl, hv2, hb2⟩
      exact Left.mk v (by first | rfl | simp [updF, *]) hb2 HJ.out hv2
    · -- 4: Op.call { value (Operand.func 58), args := #[t18, t20], argT
      intro σ W HJ hdep
      simp [Region.binds] at hdep
      have HJ := hid HJ
      have e1 := hdep.1
      have HE := hid (equal_any h.vals (digV l) (.slice o2 h.vals.length c2) (σ 3) N W.heap.size W (hv2.out.below (HJ.out.mono hN)) hdep.2)
      clear hdep
      refine wpOp_plain rfl rfl ?_
      go_simp
      refine (HE.out).mono ?_
      rintro e w2 ⟨rfl, hw2⟩
      obtain rfl := hw2.symm
      exact Left.mk0 (.bool (decide (h.vals = digV l))) (by first | rfl | simp [updF, *]) HJ.out rfl
    · -- 5: Op.unOp UnOp.not 4 t21
      intro σ W HJ hdep
      simp [Region.binds] at hdep
      have HJ := hid HJ
      refine wpOp_plain rfl rfl ?_
      go_simp
      exact Left.mk0 (.bool (!decide (h.vals = digV l))) (by first | rfl | simp [updF, *]) HJ.out rfl
  · intro σ w' hb hg
    exact hQ.out σ w' hb (by first | exact ⟨hg 5 (by decide)⟩ | exact hg 5 (by decide))

set_option maxRecDepth 100000 in
set_option maxHeartbeats 2000000 in
theorem together_any (h : Hd) (l : List Vl) (v sv : Value) (N : Nat) (w : World) (htab : tableAt w) (hN : N ≤ w.heap.size) (hv : HdV w N v h) (hf : h.fits) (hl : Vals w N sv l) (hlen : l.length < 2305843009213693952) (hok : ∀ v ∈ l, v.ok) :
    Calls Tryz.prog 43 #[v, sv] w fun e w' => e = .returned (.int .i64 (togetherN h l)) ∧ Below w.heap.size w w' := by
  have HV := hid hv
  obtain ⟨rv, vv, nv, rfl, h1, h2, h3⟩ := hv
  obtain ⟨o1, c1, rfl, _⟩ := h1.shape
  obtain ⟨o2, c2, rfl, _⟩ := h2.shape
  obtain ⟨o3, c3, rfl, _⟩ := h3.shape
  have H2 := hid h2
  have HL := hid hl
  obtain ⟨ol, cl, rfl, _⟩ := hl.shape
  obtain ⟨w0, hw0⟩ : ∃ w0, w.alloc (.cells #[.string h.chain, .int .i64 h.height, .int .i64 h.time, .slice o1 h.root.length c1, .slice o2 h.vals.length c2, .slice o3 h.next.length c3] 29) = w0 := ⟨_, rfl⟩
  have HB0 := hid (show Below w.heap.size w w0 by rw [← hw0]; exact (Below.refl _ _).alloc (Nat.le_refl _) _)
  have HR0 := hid (show Row w0 w.heap.size 29 [.string h.chain, .int .i64 h.height, .int .i64 h.time, .slice o1 h.root.length c1, .slice o2 h.vals.length c2, .slice o3 h.next.length c3] by rw [← hw0]; exact Row.new _ _ _)
  obtain ⟨k0, k1, k2, k3, k4, k5⟩ := HR0.out.six
  have HTAB := hid htab
  have HOK := hid hok
  have HW := hid (wrong_any h _ N w0 (HV.out.below (HB0.out.mono hN)) hf)
  clear h1 h2 h3 hl htab hok
  generalize hn : l.length = n at *
  have HN := hid hn
  clear hn
  by_cases hw : wrongH h = 0
  · have e1 : (wrongH h != 0) = false := by simp [hw]
    by_cases hvl : valsN l = 0
    · have e2 : (valsN l != 0) = false := by simp [hvl]
      have HTEN := hid (valsN_ok hvl).2.1
      by_cases hd : h.vals = digV l
      · have HT := hid (show togetherN h l = 0 by unfold togetherN; rw [if_neg (by simp [hw]), if_neg (by simp [hvl]), if_pos hd])
        have HD := hid hd
        clear hd hw hvl
        go_enter Tryz.func43, Tryz.ntmps43
        go_wp2_with fail
        refine HW.out.mono ?_
        rintro e w1 ⟨rfl, hb1⟩
        have HB1 := hid (HB0.out.trans (hb1.mono HB0.out.size))
        have HR1 := hid (HR0.out.below hb1 HR0.out.lt)
        have HLC := hid (valsC l _ N w1 (HL.out.below (HB1.out.mono hN)) (Nat.le_trans hN HB1.out.size) (by rw [HN.out]; exact hlen))
        clear hb1
        generalize wrongH h = ww at *
        go_wp2_with fail
        refine HLC.out.mono ?_
        rintro e w2 ⟨rfl, hb2⟩
        have HB2 := hid (HB1.out.trans (hb2.mono HB1.out.size))
        have HR2 := hid (HR1.out.below hb2 HR1.out.lt)
        have HL2 := hid (HL.out.below (HB2.out.mono hN))
        clear hb2
        generalize valsN l = vw at *
        go_wp2_with fail
        refine togRegion h l _ o1 o2 o3 c1 c2 c3 (hid (HTAB.out.below HB2.out HTAB.out.lt)) HR2 (hid (H2.out.below (HB2.out.mono hN))) HL2 (Nat.le_trans hN HB2.out.size) HTEN.out HOK _ (hid ?_)
        intro σ w3 hb3 h5
        have h5 : σ 5 = .bool false := by rw [h5, decide_eq_true HD.out]; rfl
        have HB3 := hid hb3
        clear hb3
        rw [h5]
        clear h5
        go_wp2
        go_ret
        exact ⟨by rw [HT.out]; first | done | rfl, HB2.out.trans (HB3.out.mono HB2.out.size)⟩
      · have HT := hid (show togetherN h l = 8 by unfold togetherN; rw [if_neg (by simp [hw]), if_neg (by simp [hvl]), if_neg hd])
        have HD := hid hd
        clear hd hw hvl
        go_enter Tryz.func43, Tryz.ntmps43
        go_wp2_with fail
        refine HW.out.mono ?_
        rintro e w1 ⟨rfl, hb1⟩
        have HB1 := hid (HB0.out.trans (hb1.mono HB0.out.size))
        have HR1 := hid (HR0.out.below hb1 HR0.out.lt)
        have HLC := hid (valsC l _ N w1 (HL.out.below (HB1.out.mono hN)) (Nat.le_trans hN HB1.out.size) (by rw [HN.out]; exact hlen))
        clear hb1
        generalize wrongH h = ww at *
        go_wp2_with fail
        refine HLC.out.mono ?_
        rintro e w2 ⟨rfl, hb2⟩
        have HB2 := hid (HB1.out.trans (hb2.mono HB1.out.size))
        have HR2 := hid (HR1.out.below hb2 HR1.out.lt)
        have HL2 := hid (HL.out.below (HB2.out.mono hN))
        clear hb2
        generalize valsN l = vw at *
        go_wp2_with fail
        refine togRegion h l _ o1 o2 o3 c1 c2 c3 (hid (HTAB.out.below HB2.out HTAB.out.lt)) HR2 (hid (H2.out.below (HB2.out.mono hN))) HL2 (Nat.le_trans hN HB2.out.size) HTEN.out HOK _ (hid ?_)
        intro σ w3 hb3 h5
        have h5 : σ 5 = .bool true := by rw [h5, decide_eq_false HD.out]; rfl
        have HB3 := hid hb3
        clear hb3
        rw [h5]
        clear h5
        go_wp2
        go_ret
        exact ⟨by rw [HT.out]; first | done | rfl, HB2.out.trans (HB3.out.mono HB2.out.size)⟩
    · have e2 : (valsN l != 0) = true := by simp [hvl]
      have HT := hid (show togetherN h l = valsN l by unfold togetherN; rw [if_neg (by simp [hw]), if_pos hvl])
      clear hw hvl
      go_enter Tryz.func43, Tryz.ntmps43
      go_wp2_with fail
      refine HW.out.mono ?_
      rintro e w1 ⟨rfl, hb1⟩
      have HB1 := hid (HB0.out.trans (hb1.mono HB0.out.size))
      have HLC := hid (valsC l _ N w1 (HL.out.below (HB1.out.mono hN)) (Nat.le_trans hN HB1.out.size) (by rw [HN.out]; exact hlen))
      clear hb1
      generalize wrongH h = ww at *
      go_wp2_with fail
      refine HLC.out.mono ?_
      rintro e w2 ⟨rfl, hb2⟩
      have HB2 := hid (HB1.out.trans (hb2.mono HB1.out.size))
      clear hb2
      generalize valsN l = vw at *
      go_wp2
      go_ret
      exact ⟨by rw [HT.out]; first | done | rfl, HB2.out⟩
  · have e1 : (wrongH h != 0) = true := by simp [hw]
    have HT := hid (show togetherN h l = wrongH h by unfold togetherN; rw [if_pos hw])
    clear hw
    go_enter Tryz.func43, Tryz.ntmps43
    go_wp2_with fail
    refine HW.out.mono ?_
    rintro e w1 ⟨rfl, hb1⟩
    have HB1 := hid (HB0.out.trans (hb1.mono HB0.out.size))
    clear hb1
    generalize wrongH h = ww at *
    go_wp2
    go_ret
    exact ⟨by rw [HT.out]; first | done | rfl, HB1.out⟩
end Go.Proofs.YtiflkkelbnpniaaGreatDoor
namespace Go.Proofs.YtiflkkelbnpniaaGreatDoor
open Go.RowKit

theorem goodAll_at (m : List (BitVec 8)) : ∀ (vs : List Vl) (ts : List Vt) (k : Nat) (v : Vl) (t : Vt), vs[k]? = some v → ts[k]? = some t → goodAll m (vs.drop k) (ts.drop k) = ((!t.is || goodB v.key m t.r t.s) && goodAll m (vs.drop (k + 1)) (ts.drop (k + 1))) := by
  intro vs ts k v t hv ht
  obtain ⟨h1, rfl⟩ := List.getElem?_eq_some_iff.1 hv
  obtain ⟨h2, rfl⟩ := List.getElem?_eq_some_iff.1 ht
  rw [List.drop_eq_getElem_cons h1, List.drop_eq_getElem_cons h2, goodAll]
theorem goodAll_end (m : List (BitVec 8)) (vs : List Vl) (ts : List Vt) (k : Nat) (h : ts.length ≤ k) : goodAll m (vs.drop k) (ts.drop k) = true := by
  rw [List.drop_eq_nil_of_le h]
  unfold goodAll
  split <;> first | rfl | (rename_i h; cases h)
set_option maxRecDepth 100000 in
set_option maxHeartbeats 4000000 in
theorem allGood_any (s : Sg) (v : Value) (N : Nat) (w : World) (htab : tableAt w) (hN : N ≤ w.heap.size) (hv : SgV w N v s) (hw : wrongH s.hd = 0) (hlen : s.votes.length = s.vals.length) (h10 : s.vals.length ≤ 10) (hok : ∀ v ∈ s.vals, v.ok) (hot : ∀ t ∈ s.votes, t.ok) :
    Calls Tryz.prog 44 #[v] w fun e w' => e = .returned (.bool (goodAll (bytesH s.hd) s.vals s.votes)) ∧ Below w.heap.size w w' := by
  obtain ⟨rv, vv, nv, lv, tv, rfl, h1, h2, h3, h4, h5⟩ := hv
  obtain ⟨o1, c1, rfl, _⟩ := h1.shape
  obtain ⟨o2, c2, rfl, _⟩ := h2.shape
  obtain ⟨o3, c3, rfl, _⟩ := h3.shape
  have HL := hid h4
  have HT := hid h5
  obtain ⟨o4, c4, rfl, _⟩ := h4.shape
  obtain ⟨o5, c5, rfl, _⟩ := h5.shape
  have HHV := hid (show HdV w N (.agg #[.string s.hd.chain, .int .i64 s.hd.height, .int .i64 s.hd.time, .slice o1 s.hd.root.length c1, .slice o2 s.hd.vals.length c2, .slice o3 s.hd.next.length c3]) s.hd from ⟨_, _, _, rfl, h1, h2, h3⟩)
  have HTAB := hid htab
  have HOK := hid hok
  have HOT := hid hot
  obtain ⟨w0, hw0⟩ : ∃ w0, w.alloc (.cells #[.string s.hd.chain, .int .i64 s.hd.height, .int .i64 s.hd.time, .slice o1 s.hd.root.length c1, .slice o2 s.hd.vals.length c2, .slice o3 s.hd.next.length c3, .slice o4 s.vals.length c4, .slice o5 s.votes.length c5] 33) = w0 := ⟨_, rfl⟩
  have HB0 := hid (show Below w.heap.size w w0 by rw [← hw0]; exact (Below.refl _ _).alloc (Nat.le_refl _) _)
  have hr0 : Row w0 w.heap.size 33 [.string s.hd.chain, .int .i64 s.hd.height, .int .i64 s.hd.time, .slice o1 s.hd.root.length c1, .slice o2 s.hd.vals.length c2, .slice o3 s.hd.next.length c3, .slice o4 s.vals.length c4, .slice o5 s.votes.length c5] := by rw [← hw0]; exact Row.new _ _ _
  have HR0 := hid hr0
  obtain ⟨k0, k1, k2, k3, k4, k5, k6, k7⟩ := hr0.eight
  have HBY := hid (bytesC s.hd _ N w0 (HHV.out.below (HB0.out.mono hN)) (Nat.le_trans hN HB0.out.size) hw)
  have HML := hid (wrs_head s.hd hw)
  clear h1 h2 h3 h4 h5 htab hok hot hr0 hw
  generalize hm : bytesH s.hd = m at *
  generalize hvs : s.vals = vs at *
  generalize hts : s.votes = ts at *
  clear hm hvs hts
  generalize hn : vs.length = nv at *
  generalize hnt : ts.length = n at *
  subst hlen
  have HN := hid hn
  have HNT := hid hnt
  clear hn hnt
  go_enter Tryz.func44, Tryz.ntmps44
  go_wp2_with fail
  refine HBY.out.mono ?_
  rintro e w1 ⟨x, rfl, hx, hb1⟩
  obtain ⟨ox, cx, rfl, _⟩ := hx.shape
  have HX := hid hx
  have HB1 := hid (HB0.out.trans (hb1.mono HB0.out.size))
  have HR1 := hid (HR0.out.below hb1 HR0.out.lt)
  obtain ⟨j0, j1, j2, j3, j4, j5, j6, j7⟩ := HR1.out.eight
  generalize hnm : m.length = nm at *
  have HNM := hid hnm
  clear hnm hx hb1 HBY hw0
  go_wp2_with fail
  go_loopw [4, 5, 12] (fun _ _ i wr => ∃ k : Nat, k ≤ n ∧ i = .int .i64 (k : Int) ∧ Hid (Below w1.heap.size w1 wr ∧ goodAll m vs ts = goodAll m (vs.drop k) (ts.drop k))) (fun _ _ i _ => n - (intOf i).toNat)
  case atStart => exact ⟨0, by omega, rfl, hid ⟨Below.refl _ _, rfl⟩⟩
  case round =>
    obtain ⟨k, hk, rfl, HI⟩ := hrel
    have hszr := HI.out.1.size
    have HBW := hid (HB1.out.trans (HI.out.1.mono HB1.out.size))
    by_cases hlt : k < n
    · obtain ⟨v, hv⟩ : ∃ v, vs[k]? = some v := ⟨vs[k]'(by rw [HN.out]; exact hlt), List.getElem?_eq_getElem _⟩
      obtain ⟨t, ht⟩ : ∃ t, ts[k]? = some t := ⟨ts[k]'(by rw [HNT.out]; exact hlt), List.getElem?_eq_getElem _⟩
      obtain ⟨b, o, rfl, hcells⟩ := HL.out.spot (by omega)
      obtain ⟨b2, p, rfl, hcells2⟩ := HT.out.spot (by omega)
      obtain ⟨hbN, d0, d1⟩ := hcells k v hv
      obtain ⟨hbN2, a0, a1, a2⟩ := hcells2 k t ht
      have hbl : b < w.heap.size := by omega
      have hbl2 : b2 < w.heap.size := by omega
      have f0 := (HBW.out.cell (p := ⟨b2, p + k * 3, none⟩) hbl2).trans a0
      have f1 := (HBW.out.cell (p := ⟨b2, p + k * 3 + 1, none⟩) hbl2).trans a1
      have f2 := (HBW.out.cell (p := ⟨b2, p + k * 3 + 2, none⟩) hbl2).trans a2
      have hlt' : (k : Int) < (n : Int) := by omega
      obtain ⟨w2, hw2⟩ : ∃ w2, wr.alloc (.cells #[.bool t.is, .int .u64 (t.r : Int), .int .u64 (t.s : Int)] 86) = w2 := ⟨_, rfl⟩
      have hb2 : Below wr.heap.size wr w2 := by rw [← hw2]; exact (Below.refl _ _).alloc (Nat.le_refl _) _
      have HB2 := hid (HBW.out.trans (hb2.mono HBW.out.size))
      have HI2 := hid (HI.out.1.trans (hb2.mono hszr))
      have hr2 : Row w2 wr.heap.size 86 [.bool t.is, .int .u64 (t.r : Int), .int .u64 (t.s : Int)] := by rw [← hw2]; exact Row.new _ _ _
      obtain ⟨q0, q1, q2, _, _, _⟩ := hr2.three
      have g0 := (HB2.out.cell (p := ⟨b, o + k * 2, none⟩) hbl).trans d0
      obtain ⟨_, _, _, _, _, _, m6, m7⟩ := (HR1.out.below HI2.out HR1.out.lt).eight
      have HW2 := hid hw2
      have HGA := hid (goodAll_at m vs ts k v t hv ht)
      have hvk := (HOK.out v (List.mem_of_getElem? hv)).1
      have htk := HOT.out t (List.mem_of_getElem? ht)
      have htr := htk.1
      have hts := htk.2
      have HG := hid (show ∀ wq : World, Below w1.heap.size w1 wq → Calls Tryz.prog 79 #[.int .u64 (v.key : Int), .slice ox nm cx, .agg #[.int .u64 (t.r : Int), .int .u64 (t.s : Int)]] wq fun e w' => e = .returned (.bool (goodB v.key m t.r t.s)) ∧ Below wq.heap.size wq w' from fun wq hq =>
        (good_any v.key m t.r t.s _ w1.heap.size wq hvk htr hts hq.size (HX.out.below hq) (HTAB.out.below (HB1.out.trans (hq.mono HB1.out.size)) HTAB.out.lt) (by rw [HNM.out]; have := HML.out; omega)).mono fun e w' ⟨b, h1, h2, h3⟩ => ⟨by rw [h1, goodB_of h2], h3⟩)
      clear d0 d1 a0 a1 a2 hcells hcells2 hb2 hw2 hr2 hv ht htk
      generalize goodB v.key m t.r t.s = gb at *
      generalize hti : t.is = ti at *
      have HTI := hid hti
      clear hti
      cases ti with
      | true =>
        go_wp2_with fail
        rw [HW2.out]
        go_wp2_with fail
        refine region_tail 12 (by kernel_rfl) (by kernel_rfl) ?_
        simp only [List.take_succ_cons, List.take_zero, List.drop_succ_cons, List.drop_zero]
        repeat still_step
        refine wpStill_nil ?_
        go_wp2_with fail
        refine (HG.out _ (HI2.out.drew)).mono ?_
        rintro e w3 ⟨rfl, hb3⟩
        have HB3 := hid (HI2.out.trans ((below_drewH w2 1 _).trans (hb3.mono HI2.out.size)))
        clear hb3
        cases gb with
        | true =>
          go_wp2_with fail
          go_roundw
          case rel => exact ⟨k + 1, by omega, by go_num, hid ⟨HB3.out, by rw [HI.out.2, HGA.out]; simp⟩⟩
          case measure => simp [intOf]; omega
        | false =>
          go_wp2
          go_ret
          exact ⟨by rw [HI.out.2, HGA.out]; simp; first | done | rfl, HB1.out.trans (HB3.out.mono HB1.out.size)⟩
      | false =>
        go_wp2_with fail
        rw [HW2.out]
        go_wp2_with fail
        go_quiet (fail)
        go_wp2_with fail
        go_roundw
        case rel => exact ⟨k + 1, by omega, by go_num, hid ⟨HI2.out.trans (below_drewH _ _ _), by rw [HI.out.2, HGA.out]; simp⟩⟩
        case measure => simp [intOf]; omega
    · have hge : decide ((k : Int) < (n : Int)) = false := by simp; omega
      go_wp2
      go_ret
      exact ⟨by rw [HI.out.2, goodAll_end m vs ts k (by rw [HNT.out]; omega)]; first | done | rfl, HBW.out⟩
end Go.Proofs.YtiflkkelbnpniaaGreatDoor
namespace Go.Proofs.YtiflkkelbnpniaaGreatDoor
open Go.RowKit

/-- what Check is to answer -/
def CheckC (f : FuncId) : Prop := ∀ (s : Sg) (v : Value) (N : Nat) (w : World), tableAt w → N ≤ w.heap.size → SgV w N v s → s.fits →
  Calls Tryz.prog f #[v] w fun e w' => e = .returned (.int .i64 (checkN s)) ∧ Below w.heap.size w w'
/-- the place's vote is one -/
def isAt (ts : List Vt) (k : Nat) : Bool := match ts[k]? with
  | some t => t.is
  | none => false
theorem isAt_some {ts : List Vt} {k : Nat} {t : Vt} (h : ts[k]? = some t) : isAt ts k = t.is := by unfold isAt; rw [h]
theorem check1_any (ts : List Vt) (k g c : Nat) (o : Option Addr) (N : Nat) (w : World) (hc : w.cell? ⟨g, 7, none⟩ = some (.slice o ts.length c)) (ht : Votes w N (.slice o ts.length c) ts) (hk : k < ts.length) (hn : ts.length ≤ 10) :
    Calls Tryz.prog 46 #[.int .i64 (k : Int), .pointer (some ⟨g, 0, none⟩)] w fun e w' => e = .returned (.bool (isAt ts k)) ∧ Below w.heap.size w w' := by
  obtain ⟨b, p, rfl, hcells⟩ := ht.spot (by omega)
  obtain ⟨t, h⟩ : ∃ t, ts[k]? = some t := ⟨ts[k], List.getElem?_eq_getElem hk⟩
  obtain ⟨_, a0, _, _⟩ := hcells k t h
  have HI := hid (isAt_some h)
  have hlt : (k : Int) < (ts.length : Int) := by omega
  clear hcells ht h
  generalize ts.length = n at *
  go_enter Tryz.func46, Tryz.ntmps46
  go_wp2
  go_ret
  exact ⟨by rw [HI.out]; first | done | rfl, Below.refl _ _⟩
set_option maxRecDepth 100000 in
set_option maxHeartbeats 1000000 in
theorem checkC : CheckC 19 := by
  intro s v N w htab hN hv hfit
  have HSV := hid hv
  obtain ⟨rv, vv, nv, lv, tv, rfl, h1, h2, h3, h4, h5⟩ := hv
  obtain ⟨hf, hln, htn, hok, hot⟩ := hfit
  obtain ⟨o1, c1, rfl, _⟩ := h1.shape
  obtain ⟨o2, c2, rfl, _⟩ := h2.shape
  obtain ⟨o3, c3, rfl, _⟩ := h3.shape
  have HL := hid h4
  have HT := hid h5
  obtain ⟨o4, c4, rfl, _⟩ := h4.shape
  obtain ⟨o5, c5, rfl, _⟩ := h5.shape
  have HHV := hid (show HdV w N (.agg #[.string s.hd.chain, .int .i64 s.hd.height, .int .i64 s.hd.time, .slice o1 s.hd.root.length c1, .slice o2 s.hd.vals.length c2, .slice o3 s.hd.next.length c3]) s.hd from ⟨_, _, _, rfl, h1, h2, h3⟩)
  have HTAB := hid htab
  have HOK := hid hok
  have HOT := hid hot
  obtain ⟨w0, hw0⟩ : ∃ w0, w.alloc (.cells #[.string s.hd.chain, .int .i64 s.hd.height, .int .i64 s.hd.time, .slice o1 s.hd.root.length c1, .slice o2 s.hd.vals.length c2, .slice o3 s.hd.next.length c3, .slice o4 s.vals.length c4, .slice o5 s.votes.length c5] 33) = w0 := ⟨_, rfl⟩
  have HB0 := hid (show Below w.heap.size w w0 by rw [← hw0]; exact (Below.refl _ _).alloc (Nat.le_refl _) _)
  have hr0 : Row w0 w.heap.size 33 [.string s.hd.chain, .int .i64 s.hd.height, .int .i64 s.hd.time, .slice o1 s.hd.root.length c1, .slice o2 s.hd.vals.length c2, .slice o3 s.hd.next.length c3, .slice o4 s.vals.length c4, .slice o5 s.votes.length c5] := by rw [← hw0]; exact Row.new _ _ _
  have HR0 := hid hr0
  obtain ⟨k0, k1, k2, k3, k4, k5, k6, k7⟩ := hr0.eight
  have HTG := hid (together_any s.hd s.vals _ _ N w0 (htab.below HB0.out htab.lt) (Nat.le_trans hN HB0.out.size) (HHV.out.below (HB0.out.mono hN)) hf (HL.out.below (HB0.out.mono hN)) hln hok)
  clear h1 h2 h3 h4 h5 htab hok hot hr0
  by_cases ht : togetherN s.hd s.vals = 0
  · have e1 : (togetherN s.hd s.vals != 0) = false := by simp [ht]
    have t1 := (togetherN_ok ht).1
    have t2 := (togetherN_ok ht).2.1
    have HVO := hid (valsN_ok t2)
    have HW1 := hid t1
    by_cases hlen : s.votes.length = s.vals.length
    · have e2 : ((s.votes.length : Int) != (s.vals.length : Int)) = false := by simp [hlen]
      have HAG := hid (show ∀ wq, Below w.heap.size w wq → Calls Tryz.prog 44 #[.agg #[.string s.hd.chain, .int .i64 s.hd.height, .int .i64 s.hd.time, .slice o1 s.hd.root.length c1, .slice o2 s.hd.vals.length c2, .slice o3 s.hd.next.length c3, .slice o4 s.vals.length c4, .slice o5 s.votes.length c5]] wq fun e w' => e = .returned (.bool (goodAll (bytesH s.hd) s.vals s.votes)) ∧ Below wq.heap.size wq w' from fun wq hq =>
        allGood_any s _ N wq (HTAB.out.below hq HTAB.out.lt) (Nat.le_trans hN hq.size) (HSV.out.below (hq.mono hN)) HW1.out hlen HVO.out.2.1 HOK.out HOT.out)
      by_cases hga : goodAll (bytesH s.hd) s.vals s.votes = true
      · have HPW := hid (show ∀ wq, Below w0.heap.size w0 wq → Calls Tryz.prog 45 #[.slice o4 s.vals.length c4, .func (.func 46) #[] #[.pointer (some ⟨w.heap.size, 0, none⟩)]] wq fun e w' => e = .returned (.tuple #[.int .u64 (yesP s.vals s.votes : Int), .int .u64 (allP s.vals : Int)]) ∧ Below wq.heap.size wq w' from fun wq hq => by
          have hqw := HB0.out.trans (hq.mono HB0.out.size)
          have := powerCheck w.heap.size s.vals (isAt s.votes) _ N wq (Nat.le_trans hN hqw.size) (HL.out.below (hqw.mono hN)) HVO.out.2.1 (fun v hv => (HVO.out.2.2.1 v hv).2) (fun k wr hk hb => by
            have hbw := hqw.trans (hb.mono hqw.size)
            have hb0 := hq.trans (hb.mono hq.size)
            exact check1_any s.votes k w.heap.size c5 o5 N wr ((HR0.out.below hb0 HR0.out.lt).cell 7) (HT.out.below (hbw.mono hN)) (by rw [hlen]; exact hk) (by rw [hlen]; exact HVO.out.2.1))
          rw [sumIx_yes s.vals s.votes 0 (isAt s.votes) hlen (fun i t h => by rw [Nat.zero_add]; exact isAt_some h)] at this
          exact this)
        have hyl := yesP_le s.vals s.votes
        have hal := allP_le s.vals (fun v hv => (HVO.out.2.2.1 v hv).2)
        have hvl := HVO.out.2.1
        have HLEN := hid hlen
        have HGA := hid hga
        by_cases h3 : 3 * yesP s.vals s.votes ≤ 2 * allP s.vals
        · have HC := hid (show checkN s = 10 by unfold checkN; rw [if_neg (by simp [ht]), if_neg (by simp [hlen]), if_neg (by simp [hga]), if_pos h3])
          rw [hga] at HAG
          clear ht t1 t2 hga HLEN
          generalize s.vals.length = nn at *
          generalize s.votes.length = n at *
          subst hlen
          clear e2
          generalize yesP s.vals s.votes = yy at *
          generalize allP s.vals = aa at *
          have hw3 : IntKind.u64.wrap (3 * (yy : Int)) = 3 * (yy : Int) := by simp [IntKind.wrap, IntKind.bits, IntKind.signed]; omega
          have hw2 : IntKind.u64.wrap (2 * (aa : Int)) = 2 * (aa : Int) := by simp [IntKind.wrap, IntKind.bits, IntKind.signed]; omega
          have e3 : decide (3 * (yy : Int) ≤ 2 * (aa : Int)) = true := by simp; omega
          go_enter Tryz.func19, Tryz.ntmps19
          go_wp2_with fail
          refine HTG.out.mono ?_
          rintro e w1 ⟨rfl, hb1⟩
          have HB1 := hid (HB0.out.trans (hb1.mono HB0.out.size))
          have HR1 := hid (HR0.out.below hb1 HR0.out.lt)
          have HQ1 := hid hb1
          obtain ⟨j0, j1, j2, j3, j4, j5, j6, j7⟩ := HR1.out.eight
          clear hb1
          generalize togetherN s.hd s.vals = tt at *
          go_wp2_with fail
          refine (HAG.out w1 HB1.out).mono ?_
          rintro e w2 ⟨rfl, hb2⟩
          have HB2 := hid (HB1.out.trans (hb2.mono HB1.out.size))
          have HQ2 := hid (HQ1.out.trans (hb2.mono HQ1.out.size))
          have i6 := (HR1.out.below hb2 HR1.out.lt).cell 6
          clear hb2
          go_wp2_with fail
          refine (HPW.out w2 HQ2.out).mono ?_
          rintro e w3 ⟨rfl, hb3⟩
          have HB3 := hid (HB2.out.trans (hb3.mono HB2.out.size))
          clear hb3
          go_wp2
          go_ret
          exact ⟨by rw [HC.out]; first | done | rfl, HB3.out⟩
        · have HC := hid (show checkN s = 0 by unfold checkN; rw [if_neg (by simp [ht]), if_neg (by simp [hlen]), if_neg (by simp [hga]), if_neg h3])
          rw [hga] at HAG
          clear ht t1 t2 hga HLEN
          generalize s.vals.length = nn at *
          generalize s.votes.length = n at *
          subst hlen
          clear e2
          generalize yesP s.vals s.votes = yy at *
          generalize allP s.vals = aa at *
          have hw3 : IntKind.u64.wrap (3 * (yy : Int)) = 3 * (yy : Int) := by simp [IntKind.wrap, IntKind.bits, IntKind.signed]; omega
          have hw2 : IntKind.u64.wrap (2 * (aa : Int)) = 2 * (aa : Int) := by simp [IntKind.wrap, IntKind.bits, IntKind.signed]; omega
          have e3 : decide (3 * (yy : Int) ≤ 2 * (aa : Int)) = false := by simp; omega
          go_enter Tryz.func19, Tryz.ntmps19
          go_wp2_with fail
          refine HTG.out.mono ?_
          rintro e w1 ⟨rfl, hb1⟩
          have HB1 := hid (HB0.out.trans (hb1.mono HB0.out.size))
          have HR1 := hid (HR0.out.below hb1 HR0.out.lt)
          have HQ1 := hid hb1
          obtain ⟨j0, j1, j2, j3, j4, j5, j6, j7⟩ := HR1.out.eight
          clear hb1
          generalize togetherN s.hd s.vals = tt at *
          go_wp2_with fail
          refine (HAG.out w1 HB1.out).mono ?_
          rintro e w2 ⟨rfl, hb2⟩
          have HB2 := hid (HB1.out.trans (hb2.mono HB1.out.size))
          have HQ2 := hid (HQ1.out.trans (hb2.mono HQ1.out.size))
          have i6 := (HR1.out.below hb2 HR1.out.lt).cell 6
          clear hb2
          go_wp2_with fail
          refine (HPW.out w2 HQ2.out).mono ?_
          rintro e w3 ⟨rfl, hb3⟩
          have HB3 := hid (HB2.out.trans (hb3.mono HB2.out.size))
          clear hb3
          go_wp2
          go_ret
          exact ⟨by rw [HC.out]; first | done | rfl, HB3.out⟩
      · have hga' : goodAll (bytesH s.hd) s.vals s.votes = false := by simpa using hga
        have HC := hid (show checkN s = 10 by unfold checkN; rw [if_neg (by simp [ht]), if_neg (by simp [hlen]), if_pos hga'])
        rw [hga'] at HAG
        clear ht t1 t2 hga hga'
        generalize s.vals.length = nn at *
        generalize s.votes.length = n at *
        subst hlen
        clear e2
        go_enter Tryz.func19, Tryz.ntmps19
        go_wp2_with fail
        refine HTG.out.mono ?_
        rintro e w1 ⟨rfl, hb1⟩
        have HB1 := hid (HB0.out.trans (hb1.mono HB0.out.size))
        have HR1 := hid (HR0.out.below hb1 HR0.out.lt)
        obtain ⟨j0, j1, j2, j3, j4, j5, j6, j7⟩ := HR1.out.eight
        clear hb1
        generalize togetherN s.hd s.vals = tt at *
        go_wp2_with fail
        refine (HAG.out w1 HB1.out).mono ?_
        rintro e w2 ⟨rfl, hb2⟩
        have HB2 := hid (HB1.out.trans (hb2.mono HB1.out.size))
        clear hb2
        go_wp2
        go_ret
        exact ⟨by rw [HC.out]; first | done | rfl, HB2.out⟩
    · have e2 : ((s.votes.length : Int) != (s.vals.length : Int)) = true := by simp; omega
      have HC := hid (show checkN s = 8 by unfold checkN; rw [if_neg (by simp [ht]), if_pos hlen])
      clear ht hlen t1 t2
      go_enter Tryz.func19, Tryz.ntmps19
      go_wp2_with fail
      refine HTG.out.mono ?_
      rintro e w1 ⟨rfl, hb1⟩
      have HB1 := hid (HB0.out.trans (hb1.mono HB0.out.size))
      have HR1 := hid (HR0.out.below hb1 HR0.out.lt)
      obtain ⟨j0, j1, j2, j3, j4, j5, j6, j7⟩ := HR1.out.eight
      clear hb1
      generalize togetherN s.hd s.vals = tt at *
      go_wp2
      go_ret
      exact ⟨by rw [HC.out]; first | done | rfl, HB1.out⟩
  · have e1 : (togetherN s.hd s.vals != 0) = true := by simp [ht]
    have HC := hid (show checkN s = togetherN s.hd s.vals by unfold checkN; rw [if_pos ht])
    clear ht
    go_enter Tryz.func19, Tryz.ntmps19
    go_wp2_with fail
    refine HTG.out.mono ?_
    rintro e w1 ⟨rfl, hb1⟩
    have HB1 := hid (HB0.out.trans (hb1.mono HB0.out.size))
    clear hb1
    generalize togetherN s.hd s.vals = tt at *
    go_wp2
    go_ret
    exact ⟨by rw [HC.out]; first | done | rfl, HB1.out⟩
end Go.Proofs.YtiflkkelbnpniaaGreatDoor
