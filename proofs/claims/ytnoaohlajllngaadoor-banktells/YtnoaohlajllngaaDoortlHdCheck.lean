/-
  What the makers of pieces answer, the landed ones and the document's: a piece of a number, a piece of bytes. What the document's Bytes of pieces answers.
  What Bytes does: a header's bytes, in new memory, in whatever order its steps come.
  What Digest answers, the landed one and the document's: the digest of validators' bytes, in new memory.
  What wrongTogether answers: what keeps a header from being one of these validators.
  What allGood answers: whether each vote that is one is good, of the header's bytes, by its validator's key.
  What Check answers: what keeps a signed header from being one that its validators voted for.
-/
import Derived.Test.YtnoaohlajllngaaDoortlHdMems
import Derived.Test.YtnoaohlajllngaaDoortlWireBoth
import Derived.Test.YtnoaohlajllngaaDoortlRegions
import Derived.Test.YtnoaohlajllngaaDoortlRef1All
import Derived.Test.YtnoaohlajllngaaDoortlSameB
import Derived.Test.YtnoaohlajllngaaDoortlSealGood
import Derived.Lib.ConvBytes
import Derived.Laws.IdiomStrings
import Derived.Laws.MakeOwn
namespace Go.Proofs.YtnoaohlajllngaaDoor
open Go.RowKit

/-- a maker of bytes' piece -/
def TextC (f : FuncId) : Prop := ∀ (o : Option Addr) (n c : Nat) (w : World), Calls Tryd.prog f #[.slice o n c] w fun e w' => e = .returned (.agg #[.int .i64 2, .int .u64 0, .slice o n c]) ∧ Below w.heap.size w w'
theorem refB : TextC 44 := by
  intro o n c w
  obtain ⟨w0, hw0⟩ : ∃ w0, w.alloc (.cells #[.int .i64 0, .int .u64 0, .slice none 0 0] 54) = w0 := ⟨_, rfl⟩
  have HB0 := hid (show Below w.heap.size w w0 by rw [← hw0]; exact (Below.refl _ _).alloc (Nat.le_refl _) _)
  have HR0 := hid (show Row w0 w.heap.size 54 [.int .i64 0, .int .u64 0, .slice none 0 0] by rw [← hw0]; exact Row.new _ _ _)
  obtain ⟨c0, c1, c2, z0, z1, z2⟩ := HR0.out.three
  go_enter Tryd.func44, Tryd.ntmps44
  go_wp2
  obtain ⟨d0, d1, d2⟩ := HR0.out.set3 (.int .i64 2) (.int .u64 0) (.slice o n c)
  exact bodyPost_ret (v := .agg #[.int .i64 2, .int .u64 0, .slice o n c]) (by simp [results, Tryd.results44, go_sem, d0, d1, d2]) rfl ⟨rfl, below_set3 HB0.out (Nat.le_refl _) _ _ _⟩
/-- the document's Bytes of pieces: what Write makes of them, where it makes something -/
theorem refPieces_any (l : List Pc) (x : List (BitVec 8)) (sv : Value) (N : Nat) (w : World) (hb : Pieces w N sv l) (hN : N ≤ w.heap.size) (hlen : l.length < 2305843009213693952) (hfit : ∀ p ∈ l, p.fits) (hx : wrAll l = .ok x) :
    Calls Tryd.prog 43 #[sv] w fun e w' => ∃ v, e = .returned v ∧ Bytes w' w'.heap.size v x ∧ Below w.heap.size w w' := by
  have HC := hid (refWrite_any l sv N w hb hN hlen hfit)
  have HX := hid hx
  obtain ⟨oa, ca, rfl, hca⟩ := hb.shape
  clear hb hfit hx hlen hca
  generalize l.length = n at *
  go_enter Tryd.func43, Tryd.ntmps43
  go_wp2_with fail
  refine HC.out.mono ?_
  rintro e w1 ⟨hb1, h1⟩
  have h2 : ∃ v, e = .returned (.tuple #[v, okV]) ∧ OwnB w1 w.heap.size v x := by
    rcases h1 with ⟨x', v, hx', he, ho⟩ | ⟨c, i, hx', _⟩
    · rw [HX.out] at hx'
      cases hx'
      exact ⟨v, he, ho⟩
    · rw [HX.out] at hx'
      cases hx'
  obtain ⟨v, rfl, ho⟩ := h2
  obtain ⟨ov, cv, rfl, hcv⟩ := ho.shape
  have HO := hid ho
  have HB1 := hid hb1
  clear h1 ho hb1 HC
  unfold okV
  obtain ⟨w2, hw2⟩ : ∃ w2, w1.alloc (.cells #[.int .i64 0, .int .i64 0] 57) = w2 := ⟨_, rfl⟩
  have HB2 := hid (show Below w1.heap.size w1 w2 by rw [← hw2]; exact (Below.refl _ _).alloc (Nat.le_refl _) _)
  have HR2 := hid (show Row w2 w1.heap.size 57 [.int .i64 0, .int .i64 0] by rw [← hw2]; exact Row.new _ _ _)
  have HO2 := hid HO.out.bytes
  obtain ⟨c0, c1, z0, z1⟩ := HR2.out.two
  have HSZ := hid HB1.out.size
  clear HO
  generalize hm : x.length = m at *
  have HM := hid hm
  clear hm
  go_wp2
  go_ret
  have hbz := below_set2 HB2.out (Nat.le_refl _) (.int .i64 0) (.int .i64 0)
  exact ⟨_, rfl, (HO2.out.below hbz).mono hbz.size, HB1.out.trans (hbz.mono HSZ.out)⟩
end Go.Proofs.YtnoaohlajllngaaDoor
namespace Go.Proofs.YtnoaohlajllngaaDoor
open Go.RowKit

theorem pieces_new (w : World) (t : TypeId) (ps : List (Pc × Value)) (h : ∀ q ∈ ps, Bytes w w.heap.size q.2 q.1.b) :
    Pieces (w.alloc (.cells (ps.flatMap pcCells).toArray t)) (w.alloc (.cells (ps.flatMap pcCells).toArray t)).heap.size (.slice (some ⟨w.heap.size, 0, none⟩) ps.length ps.length) (ps.map (·.1)) := by
  have hb : Below w.heap.size w (w.alloc (.cells (ps.flatMap pcCells).toArray t)) := (Below.refl _ _).alloc (Nat.le_refl _) _
  have hr : Row (w.alloc (.cells (ps.flatMap pcCells).toArray t)) w.heap.size t (ps.flatMap pcCells) := Row.new _ _ _
  refine .inr (.inr ⟨w.heap.size, 0, ps.length, by simp, by simp, fun i p hp => ?_⟩)
  obtain ⟨q, hq, rfl⟩ : ∃ q, ps[i]? = some q ∧ q.1 = p := by simpa using hp
  refine ⟨hr.lt, q.2, ?_⟩
  have cell : ∀ j, j < 3 → (w.alloc (.cells (ps.flatMap pcCells).toArray t)).cell? ⟨w.heap.size, 0 + i * 3 + j, none⟩ = (pcCells q)[j]? := fun j hj => by
    rw [hr.cell, Nat.zero_add, flat_get ps i j q hq hj]
  exact ⟨cell 0 (by omega), cell 1 (by omega), cell 2 (by omega), ((h q (List.mem_of_getElem? hq)).below hb).mono hb.size⟩
theorem conv_text (w : World) (x : ByteArray) : (convert 9 26 (.string x)).run Tryd.prog w = .ok (.slice (some ⟨w.heap.size, 0, none⟩) x.size (grownCap w x.size 0 5)) (Lib.bytesWorld w 5 x) :=
  Lib.run_convert_string_bytes w 9 26 5 x Tryd.underlying9 Tryd.underlying26 Tryd.underlying5
theorem text_bytes (w : World) (s : ByteArray) : Bytes (Lib.bytesWorld w 5 s) (Lib.bytesWorld w 5 s).heap.size (.slice (some ⟨w.heap.size, 0, none⟩) s.size (grownCap w s.size 0 5)) (lets s) := by
  have hsz := Lib.bytesWorld_size w 5 s
  refine .inr (.inr ⟨w.heap.size, 0, _, by rw [lets_length], by rw [lets_length]; exact grownCap_ge _ _ _ _, fun i hi => ⟨by omega, ?_⟩⟩)
  rw [lets_length] at hi
  rw [Nat.zero_add, Lib.bytesWorld_cell _ _ _ _ hi]
  congr 2
  unfold b8 lets
  simp
theorem text_below (w : World) (s : ByteArray) : Below w.heap.size w (Lib.bytesWorld w 5 s) :=
  ⟨rfl, rfl, rfl, by rw [Lib.bytesWorld_size]; omega, fun j hj => Lib.bytesWorld_at_old _ _ _ _ hj⟩
end Go.Proofs.YtnoaohlajllngaaDoor
namespace Go.Proofs.YtnoaohlajllngaaDoor
open Go.RowKit

end Go.Proofs.YtnoaohlajllngaaDoor
namespace Go.Proofs.YtnoaohlajllngaaDoor
open Go.RowKit


end Go.Proofs.YtnoaohlajllngaaDoor
namespace Go.Proofs.YtnoaohlajllngaaDoor
open Go.RowKit

end Go.Proofs.YtnoaohlajllngaaDoor
namespace Go.Proofs.YtnoaohlajllngaaDoor
open Go.RowKit

end Go.Proofs.YtnoaohlajllngaaDoor
