/-
  What package proof's functions are to answer, as the statements' walks ask it.
-/
import Derived.Test.YtjfhhlgblmjonaaDoorProofMem
import Derived.Test.YtjfhhlgblmjonaaDoorBookMath
import Derived.Test.YtjfhhlgblmjonaaDoorBookFace
namespace Go.Proofs.YtjfhhlgblmjonaaDoor
open Go.RowKit

/-- what Show is to answer -/
def showB (l : List Pr) (k : List (BitVec 8)) (c : Int) (p : Prf) : Prop :=
  ((wrongL l).1 ≠ 0 ∧ c = (wrongL l).1 ∧ p = Prf.none) ∨ ((wrongL l).1 = 0 ∧ ∃ i, (At k l i false ∧ c = 6 ∧ p = Prf.none) ∨ (At k l i true ∧ c = 0 ∧ ∃ q, l[i]? = some q ∧ p = proofAt l i q))
/-- what ShowGap is to answer -/
def gapB (l : List Pr) (k : List (BitVec 8)) (c : Int) (g : Gp) : Prop :=
  ((wrongL l).1 ≠ 0 ∧ c = (wrongL l).1 ∧ g = Gp.none) ∨ ((wrongL l).1 = 0 ∧ ∃ i, (At k l i true ∧ c = 7 ∧ g = Gp.none) ∨ (At k l i false ∧ c = 0 ∧ g = gapAt l i))
def ShowC (f : FuncId) : Prop := ∀ (l : List Pr) (k : List (BitVec 8)) (sv kv : Value) (N : Nat) (w : World), tableAt w → N ≤ w.heap.size → Pairs w N sv l → Bytes w N kv k → l.length < 2305843009213693952 → (∀ p ∈ l, p.fits) → k.length ≤ 140737488351232 →
  Calls Tryd.prog f #[sv, kv] w fun e w' => Below w.heap.size w w' ∧ ∃ kv' vv' pv' c p, e = .returned (.tuple #[.agg #[.int .i64 p.index, .int .i64 p.size, kv', vv', pv'], .int .i64 c]) ∧ Bytes w' w'.heap.size kv' p.key ∧ Bytes w' w'.heap.size vv' p.val ∧ Lists w' w'.heap.size pv' p.path ∧ showB l k c p
def ShowGapC (f : FuncId) : Prop := ∀ (l : List Pr) (k : List (BitVec 8)) (sv kv : Value) (N : Nat) (w : World), tableAt w → N ≤ w.heap.size → Pairs w N sv l → Bytes w N kv k → l.length < 2305843009213693952 → (∀ p ∈ l, p.fits) → k.length ≤ 140737488351232 →
  Calls Tryd.prog f #[sv, kv] w fun e w' => Below w.heap.size w w' ∧ ∃ v c g, e = .returned (.tuple #[v, .int .i64 c]) ∧ GpV w' w'.heap.size v g ∧ gapB l k c g
def ShownC (f : FuncId) : Prop := ∀ (r : List (BitVec 8)) (p : Prf) (rv v : Value) (N : Nat) (w : World), tableAt w → N ≤ w.heap.size → Bytes w N rv r → PrfV w N v p → p.fits → r.length ≤ 140737488351232 →
  Calls Tryd.prog f #[rv, v] w fun e w' => Below w.heap.size w w' ∧ Tells (shownB r p) e
def AbsentC (f : FuncId) : Prop := ∀ (r k : List (BitVec 8)) (g : Gp) (rv kv v : Value) (N : Nat) (w : World), tableAt w → N ≤ w.heap.size → Bytes w N rv r → Bytes w N kv k → GpV w N v g → g.fits → r.length ≤ 140737488351232 → k.length ≤ 140737488351232 →
  Calls Tryd.prog f #[rv, kv, v] w fun e w' => Below w.heap.size w w' ∧ Tells (absentB r k g) e
/-- what Clash is to answer: two lists of bytes, unlike, with the same digest, just if a proof that is shown says what is not so -/
def clashB (l : List Pr) (p : Prf) (a b : List (BitVec 8)) (ok : Bool) : Prop :=
  (ok = true → a ≠ b ∧ sha a = sha b ∧ a.length ≤ 1000000 ∧ b.length ≤ 1000000) ∧ (ok = true ↔ (wrongL l).1 = 0 ∧ shownB (rootD l) p ∧ ¬ soB l p)
def ClashC (f : FuncId) : Prop := ∀ (l : List Pr) (p : Prf) (sv v : Value) (N : Nat) (w : World), tableAt w → N ≤ w.heap.size → Pairs w N sv l → PrfV w N v p → l.length < 2305843009213693952 → (∀ p ∈ l, p.fits) → p.fits →
  Calls Tryd.prog f #[sv, v] w fun e w' => Below w.heap.size w w' ∧ ∃ o1 n1 c1 o2 n2 c2 ok a b, e = .returned (.tuple #[.slice o1 n1 c1, .slice o2 n2 c2, .bool ok]) ∧ Bytes w' w'.heap.size (.slice o1 n1 c1) a ∧ Bytes w' w'.heap.size (.slice o2 n2 c2) b ∧ clashB l p a b ok
theorem proofAt_fits (l : List Pr) (i : Nat) (q : Pr) (hq : l[i]? = some q) (hf : Fits l) (hn : l.length ≤ 200) : (proofAt l i q).fits := by
  have hs := shown_at l i q hq hf hn
  obtain ⟨_, _, _, _, h1, h2, h3, h4, _⟩ := hs
  have hi : i < l.length := (List.getElem?_eq_some_iff.1 hq).1
  refine ⟨by omega, by omega, ?_, fun d hd => by have := h4 d hd; omega⟩
  rw [h3]
  have hw : (wayL (proofAt l i q).index.toNat (proofAt l i q).size.toNat 0).length ≤ 8 := wayL_short 8 _ _ _ (by simp [proofAt]; omega)
  omega
theorem prf_none_fits : Prf.none.fits := ⟨by simp [Prf.none], by simp [Prf.none], by simp [Prf.none], by simp [Prf.none]⟩
def AliveC (f : FuncId) : Prop := ∀ w, tableAt w → Calls Tryd.prog f #[] w fun e w' => e = .returned (.bool true) ∧ Below w.heap.size w w'
theorem drewN_belowC (w : World) (n N : Nat) : Below N w (w.drewN n) := ⟨rfl, rfl, rfl, Nat.le_refl _, fun _ _ => rfl⟩
theorem rout_root (l : List Pr) (h : (wrongL l).1 = 0) : rout l = rootD l := by
  unfold rout rootD
  rw [if_pos h]
theorem rootD_len (l : List Pr) : (rootD l).length = 32 := by
  unfold rootD topD
  exact sha_length _
end Go.Proofs.YtjfhhlgblmjonaaDoor
