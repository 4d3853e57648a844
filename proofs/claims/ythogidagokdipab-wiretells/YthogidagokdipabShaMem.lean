/-
  Rows of words and bytes in memory, as lists. No function of the program is named here.
-/
import Derived.Test.YthogidagokdipabShaMath
import Derived.WalkKit
import Derived.Deep.QuietTactic
import Derived.StillTailTactics
namespace Go.Proofs.Ythogidagokdipab
open Go.RowKit

theorem getD_some {α : Type} (l : List α) (i : Nat) (d : α) (h : i < l.length) : l[i]? = some (l.getD i d) := by simp [h]
theorem hid {p : Prop} (h : p) : Hid p := h
/-- a region that draws its order and only reads, walked once, in the text's order -/
theorem region_still {P : Program} {id : Nat} {Q : Exit → Act → World → Prop} {a : Act} {w : World} {l : List Oper} (hm : P.follows .mixedOrders = true) (hB : Region.lexB .any l.toArray = true)
    (h : wpStill P l.toArray w.drew (fun a' => Q .normal a' w.drew) l a) : (Code.region id l.toArray true).wp P Q a w := wp_region_still_lit hm hB h
/-- the same, but for what comes last by force -/
theorem region_tail {P : Program} {id : Nat} {Q : Exit → Act → World → Prop} {a : Act} {w : World} {l : List Oper} (n : Nat) (hm : P.follows .mixedOrders = true) (hB : Region.lexTailB .any l.toArray n = true)
    (h : wpStill P l.toArray w.drew (fun a' => wpList P l.toArray Q (l.drop n) a' w.drew) (l.take n) a) : (Code.region id l.toArray true).wp P Q a w := wp_region_still_tail n hm hB h
theorem grown_below {w w' : World} {r : Option Nat} (h : Below w.heap.size w w') : w.grownBy w' r := ⟨h.os, h.tape, h.output, h.size, fun k hk _ => h.block k hk⟩
theorem grown_trans {w w1 w2 : World} {r : Option Nat} (h : w.grownBy w1 r) (k : w1.grownBy w2 r) : w.grownBy w2 r :=
  ⟨k.os.trans h.os, k.tape.trans h.tape, k.output.trans h.output, Nat.le_trans h.size k.size, fun i hi hr => (k.block i (Nat.lt_of_lt_of_le hi h.size) hr).trans (h.block i hi hr)⟩

theorem grown_set (w : World) (g i : Nat) (v : Value) : w.grownBy (w.setCell ⟨g, i, none⟩ v) (some g) :=
  ⟨rfl, rfl, rfl, by simp [World.setCell], fun j _ hne => heap_setCell_other _ _ _ _ (fun e => hne (by rw [e]))⟩
theorem grown_refl (w : World) (r : Option Nat) : w.grownBy w r := ⟨rfl, rfl, rfl, Nat.le_refl _, fun _ _ _ => rfl⟩
theorem grown_drew {w w' : World} {r : Option Nat} (h : w.grownBy w' r) : w.grownBy w'.drew r := ⟨h.os, h.tape, h.output, h.size, h.block⟩

theorem cells_new (w : World) (l : List Value) (t : TypeId) : ∀ (j : Nat) (x : Value), l[j]? = some x → (w.alloc (.cells l.toArray t)).cell? ((⟨w.heap.size, 0, none⟩ : Addr).add j) = some x := by
  intro j x h
  have hadd : (⟨w.heap.size, 0, none⟩ : Addr).add j = ⟨w.heap.size, j, none⟩ := by unfold Addr.add; split <;> simp_all
  rw [hadd, cell_of_row _ _ _ _ _ _ (heap_alloc_new w _)]
  simpa using h

/-- a word's cell -/
def U (x : BitVec 32) : Value := .int .u32 (u x)
/-- a byte's cell -/
def V (x : BitVec 8) : Value := .int .u8 (b8 x)
/-- n cells, of which the first hold l's words -/
def rowU (n : Nat) (l : List (BitVec 32)) : List Value := l.map U ++ List.replicate (n - l.length) (.int .u32 0)
theorem rowU_length (n : Nat) (l : List (BitVec 32)) (h : l.length ≤ n) : (rowU n l).length = n := by
  simp [rowU]; omega
theorem rowU_get (n : Nat) (l : List (BitVec 32)) (i : Nat) (h : i < l.length) : (rowU n l)[i]? = some (.int .u32 (u (l.getD i 0))) := by
  unfold rowU
  rw [List.getElem?_append_left (by simpa using h)]
  simp [h, U]
theorem rowU_some (n : Nat) (l : List (BitVec 32)) (i : Nat) (hl : l.length ≤ n) (h : i < n) : ∃ v, (rowU n l)[i]? = some v := by
  have := rowU_length n l hl
  exact ⟨_, List.getElem?_eq_getElem (by omega)⟩
theorem rowU_set (n : Nat) (l : List (BitVec 32)) (x : BitVec 32) (h : l.length < n) : (rowU n l).set l.length (U x) = rowU n (l ++ [x]) := by
  unfold rowU
  rw [List.set_append_right _ _ (by simp)]
  have e : n - l.length = (n - (l ++ [x]).length) + 1 := by simp; omega
  rw [e]
  simp [List.replicate_succ]
theorem rowU_full (l : List (BitVec 32)) : rowU l.length l = l.map U := by simp [rowU]

/-- block g is a row of these cells, not frozen -/
def Row (w : World) (g : Nat) (t : TypeId) (cs : List Value) : Prop := w.heap[g]? = some (.cells cs.toArray t (0, 0))
theorem Row.cell {w : World} {g : Nat} {t : TypeId} {cs : List Value} (h : Row w g t cs) (i : Nat) : w.cell? ⟨g, i, none⟩ = cs[i]? := by
  rw [cell_of_row w g i _ t _ h]; simp
theorem Row.frozen {w : World} {g : Nat} {t : TypeId} {cs : List Value} (h : Row w g t cs) (i : Nat) : w.frozen? ⟨g, i, none⟩ = false :=
  frozen_of_row w g i _ t h
theorem Row.lt {w : World} {g : Nat} {t : TypeId} {cs : List Value} (h : Row w g t cs) : g < w.heap.size :=
  (Array.getElem?_eq_some_iff.1 h).1
theorem Row.set {w : World} {g : Nat} {t : TypeId} {cs : List Value} (h : Row w g t cs) (i : Nat) (v : Value) : Row (w.setCell ⟨g, i, none⟩ v) g t (cs.set i v) := by
  unfold Row
  rw [heap_setCell_same w g i _ t v h]; simp
theorem Row.other {w : World} {g : Nat} {t : TypeId} {cs : List Value} (h : Row w g t cs) {a : Addr} (v : Value) (hne : g ≠ a.block) : Row (w.setCell a v) g t cs := by
  unfold Row; rw [heap_setCell_other _ _ _ _ hne]; exact h
theorem Row.drewN {w : World} {g : Nat} {t : TypeId} {cs : List Value} (h : Row w g t cs) (n : Nat) : Row (w.drewN n) g t cs := h
theorem Row.drew {w : World} {g : Nat} {t : TypeId} {cs : List Value} (h : Row w g t cs) : Row w.drew g t cs := h
theorem Row.grown {w w' : World} {g : Nat} {t : TypeId} {cs : List Value} (h : Row w g t cs) {r : Option Nat} (hg : w.grownBy w' r) (hne : some g ≠ r) : Row w' g t cs := by
  unfold Row; rw [hg.block g h.lt hne]; exact h
theorem Row.below {w w' : World} {g B : Nat} {t : TypeId} {cs : List Value} (h : Row w g t cs) (hg : Below B w w') (hB : g < B) : Row w' g t cs := by
  unfold Row; rw [hg.block g hB]; exact h
theorem Row.alloc {w : World} {g : Nat} {t : TypeId} {cs : List Value} (h : Row w g t cs) (o : Obj) : Row (w.alloc o) g t cs := by
  unfold Row; exact (Below.heap_alloc w o g h.lt).trans h
theorem Row.new (w : World) (t : TypeId) (cs : List Value) : Row (w.alloc (.cells cs.toArray t)) w.heap.size t cs := heap_alloc_new _ _
theorem Row.newAt (w : World) (t : TypeId) (cs : List Value) (g : Nat) (h : g = w.heap.size) : Row (w.alloc (.cells cs.toArray t)) g t cs := by subst h; exact heap_alloc_new _ _
end Go.Proofs.Ythogidagokdipab
