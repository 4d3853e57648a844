/-
  What an argument's reading gives, where it is a slice of slices of bytes: its lists; and how their lengths stand to the reading's bulk.
-/
import Derived.Test.YtfpngilmdgeikaaDoorShaLaid
import Derived.Test.YtfpngilmdgeikaaDoorShaPartsC
import Derived.Deep.Slices
namespace Go.Proofs.YtfpngilmdgeikaaDoor
open Go.ChangeShapes Go.WideShapes Go.ChangeAt Go.RowKit

theorem addr_add (b off i : Nat) : (⟨b, off, none⟩ : Addr).add i = ⟨b, off + i, none⟩ := by unfold Addr.add; split <;> simp_all
theorem bulk_pos {H : Type} (d : DataW H) : 1 ≤ Rows.uptoBulk d := by
  cases d with
  | lit l => cases l <;> simp [Rows.uptoBulk]
  | nil => simp [Rows.uptoBulk]
  | ptr d => simp [Rows.uptoBulk]
  | slice elems spare => simp [Rows.uptoBulk]
  | agg parts => simp [Rows.uptoBulk]
  | iface t d => simp [Rows.uptoBulk]
  | map entries => simp [Rows.uptoBulk]
  | held h => simp [Rows.uptoBulk]
theorem bulk_count {H : Type} (l : List (DataW H)) : l.length ≤ Rows.uptoBulkAll l := by
  induction l with
  | nil => simp
  | cons x r ih => have := bulk_pos x; simp only [Rows.uptoBulkAll, List.length_cons]; omega
theorem bulk_flat {H : Type} (f : Nat → List (BitVec 8)) (D : Nat → DataW H) : ∀ is : List Nat, (∀ i ∈ is, (f i).length ≤ Rows.uptoBulk (D i)) → (is.map f).flatten.length ≤ Rows.uptoBulkAll (is.map D)
  | [], _ => by simp
  | i :: is, h => by
    have h1 := h i (by simp)
    have h2 := bulk_flat f D is (fun j hj => h j (by simp [hj]))
    simp only [List.map_cons, List.flatten_cons, List.length_append, Rows.uptoBulkAll]
    omega

/-- a cell that reads as a slice of bytes -/
theorem bytes_cell {H : Type} {enc : TypeId × Value → H} {W : World} {fuel : Nat} {cs : List Value} {x : DataW H × List MemPlace}
    (hf : DataW.trod enc Tryd.prog W 0 (fun _ => true) true fuel 23 cs = some x) :
    ∃ v l, cs = [v] ∧ Bytes W W.heap.size v l ∧ l.length ≤ Rows.uptoBulk x.1 := by
  rcases open_ints Tryd.underlying23 Tryd.underlying5 (by kernel_rfl) hf with ⟨hcs, _⟩ | ⟨a, len, cap, zs, hcs, _, hl, hm, hz, hx, hcell, hwz⟩
  · exact ⟨_, [], hcs, .inl ⟨rfl, rfl⟩, by simp⟩
  · have hz' : zs.length = cap := by simpa using hz
    refine ⟨_, (zs.take len).map (BitVec.ofInt 8), hcs, ?_, ?_⟩
    · by_cases h0 : len = 0
      · subst h0
        exact .inr (.inl ⟨a, cap, rfl, by simp⟩)
      · obtain ⟨b, off, spot⟩ := a
        have hc := hcell 0 (by omega)
        have hspot : spot = none := by simpa [Addr.add] using World.cell?_spot hc
        subst hspot
        have hlen : ((zs.take len).map (BitVec.ofInt 8)).length = len := by simp; omega
        refine .inr (.inr ⟨b, off, cap, by rw [hlen], by rw [hlen]; exact hl, fun i hi => ?_⟩)
        rw [hlen] at hi
        have hci := hcell i (by omega)
        have hadd := addr_add b off i
        rw [hadd] at hci
        refine ⟨block_lt_of_cell hci, ?_⟩
        rw [hci]
        have hzi : i < zs.length := by omega
        have hw := hwz (zs.getD i 0) (by simp [hzi])
        have hbd : 0 ≤ zs.getD i 0 ∧ zs.getD i 0 ≤ 255 := by simpa [Lit.wf, IntKind.min, IntKind.max, IntKind.signed, IntKind.bits] using hw
        have e : ((zs.take len).map (BitVec.ofInt 8)).getD i 0 = BitVec.ofInt 8 (zs.getD i 0) := by
          simp [hi, hzi]
        rw [e]
        unfold b8
        rw [BitVec.toNat_ofInt]
        congr 2
        omega
    · rw [hx]
      simp only [Rows.uptoBulk]
      have := bulk_count (H := H) (lits .u8 (zs.take len))
      simp [lits] at this ⊢
      omega
/-- an argument that reads as a slice of slices of bytes -/
theorem lists_read {H : Type} {enc : TypeId × Value → H} {W : World} {fuel : Nat} {v : Value} {x : DataW H × List MemPlace}
    (hf : DataW.trod enc Tryd.prog W 0 (fun _ => true) true fuel 26 [v] = some x) :
    ∃ ls, Lists W W.heap.size v ls ∧ ls.flatten.length ≤ Rows.uptoBulk x.1 ∧ ls.length ≤ Rows.uptoBulk x.1 := by
  rcases Deep.open_slice Tryd.underlying26 hf with ⟨hcs, _⟩ | ⟨a, len, cap, m, n, D, Pl, hcs, _, hl, hm, hmm, hx, hel⟩
  · obtain rfl : v = .slice none 0 0 := by simpa using hcs
    exact ⟨[], .inl ⟨rfl, rfl⟩, by simp, by simp⟩
  · obtain rfl : v = .slice (some a) len cap := by simpa using hcs
    have hm' : m = cap := by simpa using hmm
    subst hm'
    have hc1 : Tryd.prog.cellsOf 23 = 1 := by kernel_rfl
    have each : ∀ i, i < len → ∃ p : Value × List (BitVec 8), W.cell? (a.add i) = some p.1 ∧ Bytes W W.heap.size p.1 p.2 ∧ p.2.length ≤ Rows.uptoBulk (D i) := fun i hi => by
      obtain ⟨cs', h1, h2⟩ := hel i (by omega)
      obtain ⟨y, l, rfl, hb, hle⟩ := bytes_cell h2
      rw [hc1, Nat.mul_one] at h1
      exact ⟨(y, l), cell_of_cells?_one h1, hb, hle⟩
    obtain ⟨f, hfs⟩ := Deep.choose_lt each
    refine ⟨(List.range len).map fun i => (f i).2, ?_, ?_, ?_⟩
    · by_cases h0 : len = 0
      · subst h0
        exact .inr (.inl ⟨a, m, rfl, rfl⟩)
      · obtain ⟨b, off, spot⟩ := a
        have hc := (hfs 0 (by omega)).1
        have hspot : spot = none := by simpa [Addr.add] using World.cell?_spot hc
        subst hspot
        refine .inr (.inr ⟨b, off, m, by simp, by simpa using hl, fun i hi => ?_⟩)
        have hi' : i < len := by simpa using hi
        obtain ⟨h1, h2, _⟩ := hfs i hi'
        have hadd := addr_add b off i
        rw [hadd] at h1
        refine ⟨block_lt_of_cell h1, (f i).1, h1, ?_⟩
        have e : ((List.range len).map fun i => (f i).2).getD i [] = (f i).2 := by
          rw [List.getD_eq_getElem?_getD, List.getElem?_map, List.getElem?_range hi']; rfl
        rw [e]; exact h2
    · rw [hx]
      simp only [Rows.uptoBulk]
      have := bulk_flat (fun i => (f i).2) D (List.range len) (fun i hi => (hfs i (List.mem_range.1 hi)).2.2)
      omega
    · rw [hx]
      simp only [Rows.uptoBulk]
      have := bulk_count ((List.range len).map D)
      simp at this ⊢
      omega
end Go.Proofs.YtfpngilmdgeikaaDoor
