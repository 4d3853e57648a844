/-
  What an argument's reading gives, where it is a slice of bytes: its letters.
-/
import Derived.Test.YtfpngilmdgeikaaDoorRows
import Derived.Test.YtfpngilmdgeikaaDoorMemB
import Derived.ProofKit
import Derived.OpenShut
import Derived.ShutString
import Derived.ChangeOld
import Derived.Below
import Derived.SizedLaws
import Derived.Deep.DeepHandedRow
namespace Go.Proofs.YtfpngilmdgeikaaDoor
open Go.ChangeShapes Go.WideShapes Go.ChangeAt Go.RowKit

set_option maxRecDepth 100000 in
/-- an argument that is a slice of bytes: its letters -/
theorem bytes_read_len {H : Type} {enc : TypeId × Value → H} {W : World} {fuel : Nat} {a0 : Option Addr} {len0 cap0 : Nat} {x : DataW H × List MemPlace}
    (hf : DataW.trod enc Tryd.prog W 0 (fun _ => true) true fuel 23 (Value.slice a0 len0 cap0).cells.toList = some x)
    (hsz : ∀ elems spare, x.1 = .slice elems spare → (elems.length + spare.length) * Tryd.prog.bytesOf 5 ≤ reachBytes) :
    ∃ l, Bytes W W.heap.size (.slice a0 len0 cap0) l ∧ l.length ≤ 140737488351232 := by
  rcases open_ints Tryd.underlying23 Tryd.underlying5 (by kernel_rfl) hf with ⟨hcs, _⟩ | ⟨a, len, cap, zs, hcs, _, hl, hm, hz, hx, hcell, hwz⟩
  · simp [Value.cells] at hcs
    obtain ⟨rfl, rfl, rfl⟩ := hcs
    exact ⟨[], .inl ⟨rfl, rfl⟩, by simp⟩
  · simp [Value.cells] at hcs
    obtain ⟨rfl, rfl, rfl⟩ := hcs
    have hz' : zs.length = cap0 := by simpa using hz
    have hb : Tryd.prog.bytesOf 5 = 1 := by kernel_rfl
    have hr := hsz _ _ (by rw [hx])
    rw [hb, Nat.mul_one] at hr
    simp [lits, reachBytes] at hr
    refine ⟨(zs.take len0).map (BitVec.ofInt 8), ?_, by simp; omega⟩
    by_cases h0 : len0 = 0
    · subst h0
      exact .inr (.inl ⟨a, cap0, rfl, by simp⟩)
    · obtain ⟨b, off, spot⟩ := a
      have hc := hcell 0 (by omega)
      have hspot : spot = none := by simpa [Addr.add] using World.cell?_spot hc
      subst hspot
      have hlen : ((zs.take len0).map (BitVec.ofInt 8)).length = len0 := by simp; omega
      refine .inr (.inr ⟨b, off, cap0, by rw [hlen], by rw [hlen]; exact hl, fun i hi => ?_⟩)
      rw [hlen] at hi
      have hci := hcell i (by omega)
      have hadd : (⟨b, off, none⟩ : Addr).add i = ⟨b, off + i, none⟩ := by unfold Addr.add; split <;> simp_all
      rw [hadd] at hci
      refine ⟨block_lt_of_cell hci, ?_⟩
      rw [hci]
      have hzi : i < zs.length := by omega
      have hw := hwz (zs.getD i 0) (by simp [hzi])
      have hbd : 0 ≤ zs.getD i 0 ∧ zs.getD i 0 ≤ 255 := by simpa [Lit.wf, IntKind.min, IntKind.max, IntKind.signed, IntKind.bits] using hw
      have e : ((zs.take len0).map (BitVec.ofInt 8)).getD i 0 = BitVec.ofInt 8 (zs.getD i 0) := by
        simp [hi, hzi]
      rw [e]
      unfold b8
      rw [BitVec.toNat_ofInt]
      congr 2
      omega
theorem bytes_read {H : Type} {enc : TypeId × Value → H} {W : World} {fuel : Nat} {a0 : Option Addr} {len0 cap0 : Nat} {x : DataW H × List MemPlace}
    (hf : DataW.trod enc Tryd.prog W 0 (fun _ => true) true fuel 23 (Value.slice a0 len0 cap0).cells.toList = some x)
    (hsz : ∀ elems spare, x.1 = .slice elems spare → (elems.length + spare.length) * Tryd.prog.bytesOf 5 ≤ reachBytes) :
    ∃ l, Bytes W W.heap.size (.slice a0 len0 cap0) l ∧ l.length < 2305843009213693952 := by
  obtain ⟨l, h1, h2⟩ := bytes_read_len hf hsz
  exact ⟨l, h1, by omega⟩
end Go.Proofs.YtfpngilmdgeikaaDoor
