/-
  What an argument's reading gives: a number of 64 bits; a seal.
-/
import Derived.Test.YtedjmhiocmefiaaDoorShaLaid
import Derived.RowKit
import Derived.ChangeShapes
import Derived.WideShapes
import Derived.Deep.FieldsWide
namespace Go.Proofs.YtedjmhiocmefiaaDoor
open Go.ChangeShapes Go.WideShapes Go.ChangeAt Go.RowKit

theorem u64_wf {n : Int} (h : (Lit.int .u64 n).wf = true) : ∃ k : Nat, n = (k : Int) ∧ k < 18446744073709551616 := by
  have hb : 0 ≤ n ∧ n ≤ 18446744073709551615 := by simpa [Lit.wf, IntKind.min, IntKind.max, IntKind.signed, IntKind.bits] using h
  exact ⟨n.toNat, by omega, by omega⟩
theorem u64_read {H : Type} {enc : TypeId × Value → H} {W : World} {base : Nat} {v : Value} {d : DataW H} {p : List MemPlace}
    (hval : Value.okWide Tryd.prog W .any base 33 v) (h : DataW.Trod enc Tryd.prog W 0 (fun _ => true) true 33 v d p) : ∃ n : Nat, v = .int .u64 (n : Int) ∧ n < 18446744073709551616 := by
  obtain ⟨n, rfl, _, _, hw⟩ := open_int Tryd.underlying33 hval h
  obtain ⟨k, rfl, hk⟩ := u64_wf hw
  exact ⟨k, rfl, hk⟩
theorem cellsSeal : Tryd.prog.cellsOf 35 = 2 := by kernel_rfl
theorem seal_read {H : Type} {enc : TypeId × Value → H} {W : World} {base : Nat} {v : Value} {d : DataW H} {p : List MemPlace}
    (hval : Value.okWide Tryd.prog W .any base 35 v) (h : DataW.Trod enc Tryd.prog W 0 (fun _ => true) true 35 v d p) :
    ∃ r s : Nat, v = .agg #[.int .u64 (r : Int), .int .u64 (s : Int)] ∧ r < 18446744073709551616 ∧ s < 18446744073709551616 := by
  obtain ⟨cs, rfl, hcs⟩ := okWide_struct Tryd.underlying35 hval
  rw [cellsSeal] at hcs
  obtain ⟨x, y, rfl⟩ : ∃ x y, cs = #[x, y] := by
    obtain ⟨l⟩ := cs
    match l, hcs with
    | [x, y], _ => exact ⟨x, y, rfl⟩
  obtain ⟨fuel, hf⟩ := h
  obtain ⟨y0, y1, n, _, _, t0, t1⟩ := trod_struct2 Tryd.underlying35 hf
  have h1 : Tryd.prog.cellsOf 33 = 1 := by kernel_rfl
  have e0 : (((Value.agg #[x, y]).cells.toList.drop 0).take (Tryd.prog.cellsOf 33)) = [x] := by rw [h1]; rfl
  have e1 : (((Value.agg #[x, y]).cells.toList.drop 1).take (Tryd.prog.cellsOf 33)) = [y] := by rw [h1]; rfl
  have t0' : DataW.trod enc Tryd.prog W 0 (fun _ => true) true n 33 [x] = some y0 := by rw [← e0]; exact t0
  have t1' : DataW.trod enc Tryd.prog W 0 (fun _ => true) true n 33 [y] = some y1 := by rw [← e1]; exact t1
  obtain ⟨a, ha, _, hwa⟩ := DataW.trod_int Tryd.underlying33 t0'
  obtain ⟨b, hb, _, hwb⟩ := DataW.trod_int Tryd.underlying33 t1'
  obtain ⟨r, rfl, hr⟩ := u64_wf hwa
  obtain ⟨s, rfl, hs⟩ := u64_wf hwb
  obtain rfl : x = .int .u64 (r : Int) := by simpa using ha
  obtain rfl : y = .int .u64 (s : Int) := by simpa using hb
  exact ⟨r, s, rfl, hr, hs⟩
end Go.Proofs.YtedjmhiocmefiaaDoor
