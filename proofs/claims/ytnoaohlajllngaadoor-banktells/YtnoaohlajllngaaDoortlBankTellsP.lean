/-
  BankTells returns true of all purses, of every words, numbers and transfers and of all bytes, the listed package variables (uint64pow10 of internal/strconv, deBruijn32tab and deBruijn64tab of math/bits) holding what the program text lays, and each argument reads behind the call as it did; no condition besides.
-/
import Derived.Test.YtnoaohlajllngaaDoortlStOpen
import Derived.Test.YtnoaohlajllngaaDoortlBkTr
import Derived.Test.YtnoaohlajllngaaDoorRows
import Derived.Test.YtnoaohlajllngaaDoortlStApp
import Derived.Test.YtnoaohlajllngaaDoortlMemB
import Derived.Test.YtnoaohlajllngaaDoorCards
import Derived.Test.YtnoaohlajllngaaDoorTie
import Derived.Test.YtnoaohlajllngaaDoortlBkTellsW
import Derived.ChangeMaps5
import Derived.ProofKit
import Derived.OpenShut
import Derived.ShutString
import Derived.ChangeOld
import Derived.Below
import Derived.SizedLaws
import Derived.Deep.DeepHandedRow
import Derived.Lib.LaidTab
namespace Go.Proofs.YtnoaohlajllngaaDoor
open Go.ChangeShapes Go.WideShapes Go.ChangeAt Go.RowKit

theorem gPow : Tryd.prog.globalNamed "internal/strconv.uint64pow10" = some 1 := by kernel_rfl
theorem gPowType : (Tryd.prog.globals[1]?).map (·.type) = some 131 := by kernel_rfl
theorem cellsPow : Tryd.prog.cellsOf 131 = 20 := by kernel_rfl
theorem cellsU64 : Tryd.prog.cellsOf 23 = 1 := by kernel_rfl
theorem pow_data : (Rows.laid_internal_strconv_uint64pow10 : DataW Unit) = Lib.tabData .u64 Lib.pow10Tab := by kernel_rfl
theorem pow_laid {W : World} {a b : String × DataW Unit} (h : laidMet Tryd.prog [a, b, ("internal/strconv.uint64pow10", Rows.laid_internal_strconv_uint64pow10)] W) : powAt W := by
  rw [pow_data] at h
  obtain ⟨_, ⟨_, _, _, _, _, _, _, _, _, _, ⟨_, _, _, _, _, _, _, _, _, _, ⟨g', t', cs, fuel, p, q, hg', ht', hvar, hd, _, _⟩, _⟩, _⟩, _⟩ := h
  obtain rfl := Option.some.inj (gPow.symm.trans hg')
  obtain rfl := Option.some.inj (gPowType.symm.trans ht')
  unfold powAt Lib.TabIs
  rw [hvar, ← Lib.cells_of_tab Tryd.underlying131 Tryd.underlying23 cellsU64 cellsPow hd]
/-- for the witness: a world's table blocks made to hold what their initialisers lay -/
def withRow (w : World) (g : Nat) (cs : Array Value) : World :=
  { w with heap := w.heap.modify g fun
      | .cells _ t frozen => .cells cs t frozen
      | o => o }
def withTables (w : World) : World := withRow (withRow (withRow w 2 #[.int .u8 0, .int .u8 1, .int .u8 28, .int .u8 2, .int .u8 29, .int .u8 14, .int .u8 24, .int .u8 3, .int .u8 30, .int .u8 22, .int .u8 20, .int .u8 15, .int .u8 25, .int .u8 17, .int .u8 4, .int .u8 8, .int .u8 31, .int .u8 27, .int .u8 13, .int .u8 23, .int .u8 21, .int .u8 19, .int .u8 16, .int .u8 7, .int .u8 26, .int .u8 12, .int .u8 18, .int .u8 6, .int .u8 11, .int .u8 5, .int .u8 10, .int .u8 9]) 3 #[.int .u8 0, .int .u8 1, .int .u8 56, .int .u8 2, .int .u8 57, .int .u8 49, .int .u8 28, .int .u8 3, .int .u8 61, .int .u8 58, .int .u8 42, .int .u8 50, .int .u8 38, .int .u8 29, .int .u8 17, .int .u8 4, .int .u8 62, .int .u8 47, .int .u8 59, .int .u8 36, .int .u8 45, .int .u8 43, .int .u8 51, .int .u8 22, .int .u8 53, .int .u8 39, .int .u8 33, .int .u8 30, .int .u8 24, .int .u8 18, .int .u8 12, .int .u8 5, .int .u8 63, .int .u8 55, .int .u8 48, .int .u8 27, .int .u8 60, .int .u8 41, .int .u8 37, .int .u8 16, .int .u8 46, .int .u8 35, .int .u8 44, .int .u8 21, .int .u8 52, .int .u8 32, .int .u8 23, .int .u8 11, .int .u8 54, .int .u8 26, .int .u8 40, .int .u8 15, .int .u8 34, .int .u8 20, .int .u8 31, .int .u8 10, .int .u8 25, .int .u8 14, .int .u8 19, .int .u8 9, .int .u8 13, .int .u8 8, .int .u8 7, .int .u8 6]) 1 #[.int .u64 1, .int .u64 10, .int .u64 100, .int .u64 1000, .int .u64 10000, .int .u64 100000, .int .u64 1000000, .int .u64 10000000, .int .u64 100000000, .int .u64 1000000000, .int .u64 10000000000, .int .u64 100000000000, .int .u64 1000000000000, .int .u64 10000000000000, .int .u64 100000000000000, .int .u64 1000000000000000, .int .u64 10000000000000000, .int .u64 100000000000000000, .int .u64 1000000000000000000, .int .u64 10000000000000000000]
end Go.Proofs.YtnoaohlajllngaaDoor
namespace Go.Proofs.YtnoaohlajllngaaDoor
open Go.ChangeShapes Go.WideShapes Go.ChangeAt Go.RowKit

set_option maxRecDepth 100000 in
theorem string_read {H : Type} {enc : TypeId × Value → H} {W : World} {base : Nat} {v : Value} {d : DataW H} {p : List MemPlace}
    (hval : Value.okWide Tryd.prog W .any base 9 v) (h : DataW.Trod enc Tryd.prog W 0 (fun _ => true) true 9 v d p) (hsz : ∀ y ∈ d.weights Tryd.prog 9, y ≤ reachBytes) : ∃ s : ByteArray, v = .string s ∧ s.size ≤ 140737488351232 := by
  obtain ⟨s, rfl, rfl, -, -⟩ := ChangeMaps.open_string Tryd.underlying9 hval h
  refine ⟨s, rfl, ?_⟩
  have := hsz s.size (by simp [DataW.weights])
  simpa [reachBytes] using this
set_option maxRecDepth 100000 in
theorem word_read {H : Type} {enc : TypeId × Value → H} {W : World} {base : Nat} {v : Value} {d : DataW H} {p : List MemPlace}
    (hval : Value.okWide Tryd.prog W .any base 23 v) (h : DataW.Trod enc Tryd.prog W 0 (fun _ => true) true 23 v d p) : ∃ n : Nat, v = .int .u64 (n : Int) ∧ n < 18446744073709551616 := by
  obtain ⟨n, rfl⟩ := okWide_int Tryd.underlying23 hval
  obtain ⟨fuel, hf⟩ := h
  obtain ⟨z, g, _, f⟩ := DataW.trod_int Tryd.underlying23 hf
  obtain ⟨k, rfl, hk⟩ := num_of f
  obtain rfl : n = k := by simpa [Value.cells] using g
  exact ⟨k, rfl, hk⟩
set_option maxRecDepth 100000 in
theorem int_read {H : Type} {enc : TypeId × Value → H} {W : World} {base : Nat} {v : Value} {d : DataW H} {p : List MemPlace}
    (hval : Value.okWide Tryd.prog W .any base 3 v) (h : DataW.Trod enc Tryd.prog W 0 (fun _ => true) true 3 v d p) : ∃ z : Int, v = .int .i64 z ∧ z ≤ 9223372036854775807 := by
  obtain ⟨n, rfl⟩ := okWide_int Tryd.underlying3 hval
  obtain ⟨fuel, hf⟩ := h
  obtain ⟨z, g, _, f⟩ := DataW.trod_int Tryd.underlying3 hf
  obtain rfl : n = z := by simpa [Value.cells] using g
  refine ⟨n, rfl, ?_⟩
  have : -9223372036854775808 ≤ n ∧ n ≤ 9223372036854775807 := by simpa [Lit.wf, IntKind.min, IntKind.max, IntKind.signed, IntKind.bits] using f
  exact this.2
theorem cellsTr : Tryd.prog.cellsOf 25 = 4 := by kernel_rfl
theorem transfer_cells {H : Type} {enc : TypeId × Value → H} {W : World} {fuel : Nat} {c0 c1 c2 c3 : Value} {x : DataW H × List MemPlace}
    (hf : DataW.trod enc Tryd.prog W 0 (fun _ => true) true fuel 25 [c0, c1, c2, c3] = some x) (hsz : ∀ y ∈ x.1.weights Tryd.prog 25, y ≤ reachBytes) :
    ∃ q : Tr, (.agg #[c0, c1, c2, c3] : Value) = .agg #[.string q.denom, .int .u64 (q.amount : Int), .string q.sender, .string q.reader] ∧ q.fits := by
  obtain ⟨xs, n', _, hd, _, hlen, hfs⟩ := DataW.trod_struct Tryd.underlying25 hf
  have es : Tryd.prog.cellsOf 9 = 1 := by kernel_rfl
  have eu : Tryd.prog.cellsOf 23 = 1 := by kernel_rfl
  match xs, hlen with
  | [y0, y1, y2, y3], _ =>
    have t0 : DataW.trod enc Tryd.prog W 0 (fun _ => true) true n' 9 [c0] = some y0 := by
      have := hfs 0 _ rfl
      simpa [es, eu] using this
    have t1 : DataW.trod enc Tryd.prog W 0 (fun _ => true) true n' 23 [c1] = some y1 := by
      have := hfs 1 _ rfl
      simpa [es, eu] using this
    have t2 : DataW.trod enc Tryd.prog W 0 (fun _ => true) true n' 9 [c2] = some y2 := by
      have := hfs 2 _ rfl
      simpa [es, eu] using this
    have t3 : DataW.trod enc Tryd.prog W 0 (fun _ => true) true n' 9 [c3] = some y3 := by
      have := hfs 3 _ rfl
      simpa [es, eu] using this
    have hw : ∀ y, y ∈ y0.1.weights Tryd.prog 9 ∨ y ∈ y2.1.weights Tryd.prog 9 ∨ y ∈ y3.1.weights Tryd.prog 9 → y ≤ reachBytes := fun y hy => hsz y (by
      rw [hd]
      simp only [DataW.weights, Tryd.underlying25]
      simp [DataW.weightsEach]
      rcases hy with hy | hy | hy
      · exact .inl hy
      · exact .inr (.inr (.inl hy))
      · exact .inr (.inr (.inr hy)))
    obtain ⟨s0, g0, q0, _⟩ := DataW.trod_string Tryd.underlying9 t0
    obtain rfl : c0 = .string s0 := by simpa using g0
    have hs0 : s0.size ≤ 140737488351232 := by
      have := hw s0.size (.inl (by rw [q0]; simp [DataW.weights]))
      simpa [reachBytes] using this
    obtain ⟨s2, g2, q2, _⟩ := DataW.trod_string Tryd.underlying9 t2
    obtain rfl : c2 = .string s2 := by simpa using g2
    have hs2 : s2.size ≤ 140737488351232 := by
      have := hw s2.size ((.inr ∘ .inl) (by rw [q2]; simp [DataW.weights]))
      simpa [reachBytes] using this
    obtain ⟨s3, g3, q3, _⟩ := DataW.trod_string Tryd.underlying9 t3
    obtain rfl : c3 = .string s3 := by simpa using g3
    have hs3 : s3.size ≤ 140737488351232 := by
      have := hw s3.size ((.inr ∘ .inr) (by rw [q3]; simp [DataW.weights]))
      simpa [reachBytes] using this
    obtain ⟨z1, g1, _, f1⟩ := DataW.trod_int Tryd.underlying23 t1
    obtain ⟨n1, rfl, b1⟩ := num_of f1
    obtain rfl : c1 = .int .u64 n1 := by simpa using g1
    exact ⟨⟨s0, n1, s2, s3⟩, rfl, hs0, b1, hs2, hs3⟩
set_option maxRecDepth 100000 in
/-- an argument that reads as a transfer -/
theorem transfer_read {H : Type} {enc : TypeId × Value → H} {W : World} {base : Nat} {v : Value} {d : DataW H} {p : List MemPlace}
    (hval : Value.okWide Tryd.prog W .any base 25 v) (h : DataW.Trod enc Tryd.prog W 0 (fun _ => true) true 25 v d p) (hsz : ∀ y ∈ d.weights Tryd.prog 25, y ≤ reachBytes) :
    ∃ q : Tr, v = .agg #[.string q.denom, .int .u64 (q.amount : Int), .string q.sender, .string q.reader] ∧ q.fits := by
  obtain ⟨cs, rfl, hcs⟩ := okWide_struct Tryd.underlying25 hval
  rw [cellsTr] at hcs
  obtain ⟨l⟩ := cs
  match l, hcs with
  | [c0, c1, c2, c3], _ =>
    obtain ⟨fuel, hf⟩ := h
    exact transfer_cells (x := (d, p)) hf hsz
end Go.Proofs.YtnoaohlajllngaaDoor
namespace Go.Proofs.YtnoaohlajllngaaDoor.bankTells
open Go.ChangeShapes Go.WideShapes Go.ChangeAt Go.RowKit

theorem own : ownKnob Tryd.prog.godebug = none := by kernel_rfl
theorem laidOut : laidOutB Tryd.prog = true := by kernel_rfl

set_option maxRecDepth 100000 in
theorem contract (H : Type) (enc : TypeId × Value → H) (W : World) (base : Nat) (args : Array Value) (ds gs : List (DataW H)) (before : List MemPlace)
    (hval : ∀ (j : Nat) t v, Tryd.f3.params[j]? = some t → args[j]? = some v → Value.okWide Tryd.prog W .any base t v)
    (hW : DataW.Whole enc Tryd.prog Tryd.f3.params.toList Rows.bankTellsSpec.vars false W args.toList ds gs before)
    (hsz0 : (DataW.weightsEach Tryd.prog (Tryd.f3.params.toList ++ (OpenSpec.ofChange Rows.bankTellsSpec).bare.plain.varTypes Tryd.prog) (ds ++ gs)).all (· ≤ reachBytes) = true)
    (hL : laidMetH Tryd.prog Rows.bankTellsRow.laid W) :
    Calls Tryd.prog 3 args W fun e W' => ∃ v, e = .returned v ∧ Rows.bankTellsSpec.post enc Tryd.prog Tryd.f3 false true false false W args v W' := by
  have htab : powAt W := pow_laid hL
  have hW' := hW
  obtain ⟨p, q, hA0, hV, rfl, hfz, hnd⟩ := hW
  have hA : DataW.TrodAll enc Tryd.prog W 0 (fun _ => true) true Tryd.f3.params.toList args.toList ds p := hA0
  rw [Tryd.params3] at hA hval hsz0
  obtain ⟨v0, vs0, d0, ds0, p0, q0, hargs0, rfl, rfl, h0, r0⟩ := trodAll_cons hA
  obtain ⟨v1, vs1, d1, ds1, p1, q1, hargs1, rfl, rfl, h1, r1⟩ := trodAll_cons r0
  subst hargs1
  obtain ⟨v2, vs2, d2, ds2, p2, q2, hargs2, rfl, rfl, h2, r2⟩ := trodAll_cons r1
  subst hargs2
  obtain ⟨v3, vs3, d3, ds3, p3, q3, hargs3, rfl, rfl, h3, r3⟩ := trodAll_cons r2
  subst hargs3
  obtain ⟨v4, vs4, d4, ds4, p4, q4, hargs4, rfl, rfl, h4, r4⟩ := trodAll_cons r3
  subst hargs4
  obtain ⟨v5, vs5, d5, ds5, p5, q5, hargs5, rfl, rfl, h5, r5⟩ := trodAll_cons r4
  subst hargs5
  obtain ⟨v6, vs6, d6, ds6, p6, q6, hargs6, rfl, rfl, h6, r6⟩ := trodAll_cons r5
  subst hargs6
  obtain ⟨v7, vs7, d7, ds7, p7, q7, hargs7, rfl, rfl, h7, r7⟩ := trodAll_cons r6
  subst hargs7
  obtain ⟨v8, vs8, d8, ds8, p8, q8, hargs8, rfl, rfl, h8, r8⟩ := trodAll_cons r7
  subst hargs8
  obtain ⟨rfl, rfl, rfl⟩ := trodAll_nil r8
  obtain rfl : args = #[v0, v1, v2, v3, v4, v5, v6, v7, v8] := by cases args; simp_all
  obtain ⟨rfl, rfl⟩ := trodVars_none hV
  have k0 := h0
  have lt0 : ∀ x ∈ p0, x.block < W.heap.size := by obtain ⟨m, hm⟩ := k0; exact DataW.trod_lt m _ _ _ hm
  have hw0 : ∀ y ∈ d0.weights Tryd.prog 22, y ≤ reachBytes := fun y hy => by
    have := List.all_eq_true.1 hsz0 _ (DataW.weights_mem_each (j := 0) (t := 22) rfl rfl y hy)
    simpa using this
  obtain ⟨a0, len0, cap0, rfl⟩ := okWide_slice Tryd.underlying22 (hval 0 22 v0 rfl rfl)
  obtain ⟨l0, hpu0, hft0, hln0⟩ : ∃ l : List Pu, Many PuR 3 W W.heap.size (.slice a0 len0 cap0) l ∧ (∀ q ∈ l, q.fits) ∧ l.length < 2305843009213693952 := by
    obtain ⟨fuel, hf⟩ := h0
    exact purses_read hf hw0
  have k1 := h1
  have lt1 : ∀ x ∈ p1, x.block < W.heap.size := by obtain ⟨m, hm⟩ := k1; exact DataW.trod_lt m _ _ _ hm
  have hw1 : ∀ y ∈ d1.weights Tryd.prog 9, y ≤ reachBytes := fun y hy => by
    have := List.all_eq_true.1 hsz0 _ (DataW.weights_mem_each (j := 1) (t := 9) rfl rfl y hy)
    simpa using this
  obtain ⟨s1, rfl, hs1⟩ := string_read (hval 1 9 v1 rfl rfl) h1 hw1
  have k2 := h2
  have lt2 : ∀ x ∈ p2, x.block < W.heap.size := by obtain ⟨m, hm⟩ := k2; exact DataW.trod_lt m _ _ _ hm
  have hw2 : ∀ y ∈ d2.weights Tryd.prog 9, y ≤ reachBytes := fun y hy => by
    have := List.all_eq_true.1 hsz0 _ (DataW.weights_mem_each (j := 2) (t := 9) rfl rfl y hy)
    simpa using this
  obtain ⟨s2, rfl, hs2⟩ := string_read (hval 2 9 v2 rfl rfl) h2 hw2
  have k3 := h3
  have lt3 : ∀ x ∈ p3, x.block < W.heap.size := by obtain ⟨m, hm⟩ := k3; exact DataW.trod_lt m _ _ _ hm
  have hw3 : ∀ y ∈ d3.weights Tryd.prog 9, y ≤ reachBytes := fun y hy => by
    have := List.all_eq_true.1 hsz0 _ (DataW.weights_mem_each (j := 3) (t := 9) rfl rfl y hy)
    simpa using this
  obtain ⟨s3, rfl, hs3⟩ := string_read (hval 3 9 v3 rfl rfl) h3 hw3
  have k4 := h4
  have lt4 : ∀ x ∈ p4, x.block < W.heap.size := by obtain ⟨m, hm⟩ := k4; exact DataW.trod_lt m _ _ _ hm
  have hw4 : ∀ y ∈ d4.weights Tryd.prog 23, y ≤ reachBytes := fun y hy => by
    have := List.all_eq_true.1 hsz0 _ (DataW.weights_mem_each (j := 4) (t := 23) rfl rfl y hy)
    simpa using this
  obtain ⟨n4, rfl, hn4⟩ := word_read (hval 4 23 v4 rfl rfl) h4
  have k5 := h5
  have lt5 : ∀ x ∈ p5, x.block < W.heap.size := by obtain ⟨m, hm⟩ := k5; exact DataW.trod_lt m _ _ _ hm
  have hw5 : ∀ y ∈ d5.weights Tryd.prog 3, y ≤ reachBytes := fun y hy => by
    have := List.all_eq_true.1 hsz0 _ (DataW.weights_mem_each (j := 5) (t := 3) rfl rfl y hy)
    simpa using this
  obtain ⟨z5, rfl, hz5⟩ := int_read (hval 5 3 v5 rfl rfl) h5
  have k6 := h6
  have lt6 : ∀ x ∈ p6, x.block < W.heap.size := by obtain ⟨m, hm⟩ := k6; exact DataW.trod_lt m _ _ _ hm
  have hw6 : ∀ y ∈ d6.weights Tryd.prog 3, y ≤ reachBytes := fun y hy => by
    have := List.all_eq_true.1 hsz0 _ (DataW.weights_mem_each (j := 6) (t := 3) rfl rfl y hy)
    simpa using this
  obtain ⟨z6, rfl, hz6⟩ := int_read (hval 6 3 v6 rfl rfl) h6
  have k7 := h7
  have lt7 : ∀ x ∈ p7, x.block < W.heap.size := by obtain ⟨m, hm⟩ := k7; exact DataW.trod_lt m _ _ _ hm
  have hw7 : ∀ y ∈ d7.weights Tryd.prog 25, y ≤ reachBytes := fun y hy => by
    have := List.all_eq_true.1 hsz0 _ (DataW.weights_mem_each (j := 7) (t := 25) rfl rfl y hy)
    simpa using this
  obtain ⟨t7, rfl, ht7⟩ := transfer_read (hval 7 25 v7 rfl rfl) h7 hw7
  have k8 := h8
  have lt8 : ∀ x ∈ p8, x.block < W.heap.size := by obtain ⟨m, hm⟩ := k8; exact DataW.trod_lt m _ _ _ hm
  have hw8 : ∀ y ∈ d8.weights Tryd.prog 26, y ≤ reachBytes := fun y hy => by
    have := List.all_eq_true.1 hsz0 _ (DataW.weights_mem_each (j := 8) (t := 26) rfl rfl y hy)
    simpa using this
  obtain ⟨a8, len8, cap8, rfl⟩ := okWide_slice Tryd.underlying26 (hval 8 26 v8 rfl rfl)
  obtain ⟨l8, hby8, hll8⟩ : ∃ l, Bytes W W.heap.size (.slice a8 len8 cap8) l ∧ l.length ≤ 140737488351232 := by
    obtain ⟨fuel, hf⟩ := h8
    exact bytes_cell_sizedH hf hw8
  clear hA0
  refine (bankTells_any l0 s1 s2 s3 n4 z5 z6 t7 l8 (.slice a0 len0 cap0) (.slice a8 len8 cap8) W.heap.size W htab (Nat.le_refl _) hpu0 hft0 hln0 hn4 ht7 hz5 hz6 hby8 hll8 hs3).mono fun e W' ⟨he, bel⟩ => ?_
  subst he
  exact ⟨_, rfl, _, _, _, [], _, [], hW', trodAll_mk1 (shut_bool Tryd.underlying4 _), (trodAll_cons_mk (Below.trod laidOut (by kernel_rfl) (of_decide_eq_true (by kernel_rfl)) k0 bel lt0) (trodAll_cons_mk (Below.trod laidOut (by kernel_rfl) (of_decide_eq_true (by kernel_rfl)) k1 bel lt1) (trodAll_cons_mk (Below.trod laidOut (by kernel_rfl) (of_decide_eq_true (by kernel_rfl)) k2 bel lt2) (trodAll_cons_mk (Below.trod laidOut (by kernel_rfl) (of_decide_eq_true (by kernel_rfl)) k3 bel lt3) (trodAll_cons_mk (Below.trod laidOut (by kernel_rfl) (of_decide_eq_true (by kernel_rfl)) k4 bel lt4) (trodAll_cons_mk (Below.trod laidOut (by kernel_rfl) (of_decide_eq_true (by kernel_rfl)) k5 bel lt5) (trodAll_cons_mk (Below.trod laidOut (by kernel_rfl) (of_decide_eq_true (by kernel_rfl)) k6 bel lt6) (trodAll_cons_mk (Below.trod laidOut (by kernel_rfl) (of_decide_eq_true (by kernel_rfl)) k7 bel lt7) (trodAll_cons_mk (Below.trod laidOut (by kernel_rfl) (of_decide_eq_true (by kernel_rfl)) k8 bel lt8) trodAll_mk0))))))))), rfl, bel.frame _, fun h => by cases h⟩

theorem laid_met (os : Os) : laidMet Tryd.prog Rows.bankTellsRow.laid ((withTables (World.holding Tryd.prog os ⟨#[], #[], []⟩)).forCall (fun _ _ => 0) ⟨#[], #[.slice none 0 0, .string ⟨#[]⟩, .string ⟨#[]⟩, .string ⟨#[]⟩, .int .u64 0, .int .i64 0, .int .i64 0, .agg #[.string ⟨#[]⟩, .int .u64 0, .string ⟨#[]⟩, .string ⟨#[]⟩], .slice none 0 0], []⟩).memory :=
  laidMet_of_run' 8 (by kernel_rfl) (by kernel_rfl)
theorem reads (os : Os) {H : Type} (enc : TypeId × Value → H) : ∃ places, DataW.whole enc Tryd.prog ((withTables (World.holding Tryd.prog os ⟨#[], #[], []⟩)).forCall (fun _ _ => 0) ⟨#[], #[.slice none 0 0, .string ⟨#[]⟩, .string ⟨#[]⟩, .string ⟨#[]⟩, .int .u64 0, .int .i64 0, .int .i64 0, .agg #[.string ⟨#[]⟩, .int .u64 0, .string ⟨#[]⟩, .string ⟨#[]⟩], .slice none 0 0], []⟩).memory Tryd.f3.params.toList Rows.bankTellsSpec.vars false #[Value.slice none 0 0, Value.string ⟨#[]⟩, Value.string ⟨#[]⟩, Value.string ⟨#[]⟩, Value.int .u64 0, Value.int .i64 0, Value.int .i64 0, Value.agg #[.string ⟨#[]⟩, .int .u64 0, .string ⟨#[]⟩, .string ⟨#[]⟩], Value.slice none 0 0].toList 8 = some ([.nil, .lit (.string []), .lit (.string []), .lit (.string []), .lit (.int .u64 0), .lit (.int .i64 0), .lit (.int .i64 0), .agg [.lit (.string []), .lit (.int .u64 0), .lit (.string []), .lit (.string [])], .nil], [], places) :=
  ⟨[], by kernel_rfl⟩

set_option maxRecDepth 100000 in
theorem lifted (os : Os) (started : os.Started) (H : Type) (enc : TypeId × Value → H) (F : Stop.Interp) :
    ReturnsInHanded {} Tryd.checked os 3 .any ((OpenSpec.ofChange Rows.bankTellsSpec).preRow enc Tryd.prog Tryd.f3 Rows.bankTellsRow.domain false Rows.bankTellsRow.laid) (((OpenSpec.ofChange Rows.bankTellsSpec).at F).post enc Tryd.prog Tryd.f3 false true false false) := by
  obtain ⟨places, hx⟩ := reads os enc
  refine returnsInHanded_of_row (C := Tryd.checked) (s := OpenSpec.ofChange Rows.bankTellsSpec) own started (by kernel_rfl) Tryd.func3
    (witness_row_at (enc := enc) (C := Tryd.checked) false (withTables (World.holding Tryd.prog os ⟨#[], #[], []⟩)) #[.slice none 0 0, .string ⟨#[]⟩, .string ⟨#[]⟩, .string ⟨#[]⟩, .int .u64 0, .int .i64 0, .int .i64 0, .agg #[.string ⟨#[]⟩, .int .u64 0, .string ⟨#[]⟩, .string ⟨#[]⟩], .slice none 0 0] rfl (by kernel_rfl) (by kernel_rfl) (by kernel_rfl)
      (OpenSpec.preRow_of_cond 8 hx (by kernel_rfl) (fun k hk => by cases hk) (by kernel_rfl) (laid_met os))) ?_
  intro W base args ds gs before hval hW _ _ hsz hL _ _
  exact contract H enc W base args ds gs before hval hW hsz hL

theorem said : Rows.BankTellsSaid :=
  OpenClaim.holds_of_cond 3 Tryd.f3 rfl rfl rfl rfl rfl rfl rfl ⟨rfl, rfl, rfl, rfl, rfl⟩ rfl rfl rfl rfl rfl (by kernel_rfl) Tryd.func3 (by kernel_rfl)
    (of_decide_eq_true (by kernel_rfl)) (by unfold Func.isWrapper; first | (rw [if_pos (by decide +kernel)]; kernel_rfl) | (rw [if_neg (by decide +kernel)]; exact ⟨rfl, rfl⟩))
    (fun os started H enc _ F => by rw [OpenClaim.pre_eq_preRow]; exact lifted os started H enc F)

theorem plain (f : FuncId) (fn : Func) (hf : Tryd.pinned.checked.prog.funcNamed "landbridge/landlaw12.BankTells" = some f) (hfn : Tryd.pinned.checked.prog.funcs[f]? = some fn) :
    false = Tryd.pinned.checked.prog.looks [] ∧ ∀ (j : Nat) t, fn.params[j]? = some t → Tryd.pinned.checked.prog.wantsStandIn t = false := by
  obtain rfl : f = 3 := Option.some.inj ((show Tryd.prog.funcNamed "landbridge/landlaw12.BankTells" = some 3 by kernel_rfl).symm.trans hf) |>.symm
  obtain rfl : fn = Tryd.f3 := (Option.some.inj (Tryd.func3.symm.trans hfn)).symm
  refine ⟨by kernel_rfl, fun j t ht => ?_⟩
  rw [Tryd.params3] at ht
  have hm : t = 22 ∨ t = 9 ∨ t = 9 ∨ t = 9 ∨ t = 23 ∨ t = 3 ∨ t = 3 ∨ t = 25 ∨ t = 26 := by simpa using Array.mem_of_getElem? ht
  rcases hm with rfl | rfl | rfl | rfl | rfl | rfl | rfl | rfl | rfl
  · exact (show Tryd.prog.wantsStandIn 22 = false by kernel_rfl)
  · exact (show Tryd.prog.wantsStandIn 9 = false by kernel_rfl)
  · exact (show Tryd.prog.wantsStandIn 9 = false by kernel_rfl)
  · exact (show Tryd.prog.wantsStandIn 9 = false by kernel_rfl)
  · exact (show Tryd.prog.wantsStandIn 23 = false by kernel_rfl)
  · exact (show Tryd.prog.wantsStandIn 3 = false by kernel_rfl)
  · exact (show Tryd.prog.wantsStandIn 3 = false by kernel_rfl)
  · exact (show Tryd.prog.wantsStandIn 25 = false by kernel_rfl)
  · exact (show Tryd.prog.wantsStandIn 26 = false by kernel_rfl)
end Go.Proofs.YtnoaohlajllngaaDoor.bankTells
namespace Go.Proofs.YtnoaohlajllngaaDoor
theorem bankTells_card : Rows.BankTellsCardSaid :=
  Claim7.holds_tied_plain_at .later [] _ _ _ _ bankTells.said (fun _ h => by cases h) (by kernel_rfl) (fun _ h => by cases h) bankTells_row_tie rfl ⟨rfl, rfl⟩ (by kernel_rfl) rfl bankTells.plain (by kernel_rfl)
end Go.Proofs.YtnoaohlajllngaaDoor
