/-
  PacketNumbers returns true of every state and packet, of every lists of bytes, of every numbers and of whatever is shown, the listed package variables (cubes of package sha, uint64pow10 of internal/strconv, deBruijn32tab and deBruijn64tab of math/bits) holding what the program text lays, and each argument reads behind the call as it did; no condition besides.
-/
import Derived.Test.YtclhcjiblfokaaaGreatDoorpnMemB
import Derived.Test.YtclhcjiblfokaaaGreatDoorpnPairsAll
import Derived.Test.YtclhcjiblfokaaaGreatDoorpnBookMath
import Derived.Test.YtclhcjiblfokaaaGreatDoorRows
import Derived.Test.YtclhcjiblfokaaaGreatDoorpnStApp
import Derived.Test.YtclhcjiblfokaaaGreatDoorpnShaAll
import Derived.Test.YtclhcjiblfokaaaGreatDoorpnStOpen
import Derived.Test.YtclhcjiblfokaaaGreatDoorpnCoMath
import Derived.Test.YtclhcjiblfokaaaGreatDoorpnPkMath
import Derived.Test.YtclhcjiblfokaaaGreatDoorCards
import Derived.Test.YtclhcjiblfokaaaGreatDoorTie
import Derived.Test.YtclhcjiblfokaaaGreatDoorpnPkNumW
import Derived.Deep.Slices
import Derived.Deep.Strs
import Derived.Deep.FieldsWide
import Derived.ProofKit
import Derived.OpenShut
import Derived.ShutString
import Derived.ChangeOld
import Derived.Below
import Derived.SizedLaws
import Derived.Deep.DeepHandedRow
import Derived.Lib.LaidTab
namespace Go.Proofs.YtclhcjiblfokaaaGreatDoor
open Go.ChangeShapes Go.WideShapes Go.ChangeAt Go.RowKit

theorem gPow : Tryz.prog.globalNamed "internal/strconv.uint64pow10" = some 2 := by kernel_rfl
theorem gPowType : (Tryz.prog.globals[2]?).map (·.type) = some 235 := by kernel_rfl
theorem cellsPow : Tryz.prog.cellsOf 235 = 20 := by kernel_rfl
theorem cellsU64 : Tryz.prog.cellsOf 69 = 1 := by kernel_rfl
theorem pow_data : (Rows.laid_internal_strconv_uint64pow10 : DataW Unit) = Lib.tabData .u64 Lib.pow10Tab := by kernel_rfl
/-- for the witness: a world's table blocks made to hold what their initialisers lay -/
def withRow (w : World) (g : Nat) (cs : Array Value) : World :=
  { w with heap := w.heap.modify g fun
      | .cells _ t frozen => .cells cs t frozen
      | o => o }
def withTables (w : World) : World := withRow (withRow (withRow w 3 #[.int .u8 0, .int .u8 1, .int .u8 28, .int .u8 2, .int .u8 29, .int .u8 14, .int .u8 24, .int .u8 3, .int .u8 30, .int .u8 22, .int .u8 20, .int .u8 15, .int .u8 25, .int .u8 17, .int .u8 4, .int .u8 8, .int .u8 31, .int .u8 27, .int .u8 13, .int .u8 23, .int .u8 21, .int .u8 19, .int .u8 16, .int .u8 7, .int .u8 26, .int .u8 12, .int .u8 18, .int .u8 6, .int .u8 11, .int .u8 5, .int .u8 10, .int .u8 9]) 4 #[.int .u8 0, .int .u8 1, .int .u8 56, .int .u8 2, .int .u8 57, .int .u8 49, .int .u8 28, .int .u8 3, .int .u8 61, .int .u8 58, .int .u8 42, .int .u8 50, .int .u8 38, .int .u8 29, .int .u8 17, .int .u8 4, .int .u8 62, .int .u8 47, .int .u8 59, .int .u8 36, .int .u8 45, .int .u8 43, .int .u8 51, .int .u8 22, .int .u8 53, .int .u8 39, .int .u8 33, .int .u8 30, .int .u8 24, .int .u8 18, .int .u8 12, .int .u8 5, .int .u8 63, .int .u8 55, .int .u8 48, .int .u8 27, .int .u8 60, .int .u8 41, .int .u8 37, .int .u8 16, .int .u8 46, .int .u8 35, .int .u8 44, .int .u8 21, .int .u8 52, .int .u8 32, .int .u8 23, .int .u8 11, .int .u8 54, .int .u8 26, .int .u8 40, .int .u8 15, .int .u8 34, .int .u8 20, .int .u8 31, .int .u8 10, .int .u8 25, .int .u8 14, .int .u8 19, .int .u8 9, .int .u8 13, .int .u8 8, .int .u8 7, .int .u8 6]) 2 #[.int .u64 1, .int .u64 10, .int .u64 100, .int .u64 1000, .int .u64 10000, .int .u64 100000, .int .u64 1000000, .int .u64 10000000, .int .u64 100000000, .int .u64 1000000000, .int .u64 10000000000, .int .u64 100000000000, .int .u64 1000000000000, .int .u64 10000000000000, .int .u64 100000000000000, .int .u64 1000000000000000, .int .u64 10000000000000000, .int .u64 100000000000000000, .int .u64 1000000000000000000, .int .u64 10000000000000000000]
end Go.Proofs.YtclhcjiblfokaaaGreatDoor
namespace Go.Proofs.YtclhcjiblfokaaaGreatDoor
open Go.ChangeShapes Go.WideShapes Go.ChangeAt Go.RowKit

def cubeInts : List Int := [1116352408, 1899447441, 3049323471, 3921009573, 961987163, 1508970993, 2453635748, 2870763221, 3624381080, 310598401, 607225278, 1426881987, 1925078388, 2162078206, 2614888103, 3248222580, 3835390401, 4022224774, 264347078, 604807628, 770255983, 1249150122, 1555081692, 1996064986, 2554220882, 2821834349, 2952996808, 3210313671, 3336571891, 3584528711, 113926993, 338241895, 666307205, 773529912, 1294757372, 1396182291, 1695183700, 1986661051, 2177026350, 2456956037, 2730485921, 2820302411, 3259730800, 3345764771, 3516065817, 3600352804, 4094571909, 275423344, 430227734, 506948616, 659060556, 883997877, 958139571, 1322822218, 1537002063, 1747873779, 1955562222, 2024104815, 2227730452, 2361852424, 2428436474, 2756734187, 3204031479, 3329325298]
theorem gTab : Tryz.prog.globalNamed "landbridge/sha.cubes" = some 0 := by kernel_rfl
theorem gTabType : (Tryz.prog.globals[0]?).map (·.type) = some 194 := by kernel_rfl
theorem cellsTab : Tryz.prog.cellsOf 194 = 64 := by kernel_rfl
theorem cellsWord : Tryz.prog.cellsOf 133 = 1 := by kernel_rfl
theorem cubes_k : ∀ t, t < 64 → cubeInts.getD t 0 = u (kTab.getD t 0) := by decide +kernel
end Go.Proofs.YtclhcjiblfokaaaGreatDoor
namespace Go.Proofs.YtclhcjiblfokaaaGreatDoor
open Go.ChangeShapes Go.WideShapes Go.ChangeAt Go.RowKit

theorem cub_data : (Rows.laid_landbridge_sha_cubes : DataW Unit) = Lib.tabData .u32 cubeInts := by kernel_rfl
theorem pow_laidZ {W : World} {a b d : String × DataW Unit} (h : laidMet Tryz.prog [a, b, ("internal/strconv.uint64pow10", Rows.laid_internal_strconv_uint64pow10), d] W) : powAt W := by
  rw [pow_data] at h
  obtain ⟨_, ⟨_, _, _, _, _, _, _, _, _, _, ⟨_, _, _, _, _, _, _, _, _, _, ⟨g', t', cs, fuel, p, q, hg', ht', hvar, hd, _, _⟩, _⟩, _⟩, _⟩ := h
  obtain rfl := Option.some.inj (gPow.symm.trans hg')
  obtain rfl := Option.some.inj (gPowType.symm.trans ht')
  unfold powAt Lib.TabIs
  rw [hvar, ← Lib.cells_of_tab Tryz.underlying235 Tryz.underlying69 cellsU64 cellsPow hd]
theorem table_laidZ {W : World} {a b c : String × DataW Unit} (h : laidMet Tryz.prog [a, b, c, ("landbridge/sha.cubes", Rows.laid_landbridge_sha_cubes)] W) : tableAt W := by
  rw [cub_data] at h
  obtain ⟨_, ⟨_, _, _, _, _, _, _, _, _, _, ⟨_, _, _, _, _, _, _, _, _, _, ⟨_, _, _, _, _, _, _, _, _, _, ⟨g', t', cs, fuel, p, q, hg', ht', hvar, hd, _, _⟩, _⟩, _⟩, _⟩, _⟩ := h
  obtain rfl := Option.some.inj (gTab.symm.trans hg')
  obtain rfl := Option.some.inj (gTabType.symm.trans ht')
  have ht : Lib.TabIs Tryz.prog W "landbridge/sha.cubes" .u32 cubeInts := by
    unfold Lib.TabIs
    rw [hvar, ← Lib.cells_of_tab Tryz.underlying194 Tryz.underlying133 cellsWord cellsTab hd]
  intro t hlt
  rw [ht.cell gTab t hlt, cubes_k t hlt]
def withTablesZ (w : World) : World := withRow (withTables w) 0 #[.int .u32 1116352408, .int .u32 1899447441, .int .u32 3049323471, .int .u32 3921009573, .int .u32 961987163, .int .u32 1508970993, .int .u32 2453635748, .int .u32 2870763221, .int .u32 3624381080, .int .u32 310598401, .int .u32 607225278, .int .u32 1426881987, .int .u32 1925078388, .int .u32 2162078206, .int .u32 2614888103, .int .u32 3248222580, .int .u32 3835390401, .int .u32 4022224774, .int .u32 264347078, .int .u32 604807628, .int .u32 770255983, .int .u32 1249150122, .int .u32 1555081692, .int .u32 1996064986, .int .u32 2554220882, .int .u32 2821834349, .int .u32 2952996808, .int .u32 3210313671, .int .u32 3336571891, .int .u32 3584528711, .int .u32 113926993, .int .u32 338241895, .int .u32 666307205, .int .u32 773529912, .int .u32 1294757372, .int .u32 1396182291, .int .u32 1695183700, .int .u32 1986661051, .int .u32 2177026350, .int .u32 2456956037, .int .u32 2730485921, .int .u32 2820302411, .int .u32 3259730800, .int .u32 3345764771, .int .u32 3516065817, .int .u32 3600352804, .int .u32 4094571909, .int .u32 275423344, .int .u32 430227734, .int .u32 506948616, .int .u32 659060556, .int .u32 883997877, .int .u32 958139571, .int .u32 1322822218, .int .u32 1537002063, .int .u32 1747873779, .int .u32 1955562222, .int .u32 2024104815, .int .u32 2227730452, .int .u32 2361852424, .int .u32 2428436474, .int .u32 2756734187, .int .u32 3204031479, .int .u32 3329325298]
end Go.Proofs.YtclhcjiblfokaaaGreatDoor
namespace Go.Proofs.YtclhcjiblfokaaaGreatDoor
open Go.ChangeShapes Go.WideShapes Go.ChangeAt Go.RowKit

theorem addr_addP (b off i : Nat) : (⟨b, off, none⟩ : Addr).add i = ⟨b, off + i, none⟩ := by unfold Addr.add; split <;> simp_all
/-- a cell that reads as a slice of bytes -/
theorem bytes_cell_sizedP {H : Type} {enc : TypeId × Value → H} {W : World} {fuel : Nat} {v : Value} {x : DataW H × List MemPlace}
    (hf : DataW.trod enc Tryz.prog W 0 (fun _ => true) true fuel 29 [v] = some x) (hsz : ∀ y ∈ x.1.weights Tryz.prog 29, y ≤ reachBytes) :
    ∃ l, Bytes W W.heap.size v l ∧ l.length ≤ 140737488351232 := by
  rcases open_ints Tryz.underlying29 Tryz.underlying5 (by kernel_rfl) hf with ⟨hcs, _⟩ | ⟨a, len, cap, zs, hcs, _⟩
  · obtain rfl : v = .slice none 0 0 := by simpa using hcs
    exact ⟨[], .inl ⟨rfl, rfl⟩, by simp⟩
  · obtain rfl : v = .slice (some a) len cap := by simpa using hcs
    refine bytes_read_len (a0 := some a) (len0 := len) (cap0 := cap) (x := x) hf (fun elems spare he => ?_)
    refine hsz _ ?_
    rw [he]
    simp [DataW.weights, Tryz.underlying29]
theorem weights_all_memP {H : Type} (P : Program) (e : TypeId) (l : List (DataW H)) (d : DataW H) (hd : d ∈ l) (y : Nat) (hy : y ∈ d.weights P e) : y ∈ DataW.weightsAll P e l := by
  induction l with
  | nil => simp at hd
  | cons a r ih =>
    simp only [DataW.weightsAll, List.mem_append]
    rcases List.mem_cons.1 hd with rfl | h
    · exact .inl hy
    · exact .inr (ih h)
end Go.Proofs.YtclhcjiblfokaaaGreatDoor
namespace Go.Proofs.YtclhcjiblfokaaaGreatDoor
open Go.ChangeShapes Go.WideShapes Go.ChangeAt Go.RowKit

theorem addr_add0 (a : Addr) : a.add 0 = a := by unfold Addr.add; split <;> simp_all
/-- a cell that reads as a slice of slices of bytes -/
theorem lists_cell_sized {H : Type} {enc : TypeId × Value → H} {W : World} {fuel : Nat} {v : Value} {x : DataW H × List MemPlace}
    (hf : DataW.trod enc Tryz.prog W 0 (fun _ => true) true fuel 32 [v] = some x) (hsz : ∀ y ∈ x.1.weights Tryz.prog 32, y ≤ reachBytes) :
    ∃ l, Lists W W.heap.size v l ∧ (∀ d ∈ l, d.length ≤ 140737488351232) ∧ l.length < 2305843009213693952 := by
  rcases Deep.open_slice Tryz.underlying32 hf with ⟨hcs, _⟩ | ⟨a, len, cap, m, n, D, Pl, hcs, _, hl, hm, hmm, hx, hel⟩
  · obtain rfl : v = .slice none 0 0 := by simpa using hcs
    exact ⟨[], .inl ⟨rfl, rfl⟩, by simp, by simp⟩
  · obtain rfl : v = .slice (some a) len cap := by simpa using hcs
    have hm' : m = cap := by simpa using hmm
    subst hm'
    have hc1 : Tryz.prog.cellsOf 29 = 1 := by kernel_rfl
    have hb24 : Tryz.prog.bytesOf 29 = 24 := by kernel_rfl
    have hlen : len < 2305843009213693952 := by
      have := hsz ((len + (m - len)) * 24) (by rw [hx]; simp [DataW.weights, Tryz.underlying32, hb24])
      simp only [reachBytes] at this
      omega
    have each : ∀ i, i < len → ∃ p : Value × List (BitVec 8), W.cell? (a.add (i * 1)) = some p.1 ∧ Bytes W W.heap.size p.1 p.2 ∧ p.2.length ≤ 140737488351232 := fun i hi => by
      obtain ⟨cs', h1, h2⟩ := hel i (by omega)
      rw [hc1] at h1
      obtain ⟨_, hcl, hcc⟩ := World.cells?_some h1
      match cs', hcl with
      | [c0], _ =>
        have g0 := hcc 0 (by omega)
        rw [addr_add0] at g0
        obtain ⟨l0, hb0, hl0⟩ := bytes_cell_sizedP h2 (fun y hy => hsz y (by
          rw [hx]
          simp only [DataW.weights, Tryz.underlying32, List.mem_cons, List.mem_append]
          exact .inr (.inl (weights_all_memP _ _ _ (D i) (List.mem_map.2 ⟨i, List.mem_range.2 hi, rfl⟩) y hy))))
        exact ⟨(c0, l0), g0, hb0, hl0⟩
    haveI : Inhabited (Value × List (BitVec 8)) := ⟨(undef, [])⟩
    obtain ⟨f, hfs⟩ := Deep.choose_lt each
    refine ⟨(List.range len).map fun i => (f i).2, ?_, ?_, by simpa using hlen⟩
    · by_cases h0 : len = 0
      · subst h0
        exact .inr (.inl ⟨a, m, rfl, rfl⟩)
      · obtain ⟨b, off, spot⟩ := a
        have hc := (hfs 0 (by omega)).1
        have hspot : spot = none := by simpa [Addr.add] using World.cell?_spot hc
        subst hspot
        refine .inr (.inr ⟨b, off, m, by simp, by simpa using hl, fun i hi => ?_⟩)
        have hi' : i < len := by simpa using hi
        obtain ⟨h1, h2, _⟩ := hfs i hi'
        rw [addr_addP, Nat.mul_one] at h1
        refine ⟨block_lt_of_cell h1, (f i).1, h1, ?_⟩
        rw [show ((List.range len).map fun i => (f i).2).getD i [] = (f i).2 by simp [hi']]
        exact h2
    · intro p hp
      obtain ⟨i, hi, rfl⟩ := List.mem_map.1 hp
      exact (hfs i (List.mem_range.1 hi)).2.2
/-- a proof's five cells -/
theorem proof_cells {H : Type} {enc : TypeId × Value → H} {W : World} {fuel : Nat} {c0 c1 c2 c3 c4 : Value} {x : DataW H × List MemPlace}
    (hf : DataW.trod enc Tryz.prog W 0 (fun _ => true) true fuel 34 [c0, c1, c2, c3, c4] = some x) (hsz : ∀ y ∈ x.1.weights Tryz.prog 34, y ≤ reachBytes) :
    ∃ p : Prf, c0 = .int .i64 p.index ∧ c1 = .int .i64 p.size ∧ Bytes W W.heap.size c2 p.key ∧ Bytes W W.heap.size c3 p.val ∧ Lists W W.heap.size c4 p.path ∧ p.fits := by
  obtain ⟨xs, n', _, hd, _, hlen, hfs⟩ := DataW.trod_struct Tryz.underlying34 hf
  have e1 : Tryz.prog.cellsOf 3 = 1 := by kernel_rfl
  have e3 : Tryz.prog.cellsOf 29 = 1 := by kernel_rfl
  have e4 : Tryz.prog.cellsOf 32 = 1 := by kernel_rfl
  match xs, hlen with
  | [y0, y1, y2, y3, y4], _ =>
    have t0 : DataW.trod enc Tryz.prog W 0 (fun _ => true) true n' 3 [c0] = some y0 := by
      have := hfs 0 _ rfl
      simpa [e1] using this
    have t1 : DataW.trod enc Tryz.prog W 0 (fun _ => true) true n' 3 [c1] = some y1 := by
      have := hfs 1 _ rfl
      simpa [e1] using this
    have t2 : DataW.trod enc Tryz.prog W 0 (fun _ => true) true n' 29 [c2] = some y2 := by
      have := hfs 2 _ rfl
      simpa [e3] using this
    have t3 : DataW.trod enc Tryz.prog W 0 (fun _ => true) true n' 29 [c3] = some y3 := by
      have := hfs 3 _ rfl
      simpa [e3] using this
    have t4 : DataW.trod enc Tryz.prog W 0 (fun _ => true) true n' 32 [c4] = some y4 := by
      have := hfs 4 _ rfl
      simpa [e4] using this
    have hw : ∀ y, y ∈ y2.1.weights Tryz.prog 29 ∨ y ∈ y3.1.weights Tryz.prog 29 ∨ y ∈ y4.1.weights Tryz.prog 32 → y ≤ reachBytes := fun y hy => hsz y (by
      rw [hd]
      simp only [DataW.weights, Tryz.underlying34]
      simp [DataW.weightsEach]
      rcases hy with hy | hy | hy
      · exact .inr (.inr (.inl hy))
      · exact .inr (.inr (.inr (.inl hy)))
      · exact .inr (.inr (.inr (.inr hy))))
    obtain ⟨l2, hb2, hl2⟩ := bytes_cell_sizedP t2 (fun y hy => hw y (.inl hy))
    obtain ⟨l3, hb3, hl3⟩ := bytes_cell_sizedP t3 (fun y hy => hw y (.inr (.inl hy)))
    obtain ⟨l4, hb4, hf4, hl4⟩ := lists_cell_sized t4 (fun y hy => hw y (.inr (.inr hy)))
    obtain ⟨z0, g0, _⟩ := DataW.trod_int Tryz.underlying3 t0
    obtain ⟨z1, g1, _⟩ := DataW.trod_int Tryz.underlying3 t1
    obtain rfl : c0 = .int .i64 z0 := by simpa using g0
    obtain rfl : c1 = .int .i64 z1 := by simpa using g1
    exact ⟨⟨z0, z1, l2, l3, l4⟩, rfl, rfl, hb2, hb3, hb4, hl2, hl3, hl4, hf4⟩
theorem cellsProof : Tryz.prog.cellsOf 34 = 5 := by kernel_rfl
theorem cellsGap : Tryz.prog.cellsOf 36 = 12 := by kernel_rfl
/-- a gap's twelve cells -/
theorem gap_cells {H : Type} {enc : TypeId × Value → H} {W : World} {fuel : Nat} {b0 b1 c0 c1 c2 c3 c4 d0 d1 d2 d3 d4 : Value} {x : DataW H × List MemPlace}
    (hf : DataW.trod enc Tryz.prog W 0 (fun _ => true) true fuel 36 [b0, b1, c0, c1, c2, c3, c4, d0, d1, d2, d3, d4] = some x) (hsz : ∀ y ∈ x.1.weights Tryz.prog 36, y ≤ reachBytes) :
    ∃ g : Gp, GpV W W.heap.size (.agg #[b0, b1, c0, c1, c2, c3, c4, d0, d1, d2, d3, d4]) g ∧ g.fits := by
  obtain ⟨xs, n', _, hd, _, hlen, hfs⟩ := DataW.trod_struct Tryz.underlying36 hf
  have e1 : Tryz.prog.cellsOf 4 = 1 := by kernel_rfl
  match xs, hlen with
  | [y0, y1, y2, y3], _ =>
    have t0 : DataW.trod enc Tryz.prog W 0 (fun _ => true) true n' 4 [b0] = some y0 := by
      have := hfs 0 _ rfl
      simpa [e1] using this
    have t1 : DataW.trod enc Tryz.prog W 0 (fun _ => true) true n' 4 [b1] = some y1 := by
      have := hfs 1 _ rfl
      simpa [e1] using this
    have t2 : DataW.trod enc Tryz.prog W 0 (fun _ => true) true n' 34 [c0, c1, c2, c3, c4] = some y2 := by
      have := hfs 2 _ rfl
      simpa [cellsProof] using this
    have t3 : DataW.trod enc Tryz.prog W 0 (fun _ => true) true n' 34 [d0, d1, d2, d3, d4] = some y3 := by
      have := hfs 3 _ rfl
      simpa [cellsProof] using this
    have hw : ∀ y, y ∈ y2.1.weights Tryz.prog 34 ∨ y ∈ y3.1.weights Tryz.prog 34 → y ≤ reachBytes := fun y hy => hsz y (by
      rw [hd]
      simp only [DataW.weights, Tryz.underlying36]
      simp [DataW.weightsEach]
      rcases hy with hy | hy
      · exact .inr (.inr (.inl hy))
      · exact .inr (.inr (.inr hy)))
    obtain ⟨p, rfl, rfl, h2, h3, h4, h5⟩ := proof_cells t2 (fun y hy => hw y (.inl hy))
    obtain ⟨q, rfl, rfl, k2, k3, k4, k5⟩ := proof_cells t3 (fun y hy => hw y (.inr hy))
    obtain ⟨z0, g0, _⟩ := DataW.trod_bool Tryz.underlying4 t0
    obtain ⟨z1, g1, _⟩ := DataW.trod_bool Tryz.underlying4 t1
    obtain rfl : b0 = .bool z0 := by simpa using g0
    obtain rfl : b1 = .bool z1 := by simpa using g1
    exact ⟨⟨z0, z1, p, q⟩, ⟨c2, c3, c4, d2, d3, d4, rfl, h2, h3, h4, k2, k3, k4⟩, h5, k5⟩
end Go.Proofs.YtclhcjiblfokaaaGreatDoor
namespace Go.Proofs.YtclhcjiblfokaaaGreatDoor
open Go.ChangeShapes Go.WideShapes Go.ChangeAt Go.RowKit

theorem cellsShown : Tryz.prog.cellsOf 38 = 18 := by kernel_rfl
/-- its eighteen cells -/
theorem shown_cells {H : Type} {enc : TypeId × Value → H} {W : World} {fuel : Nat} {a0 c0 c1 c2 c3 c4 b0 b1 d0 d1 d2 d3 d4 e0 e1 e2 e3 e4 : Value} {x : DataW H × List MemPlace}
    (hf : DataW.trod enc Tryz.prog W 0 (fun _ => true) true fuel 38 [a0, c0, c1, c2, c3, c4, b0, b1, d0, d1, d2, d3, d4, e0, e1, e2, e3, e4] = some x) (hsz : ∀ y ∈ x.1.weights Tryz.prog 38, y ≤ reachBytes) :
    ∃ g : Sh, ShV W W.heap.size (.agg #[a0, c0, c1, c2, c3, c4, b0, b1, d0, d1, d2, d3, d4, e0, e1, e2, e3, e4]) g ∧ g.fits := by
  obtain ⟨xs, n', _, hd, _, hlen, hfs⟩ := DataW.trod_struct Tryz.underlying38 hf
  have i1 : Tryz.prog.cellsOf 3 = 1 := by kernel_rfl
  match xs, hlen with
  | [y0, y1, y2], _ =>
    have t0 : DataW.trod enc Tryz.prog W 0 (fun _ => true) true n' 3 [a0] = some y0 := by
      have := hfs 0 _ rfl
      simpa [i1] using this
    have t1 : DataW.trod enc Tryz.prog W 0 (fun _ => true) true n' 34 [c0, c1, c2, c3, c4] = some y1 := by
      have := hfs 1 _ rfl
      simpa [i1, cellsProof] using this
    have t2 : DataW.trod enc Tryz.prog W 0 (fun _ => true) true n' 36 [b0, b1, d0, d1, d2, d3, d4, e0, e1, e2, e3, e4] = some y2 := by
      have := hfs 2 _ rfl
      simpa [i1, cellsProof, cellsGap] using this
    have hw : ∀ y, y ∈ y1.1.weights Tryz.prog 34 ∨ y ∈ y2.1.weights Tryz.prog 36 → y ≤ reachBytes := fun y hy => hsz y (by
      rw [hd]
      simp only [DataW.weights, Tryz.underlying38]
      simp [DataW.weightsEach]
      rcases hy with hy | hy
      · exact .inr (.inl hy)
      · exact .inr (.inr hy))
    obtain ⟨g1, rfl, rfl, h2, h3, h4, h5⟩ := proof_cells t1 (fun y hy => hw y (.inl hy))
    obtain ⟨g2, hg2, k5⟩ := gap_cells t2 (fun y hy => hw y (.inr hy))
    obtain ⟨z0, q0, _⟩ := DataW.trod_int Tryz.underlying3 t0
    obtain rfl : a0 = .int .i64 z0 := by simpa using q0
    have hg2' := hg2
    obtain ⟨k1, v1, p1, k2, v2, p2, eg, -⟩ := hg2
    simp at eg
    obtain ⟨rfl, rfl, rfl, rfl, rfl, rfl, rfl, rfl, rfl, rfl, rfl, rfl⟩ := eg
    exact ⟨⟨z0, g1, g2⟩, ⟨_, _, _, _, _, _, _, _, _, rfl, ⟨_, _, _, rfl, h2, h3, h4⟩, hg2'⟩, h5, k5⟩
set_option maxRecDepth 100000 in
/-- an argument that reads as what is shown -/
theorem shown_read {H : Type} {enc : TypeId × Value → H} {W : World} {base : Nat} {v : Value} {d : DataW H} {p : List MemPlace}
    (hval : Value.okWide Tryz.prog W .any base 38 v) (h : DataW.Trod enc Tryz.prog W 0 (fun _ => true) true 38 v d p) (hsz : ∀ y ∈ d.weights Tryz.prog 38, y ≤ reachBytes) :
    ∃ g : Sh, ShV W W.heap.size v g ∧ g.fits := by
  obtain ⟨cs, rfl, hcs⟩ := okWide_struct Tryz.underlying38 hval
  rw [cellsShown] at hcs
  obtain ⟨l⟩ := cs
  match l, hcs with
  | [a0, c0, c1, c2, c3, c4, b0, b1, d0, d1, d2, d3, d4, e0, e1, e2, e3, e4], _ =>
    obtain ⟨fuel, hf⟩ := h
    exact shown_cells (x := (d, p)) hf hsz
end Go.Proofs.YtclhcjiblfokaaaGreatDoor
namespace Go.Proofs.YtclhcjiblfokaaaGreatDoor
open Go.ChangeShapes Go.WideShapes Go.ChangeAt Go.RowKit

theorem cellsPacket : Tryz.prog.cellsOf 31 = 5 := by kernel_rfl
/-- its five cells -/
theorem packet_cells {H : Type} {enc : TypeId × Value → H} {W : World} {fuel : Nat} {c0 c1 c2 c3 c4 : Value} {x : DataW H × List MemPlace}
    (hf : DataW.trod enc Tryz.prog W 0 (fun _ => true) true fuel 31 [c0, c1, c2, c3, c4] = some x) (hsz : ∀ y ∈ x.1.weights Tryz.prog 31, y ≤ reachBytes) :
    ∃ p : Pk, PkV W W.heap.size (.agg #[c0, c1, c2, c3, c4]) p ∧ p.fits := by
  obtain ⟨xs, n', _, hd, _, hlen, hfs⟩ := DataW.trod_struct Tryz.underlying31 hf
  have e1 : Tryz.prog.cellsOf 3 = 1 := by kernel_rfl
  have e3 : Tryz.prog.cellsOf 29 = 1 := by kernel_rfl
  match xs, hlen with
  | [y0, y1, y2, y3, y4], _ =>
    have t0 : DataW.trod enc Tryz.prog W 0 (fun _ => true) true n' 3 [c0] = some y0 := by
      have := hfs 0 _ rfl
      simpa [e1] using this
    have t1 : DataW.trod enc Tryz.prog W 0 (fun _ => true) true n' 3 [c1] = some y1 := by
      have := hfs 1 _ rfl
      simpa [e1] using this
    have t2 : DataW.trod enc Tryz.prog W 0 (fun _ => true) true n' 3 [c2] = some y2 := by
      have := hfs 2 _ rfl
      simpa [e1] using this
    have t3 : DataW.trod enc Tryz.prog W 0 (fun _ => true) true n' 29 [c3] = some y3 := by
      have := hfs 3 _ rfl
      simpa [e1, e3] using this
    have t4 : DataW.trod enc Tryz.prog W 0 (fun _ => true) true n' 3 [c4] = some y4 := by
      have := hfs 4 _ rfl
      simpa [e1, e3] using this
    have hw : ∀ y, y ∈ y3.1.weights Tryz.prog 29 → y ≤ reachBytes := fun y hy => hsz y (by
      rw [hd]
      simp only [DataW.weights, Tryz.underlying31]
      simp [DataW.weightsEach]
      exact .inr (.inr (.inr (.inl hy))))
    obtain ⟨l3, hb3, hl3⟩ := bytes_cell_sizedP t3 hw
    obtain ⟨z0, g0, _⟩ := DataW.trod_int Tryz.underlying3 t0
    obtain ⟨z1, g1, _⟩ := DataW.trod_int Tryz.underlying3 t1
    obtain ⟨z2, g2, _⟩ := DataW.trod_int Tryz.underlying3 t2
    obtain ⟨z4, g4, _⟩ := DataW.trod_int Tryz.underlying3 t4
    obtain rfl : c0 = .int .i64 z0 := by simpa using g0
    obtain rfl : c1 = .int .i64 z1 := by simpa using g1
    obtain rfl : c2 = .int .i64 z2 := by simpa using g2
    obtain rfl : c4 = .int .i64 z4 := by simpa using g4
    exact ⟨⟨z0, z1, z2, l3, z4⟩, ⟨c3, rfl, hb3⟩, hl3⟩
set_option maxRecDepth 100000 in
/-- an argument that reads as a packet -/
theorem packet_read {H : Type} {enc : TypeId × Value → H} {W : World} {base : Nat} {v : Value} {d : DataW H} {p : List MemPlace}
    (hval : Value.okWide Tryz.prog W .any base 31 v) (h : DataW.Trod enc Tryz.prog W 0 (fun _ => true) true 31 v d p) (hsz : ∀ y ∈ d.weights Tryz.prog 31, y ≤ reachBytes) :
    ∃ g : Pk, PkV W W.heap.size v g ∧ g.fits := by
  obtain ⟨cs, rfl, hcs⟩ := okWide_struct Tryz.underlying31 hval
  rw [cellsPacket] at hcs
  obtain ⟨l⟩ := cs
  match l, hcs with
  | [c0, c1, c2, c3, c4], _ =>
    obtain ⟨fuel, hf⟩ := h
    exact packet_cells (x := (d, p)) hf hsz
end Go.Proofs.YtclhcjiblfokaaaGreatDoor
namespace Go.Proofs.YtclhcjiblfokaaaGreatDoor.packetNumbers
open Go.ChangeShapes Go.WideShapes Go.ChangeAt Go.RowKit

theorem own : ownKnob Tryz.prog.godebug = none := by kernel_rfl
theorem laidOut : laidOutB Tryz.prog = true := by kernel_rfl

set_option maxRecDepth 100000 in
theorem contract (H : Type) (enc : TypeId × Value → H) (W : World) (base : Nat) (args : Array Value) (ds gs : List (DataW H)) (before : List MemPlace)
    (hval : ∀ (j : Nat) t v, Tryz.f5.params[j]? = some t → args[j]? = some v → Value.okWide Tryz.prog W .any base t v)
    (hW : DataW.Whole enc Tryz.prog Tryz.f5.params.toList Rows.packetNumbersSpec.vars false W args.toList ds gs before)
    (hsz0 : (DataW.weightsEach Tryz.prog (Tryz.f5.params.toList ++ (OpenSpec.ofChange Rows.packetNumbersSpec).bare.plain.varTypes Tryz.prog) (ds ++ gs)).all (· ≤ reachBytes) = true)
    (hL : laidMetH Tryz.prog Rows.packetNumbersRow.laid W) :
    Calls Tryz.prog 5 args W fun e W' => ∃ v, e = .returned v ∧ Rows.packetNumbersSpec.post enc Tryz.prog Tryz.f5 false true false false W args v W' := by
  have htab : tableAt W := table_laidZ hL
  have hpow : powAt W := pow_laidZ hL
  have hW' := hW
  obtain ⟨p, q, hA0, hV, rfl, hfz, hnd⟩ := hW
  have hA : DataW.TrodAll enc Tryz.prog W 0 (fun _ => true) true Tryz.f5.params.toList args.toList ds p := hA0
  rw [Tryz.params5] at hA hval hsz0
  obtain ⟨v0, vs0, d0, ds0, p0, q0, hargs0, rfl, rfl, h0, r0⟩ := trodAll_cons hA
  obtain ⟨v1, vs1, d1, ds1, p1, q1, hargs1, rfl, rfl, h1, r1⟩ := trodAll_cons r0
  subst hargs1
  obtain ⟨v2, vs2, d2, ds2, p2, q2, hargs2, rfl, rfl, h2, r2⟩ := trodAll_cons r1
  subst hargs2
  obtain ⟨v3, vs3, d3, ds3, p3, q3, hargs3, rfl, rfl, h3, r3⟩ := trodAll_cons r2
  subst hargs3
  obtain ⟨v4, vs4, d4, ds4, p4, q4, hargs4, rfl, rfl, h4, r4⟩ := trodAll_cons r3
  subst hargs4
  obtain ⟨v5, vs5, d5, ds5, p5, q5, hargs5, rfl, rfl, h5, r5⟩ := trodAll_cons r4
  subst hargs5
  obtain ⟨v6, vs6, d6, ds6, p6, q6, hargs6, rfl, rfl, h6, r6⟩ := trodAll_cons r5
  subst hargs6
  obtain ⟨v7, vs7, d7, ds7, p7, q7, hargs7, rfl, rfl, h7, r7⟩ := trodAll_cons r6
  subst hargs7
  obtain ⟨rfl, rfl, rfl⟩ := trodAll_nil r7
  obtain rfl : args = #[v0, v1, v2, v3, v4, v5, v6, v7] := by cases args; simp_all
  obtain ⟨rfl, rfl⟩ := trodVars_none hV
  have k0 := h0
  have lt0 : ∀ x ∈ p0, x.block < W.heap.size := by obtain ⟨m, hm⟩ := k0; exact DataW.trod_lt m _ _ _ hm
  have hw0 : ∀ y ∈ d0.weights Tryz.prog 28, y ≤ reachBytes := fun y hy => by
    have := List.all_eq_true.1 hsz0 _ (DataW.weights_mem_each (j := 0) (t := 28) rfl rfl y hy)
    simpa using this
  obtain ⟨g0, hg0, hgf0⟩ := state_read (hval 0 28 v0 rfl rfl) h0 hw0
  have k1 := h1
  have lt1 : ∀ x ∈ p1, x.block < W.heap.size := by obtain ⟨m, hm⟩ := k1; exact DataW.trod_lt m _ _ _ hm
  have hw1 : ∀ y ∈ d1.weights Tryz.prog 3, y ≤ reachBytes := fun y hy => by
    have := List.all_eq_true.1 hsz0 _ (DataW.weights_mem_each (j := 1) (t := 3) rfl rfl y hy)
    simpa using this
  obtain ⟨z1, rfl, _, _, _⟩ := open_int Tryz.underlying3 (hval 1 3 v1 rfl rfl) h1
  have k2 := h2
  have lt2 : ∀ x ∈ p2, x.block < W.heap.size := by obtain ⟨m, hm⟩ := k2; exact DataW.trod_lt m _ _ _ hm
  have hw2 : ∀ y ∈ d2.weights Tryz.prog 29, y ≤ reachBytes := fun y hy => by
    have := List.all_eq_true.1 hsz0 _ (DataW.weights_mem_each (j := 2) (t := 29) rfl rfl y hy)
    simpa using this
  obtain ⟨a2, len2, cap2, rfl⟩ := okWide_slice Tryz.underlying29 (hval 2 29 v2 rfl rfl)
  obtain ⟨l2, hby2, hll2⟩ : ∃ l, Bytes W W.heap.size (.slice a2 len2 cap2) l ∧ l.length ≤ 140737488351232 := by
    obtain ⟨fuel, hf⟩ := h2
    exact bytes_cell_sizedP hf hw2
  have k3 := h3
  have lt3 : ∀ x ∈ p3, x.block < W.heap.size := by obtain ⟨m, hm⟩ := k3; exact DataW.trod_lt m _ _ _ hm
  have hw3 : ∀ y ∈ d3.weights Tryz.prog 29, y ≤ reachBytes := fun y hy => by
    have := List.all_eq_true.1 hsz0 _ (DataW.weights_mem_each (j := 3) (t := 29) rfl rfl y hy)
    simpa using this
  obtain ⟨a3, len3, cap3, rfl⟩ := okWide_slice Tryz.underlying29 (hval 3 29 v3 rfl rfl)
  obtain ⟨l3, hby3, hll3⟩ : ∃ l, Bytes W W.heap.size (.slice a3 len3 cap3) l ∧ l.length ≤ 140737488351232 := by
    obtain ⟨fuel, hf⟩ := h3
    exact bytes_cell_sizedP hf hw3
  have k4 := h4
  have lt4 : ∀ x ∈ p4, x.block < W.heap.size := by obtain ⟨m, hm⟩ := k4; exact DataW.trod_lt m _ _ _ hm
  have hw4 : ∀ y ∈ d4.weights Tryz.prog 3, y ≤ reachBytes := fun y hy => by
    have := List.all_eq_true.1 hsz0 _ (DataW.weights_mem_each (j := 4) (t := 3) rfl rfl y hy)
    simpa using this
  obtain ⟨z4, rfl, _, _, _⟩ := open_int Tryz.underlying3 (hval 4 3 v4 rfl rfl) h4
  have k5 := h5
  have lt5 : ∀ x ∈ p5, x.block < W.heap.size := by obtain ⟨m, hm⟩ := k5; exact DataW.trod_lt m _ _ _ hm
  have hw5 : ∀ y ∈ d5.weights Tryz.prog 31, y ≤ reachBytes := fun y hy => by
    have := List.all_eq_true.1 hsz0 _ (DataW.weights_mem_each (j := 5) (t := 31) rfl rfl y hy)
    simpa using this
  obtain ⟨g5, hg5, hgf5⟩ := packet_read (hval 5 31 v5 rfl rfl) h5 hw5
  have k6 := h6
  have lt6 : ∀ x ∈ p6, x.block < W.heap.size := by obtain ⟨m, hm⟩ := k6; exact DataW.trod_lt m _ _ _ hm
  have hw6 : ∀ y ∈ d6.weights Tryz.prog 29, y ≤ reachBytes := fun y hy => by
    have := List.all_eq_true.1 hsz0 _ (DataW.weights_mem_each (j := 6) (t := 29) rfl rfl y hy)
    simpa using this
  obtain ⟨a6, len6, cap6, rfl⟩ := okWide_slice Tryz.underlying29 (hval 6 29 v6 rfl rfl)
  obtain ⟨l6, hby6, hll6⟩ : ∃ l, Bytes W W.heap.size (.slice a6 len6 cap6) l ∧ l.length ≤ 140737488351232 := by
    obtain ⟨fuel, hf⟩ := h6
    exact bytes_cell_sizedP hf hw6
  have k7 := h7
  have lt7 : ∀ x ∈ p7, x.block < W.heap.size := by obtain ⟨m, hm⟩ := k7; exact DataW.trod_lt m _ _ _ hm
  have hw7 : ∀ y ∈ d7.weights Tryz.prog 38, y ≤ reachBytes := fun y hy => by
    have := List.all_eq_true.1 hsz0 _ (DataW.weights_mem_each (j := 7) (t := 38) rfl rfl y hy)
    simpa using this
  obtain ⟨g7, hg7, hgf7⟩ := shown_read (hval 7 38 v7 rfl rfl) h7 hw7
  clear hA0
  refine (packetNumbers_any g0 v0 (.slice a2 len2 cap2) (.slice a3 len3 cap3) v5 (.slice a6 len6 cap6) v7 l2 l3 g5 l6 z1 z4 g7 W.heap.size W hpow htab (Nat.le_refl _) hg0 hby2 hby3 hg5 hby6 hg7 hgf0 hll2 hll3 hll6 hgf7).mono fun e W' ⟨he, bel⟩ => ?_
  subst he
  exact ⟨_, rfl, _, _, _, [], _, [], hW', trodAll_mk1 (shut_bool Tryz.underlying4 _), (trodAll_cons_mk (Below.trod laidOut (by kernel_rfl) (of_decide_eq_true (by kernel_rfl)) k0 bel lt0) (trodAll_cons_mk (Below.trod laidOut (by kernel_rfl) (of_decide_eq_true (by kernel_rfl)) k1 bel lt1) (trodAll_cons_mk (Below.trod laidOut (by kernel_rfl) (of_decide_eq_true (by kernel_rfl)) k2 bel lt2) (trodAll_cons_mk (Below.trod laidOut (by kernel_rfl) (of_decide_eq_true (by kernel_rfl)) k3 bel lt3) (trodAll_cons_mk (Below.trod laidOut (by kernel_rfl) (of_decide_eq_true (by kernel_rfl)) k4 bel lt4) (trodAll_cons_mk (Below.trod laidOut (by kernel_rfl) (of_decide_eq_true (by kernel_rfl)) k5 bel lt5) (trodAll_cons_mk (Below.trod laidOut (by kernel_rfl) (of_decide_eq_true (by kernel_rfl)) k6 bel lt6) (trodAll_cons_mk (Below.trod laidOut (by kernel_rfl) (of_decide_eq_true (by kernel_rfl)) k7 bel lt7) trodAll_mk0)))))))), rfl, bel.frame _, fun h => by cases h⟩

theorem laid_met (os : Os) : laidMet Tryz.prog Rows.packetNumbersRow.laid ((withTablesZ (World.holding Tryz.prog os ⟨#[], #[], []⟩)).forCall (fun _ _ => 0) ⟨#[], #[.agg #[.string ⟨#[]⟩, .int .i64 0, .int .i64 0, .slice none 0 0, .slice none 0 0, .slice none 0 0, .slice none 0 0, .slice none 0 0, .slice none 0 0, .slice none 0 0], .int .i64 0, .slice none 0 0, .slice none 0 0, .int .i64 0, .agg #[.int .i64 0, .int .i64 0, .int .i64 0, .slice none 0 0, .int .i64 0], .slice none 0 0, .agg #[.int .i64 0, .int .i64 0, .int .i64 0, .slice none 0 0, .slice none 0 0, .slice none 0 0, .bool false, .bool false, .int .i64 0, .int .i64 0, .slice none 0 0, .slice none 0 0, .slice none 0 0, .int .i64 0, .int .i64 0, .slice none 0 0, .slice none 0 0, .slice none 0 0]], []⟩).memory :=
  laidMet_of_run' 8 (by kernel_rfl) (by kernel_rfl)
theorem reads (os : Os) {H : Type} (enc : TypeId × Value → H) : ∃ places, DataW.whole enc Tryz.prog ((withTablesZ (World.holding Tryz.prog os ⟨#[], #[], []⟩)).forCall (fun _ _ => 0) ⟨#[], #[.agg #[.string ⟨#[]⟩, .int .i64 0, .int .i64 0, .slice none 0 0, .slice none 0 0, .slice none 0 0, .slice none 0 0, .slice none 0 0, .slice none 0 0, .slice none 0 0], .int .i64 0, .slice none 0 0, .slice none 0 0, .int .i64 0, .agg #[.int .i64 0, .int .i64 0, .int .i64 0, .slice none 0 0, .int .i64 0], .slice none 0 0, .agg #[.int .i64 0, .int .i64 0, .int .i64 0, .slice none 0 0, .slice none 0 0, .slice none 0 0, .bool false, .bool false, .int .i64 0, .int .i64 0, .slice none 0 0, .slice none 0 0, .slice none 0 0, .int .i64 0, .int .i64 0, .slice none 0 0, .slice none 0 0, .slice none 0 0]], []⟩).memory Tryz.f5.params.toList Rows.packetNumbersSpec.vars false #[Value.agg #[.string ⟨#[]⟩, .int .i64 0, .int .i64 0, .slice none 0 0, .slice none 0 0, .slice none 0 0, .slice none 0 0, .slice none 0 0, .slice none 0 0, .slice none 0 0], Value.int .i64 0, Value.slice none 0 0, Value.slice none 0 0, Value.int .i64 0, Value.agg #[.int .i64 0, .int .i64 0, .int .i64 0, .slice none 0 0, .int .i64 0], Value.slice none 0 0, Value.agg #[.int .i64 0, .int .i64 0, .int .i64 0, .slice none 0 0, .slice none 0 0, .slice none 0 0, .bool false, .bool false, .int .i64 0, .int .i64 0, .slice none 0 0, .slice none 0 0, .slice none 0 0, .int .i64 0, .int .i64 0, .slice none 0 0, .slice none 0 0, .slice none 0 0]].toList 8 = some ([.agg [.lit (.string []), .lit (.int .i64 0), .lit (.int .i64 0), .nil, .nil, .nil, .nil, .nil, .nil, .nil], .lit (.int .i64 0), .nil, .nil, .lit (.int .i64 0), .agg [.lit (.int .i64 0), .lit (.int .i64 0), .lit (.int .i64 0), .nil, .lit (.int .i64 0)], .nil, .agg [.lit (.int .i64 0), .agg [.lit (.int .i64 0), .lit (.int .i64 0), .nil, .nil, .nil], .agg [.lit (.bool false), .lit (.bool false), .agg [.lit (.int .i64 0), .lit (.int .i64 0), .nil, .nil, .nil], .agg [.lit (.int .i64 0), .lit (.int .i64 0), .nil, .nil, .nil]]]], [], places) :=
  ⟨[], by kernel_rfl⟩

set_option maxRecDepth 100000 in
theorem lifted (os : Os) (started : os.Started) (H : Type) (enc : TypeId × Value → H) (F : Stop.Interp) :
    ReturnsInHanded {} Tryz.checked os 5 .any ((OpenSpec.ofChange Rows.packetNumbersSpec).preRow enc Tryz.prog Tryz.f5 Rows.packetNumbersRow.domain false Rows.packetNumbersRow.laid) (((OpenSpec.ofChange Rows.packetNumbersSpec).at F).post enc Tryz.prog Tryz.f5 false true false false) := by
  obtain ⟨places, hx⟩ := reads os enc
  refine returnsInHanded_of_row (C := Tryz.checked) (s := OpenSpec.ofChange Rows.packetNumbersSpec) own started (by kernel_rfl) Tryz.func5
    (witness_row_at (enc := enc) (C := Tryz.checked) false (withTablesZ (World.holding Tryz.prog os ⟨#[], #[], []⟩)) #[.agg #[.string ⟨#[]⟩, .int .i64 0, .int .i64 0, .slice none 0 0, .slice none 0 0, .slice none 0 0, .slice none 0 0, .slice none 0 0, .slice none 0 0, .slice none 0 0], .int .i64 0, .slice none 0 0, .slice none 0 0, .int .i64 0, .agg #[.int .i64 0, .int .i64 0, .int .i64 0, .slice none 0 0, .int .i64 0], .slice none 0 0, .agg #[.int .i64 0, .int .i64 0, .int .i64 0, .slice none 0 0, .slice none 0 0, .slice none 0 0, .bool false, .bool false, .int .i64 0, .int .i64 0, .slice none 0 0, .slice none 0 0, .slice none 0 0, .int .i64 0, .int .i64 0, .slice none 0 0, .slice none 0 0, .slice none 0 0]] rfl (by kernel_rfl) (by kernel_rfl) (by kernel_rfl)
      (OpenSpec.preRow_of_cond 8 hx (by kernel_rfl) (fun k hk => by cases hk) (by kernel_rfl) (laid_met os))) ?_
  intro W base args ds gs before hval hW _ _ hsz hL _ _
  exact contract H enc W base args ds gs before hval hW hsz hL

theorem said : Rows.PacketNumbersSaid :=
  OpenClaim.holds_of_cond 5 Tryz.f5 rfl rfl rfl rfl rfl rfl rfl ⟨rfl, rfl, rfl, rfl, rfl⟩ rfl rfl rfl rfl rfl (by kernel_rfl) Tryz.func5 (by kernel_rfl)
    (of_decide_eq_true (by kernel_rfl)) (by unfold Func.isWrapper; first | (rw [if_pos (by decide +kernel)]; kernel_rfl) | (rw [if_neg (by decide +kernel)]; exact ⟨rfl, rfl⟩))
    (fun os started H enc _ F => by rw [OpenClaim.pre_eq_preRow]; exact lifted os started H enc F)

theorem plain (f : FuncId) (fn : Func) (hf : Tryz.pinned.checked.prog.funcNamed "landbridge/landlaw11.PacketNumbers" = some f) (hfn : Tryz.pinned.checked.prog.funcs[f]? = some fn) :
    false = Tryz.pinned.checked.prog.looks [] ∧ ∀ (j : Nat) t, fn.params[j]? = some t → Tryz.pinned.checked.prog.wantsStandIn t = false := by
  obtain rfl : f = 5 := Option.some.inj ((show Tryz.prog.funcNamed "landbridge/landlaw11.PacketNumbers" = some 5 by kernel_rfl).symm.trans hf) |>.symm
  obtain rfl : fn = Tryz.f5 := (Option.some.inj (Tryz.func5.symm.trans hfn)).symm
  refine ⟨by kernel_rfl, fun j t ht => ?_⟩
  rw [Tryz.params5] at ht
  have hm : t = 28 ∨ t = 3 ∨ t = 29 ∨ t = 29 ∨ t = 3 ∨ t = 31 ∨ t = 29 ∨ t = 38 := by simpa using Array.mem_of_getElem? ht
  rcases hm with rfl | rfl | rfl | rfl | rfl | rfl | rfl | rfl
  · exact (show Tryz.prog.wantsStandIn 28 = false by kernel_rfl)
  · exact (show Tryz.prog.wantsStandIn 3 = false by kernel_rfl)
  · exact (show Tryz.prog.wantsStandIn 29 = false by kernel_rfl)
  · exact (show Tryz.prog.wantsStandIn 29 = false by kernel_rfl)
  · exact (show Tryz.prog.wantsStandIn 3 = false by kernel_rfl)
  · exact (show Tryz.prog.wantsStandIn 31 = false by kernel_rfl)
  · exact (show Tryz.prog.wantsStandIn 29 = false by kernel_rfl)
  · exact (show Tryz.prog.wantsStandIn 38 = false by kernel_rfl)
end Go.Proofs.YtclhcjiblfokaaaGreatDoor.packetNumbers
namespace Go.Proofs.YtclhcjiblfokaaaGreatDoor
theorem packetNumbers_card : Rows.PacketNumbersCardSaid :=
  Claim7.holds_tied_plain_at .later [] _ _ _ _ packetNumbers.said (fun _ h => by cases h) (by kernel_rfl) (fun _ h => by cases h) packetNumbers_row_tie rfl ⟨rfl, rfl⟩ (by kernel_rfl) rfl packetNumbers.plain (by kernel_rfl)
end Go.Proofs.YtclhcjiblfokaaaGreatDoor
