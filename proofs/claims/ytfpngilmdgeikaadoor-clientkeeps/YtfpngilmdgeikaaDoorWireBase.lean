/-
  Slices of what reads as bytes: from a place on, up to a place, between two places.
  What cutNumber answers: the number that bytes begin with, and what is behind; it only reads.
  What appendNumber does: a number's bytes, behind what the call owns.
  What Clone and cutPiece answer: new memory that reads as what was handed in; the piece that bytes begin with, and what is behind. Nothing that was there is turned.
  Pieces behind a slice value: three cells each.
  Laws for append where what comes out may pass 2^47 bytes a little: how long it is, that nothing else was turned, and, where it does not pass, what it reads as.
  What the document's Num answers: a number's bytes, in new memory.
  What Read answers: the pieces whose bytes were handed in, in new memory; or which error.
-/
import Derived.Test.YtfpngilmdgeikaaDoorMemB
import Derived.Test.YtfpngilmdgeikaaDoorWireMath
import Derived.OwnWalk
import Derived.Deep.RegionHeld3
import Derived.Deep.RegionWith
import Derived.Laws.Cover3
namespace Go.Proofs.YtfpngilmdgeikaaDoor
open Go.RowKit

theorem elemB : Tryd.prog.underlying 23 = some (.slice (Tryd.prog.elem 23)) := by kernel_rfl
theorem sizeB (w : World) : (sizeOf (Tryd.prog.elem 23)).run Tryd.prog w = .ok 1 w := by kernel_rfl
theorem bytes_between {w : World} {N : Nat} {oa : Option Addr} {n ca : Nat} {l : List (BitVec 8)} (h : Bytes w N (.slice oa n ca) l) (i j : Nat) (hij : i ≤ j) (hj : j ≤ n) : Bytes w N (sliced oa i j ca 1) ((l.drop i).take (j - i)) := by
  obtain ⟨oa', ca', he, hc⟩ := h.shape
  obtain ⟨rfl, hn, rfl⟩ : oa = oa' ∧ n = l.length ∧ ca = ca' := by simpa using he
  subst hn
  by_cases h0 : i = j
  · subst h0
    have e : (l.drop i).take (i - i) = [] := by simp
    rw [e]
    cases oa with
    | none =>
      rcases h with ⟨h1, h2⟩ | ⟨a, cap, h1, _⟩ | ⟨b, off, cap, h1, _, _⟩
      · obtain ⟨h3, rfl⟩ : l.length = 0 ∧ ca = 0 := by simpa using h1
        left
        have : i = 0 := by omega
        subst this
        simp [sliced]
      · simp at h1
      · simp at h1
    | some a =>
      right; left
      refine ⟨if ca = i then a else a.add (i * 1), ca - i, ?_, rfl⟩
      simp only [sliced, Nat.sub_self]
      split <;> simp
  · obtain ⟨b, o, rfl, c1⟩ := h.some (by omega)
    have hne : ¬ ca = i := by omega
    right; right
    refine ⟨b, o + i, ca - i, ?_, ?_, ?_⟩
    · have hl : ((l.drop i).take (j - i)).length = j - i := by simp; omega
      rw [hl]
      simp [sliced, hne, Addr.add]
    · simp; omega
    · intro q hq
      simp at hq
      have := c1 (i + q) (by omega)
      refine ⟨this.1, ?_⟩
      rw [Nat.add_assoc, this.2]
      simp [show q < j - i by omega]
/-- from a place on -/
theorem slice_from {w : World} {N : Nat} {oa : Option Addr} {n ca : Nat} {l : List (BitVec 8)} (h : Bytes w N (.slice oa n ca) l) (kd : IntKind) (i : Nat) (hi : i ≤ n) :
    ∃ v, (∀ w', (Instr.sliceAt 23 (.slice oa n ca) (some (.int kd (i : Int))) none none).run Tryd.prog w' = .ok v w') ∧ Bytes w N v (l.drop i) := by
  have hn : n = l.length := by obtain ⟨oa', ca', he, _⟩ := h.shape; simp at he; exact he.2.1
  refine ⟨sliced oa i n ca 1, fun w' => ?_, ?_⟩
  · rw [run_sliceAt_slice w' _ _ _ _ _ elemB, run_slice_l w' _ _ _ _ elemB kd (i : Int) (by omega) (by omega), sizeB]
    rfl
  · have := bytes_between h i n hi (Nat.le_refl _)
    rwa [List.take_of_length_le (by simp; omega)] at this
/-- up to a place -/
theorem slice_to {w : World} {N : Nat} {oa : Option Addr} {n ca : Nat} {l : List (BitVec 8)} (h : Bytes w N (.slice oa n ca) l) (kd : IntKind) (j : Nat) (hj : j ≤ n) :
    ∃ v, (∀ w', (Instr.sliceAt 23 (.slice oa n ca) none (some (.int kd (j : Int))) none).run Tryd.prog w' = .ok v w') ∧ Bytes w N v (l.take j) := by
  have hc : n ≤ ca := by obtain ⟨oa', ca', he, hc⟩ := h.shape; simp at he; omega
  refine ⟨sliced oa 0 j ca 1, fun w' => ?_, ?_⟩
  · rw [run_sliceAt_slice w' _ _ _ _ _ elemB, run_slice_h w' _ _ _ _ elemB kd (j : Int) (by omega) (by omega), sizeB]
    rfl
  · have := bytes_between h 0 j (Nat.zero_le _) hj
    simpa using this
/-- between two places -/
theorem slice_lh {w : World} {N : Nat} {oa : Option Addr} {n ca : Nat} {l : List (BitVec 8)} (h : Bytes w N (.slice oa n ca) l) (kd ke : IntKind) (i j : Nat) (hij : i ≤ j) (hj : j ≤ n) :
    ∃ v, (∀ w', (Instr.sliceAt 23 (.slice oa n ca) (some (.int kd (i : Int))) (some (.int ke (j : Int))) none).run Tryd.prog w' = .ok v w') ∧ Bytes w N v ((l.drop i).take (j - i)) := by
  have hc : n ≤ ca := by obtain ⟨oa', ca', he, hc⟩ := h.shape; simp at he; omega
  refine ⟨sliced oa i j ca 1, fun w' => ?_, bytes_between h i j hij hj⟩
  rw [run_sliceAt_slice w' _ _ _ _ _ elemB, run_slice_lh w' _ _ _ _ elemB kd ke (i : Int) (j : Int) (by omega) (by omega) (by omega), sizeB]
  rfl
end Go.Proofs.YtfpngilmdgeikaaDoor
namespace Go.Proofs.YtfpngilmdgeikaaDoor
open Go.RowKit

theorem drop_cons (l : List (BitVec 8)) (k : Nat) (h : k < l.length) : l.drop k = l.getD k 0 :: l.drop (k + 1) := by
  rw [List.drop_eq_getElem_cons h]; simp [h]
theorem wrap64 (n : Nat) (h : n < 18446744073709551616) : IntKind.u64.wrap (n : Int) = (n : Int) := by
  simp [IntKind.wrap, IntKind.bits, IntKind.signed]; omega
theorem or_shift (m k : Nat) (x : BitVec 8) (hk : k ≤ 9) (hm : m < 128 ^ k) (h9 : k = 9 → x.toNat ≤ 1) :
    bits .or .u64 (m : Int) (IntKind.u64.wrap (IntKind.u64.wrap (bits .and .u8 (b8 x) 127) * 2 ^ (7 * k))) = ((m + x.toNat % 128 * 128 ^ k : Nat) : Int) ∧ m + x.toNat % 128 * 128 ^ k < 18446744073709551616 := by
  have hx := x.isLt
  have h1 : bits .and .u8 (b8 x) 127 = ((x.toNat % 128 : Nat) : Int) := by
    unfold b8
    rw [show (127 : Int) = ((127 : Nat) : Int) from rfl, u8_and_nat _ _ hx (by omega), nat_mask7]
  have hp : (128 : Nat) ^ k = 2 ^ (7 * k) := by rw [show (128 : Nat) = 2 ^ 7 from rfl, ← Nat.pow_mul]
  have hlt : x.toNat % 128 * 128 ^ k + 128 ^ k ≤ 18446744073709551616 := by
    rw [← Nat.succ_mul]
    by_cases h : k = 9
    · have := h9 h
      subst h
      have h2 : (x.toNat % 128).succ ≤ 2 := by omega
      exact Nat.le_trans (Nat.mul_le_mul_right _ h2) (by decide)
    · have h8 : 128 ^ k ≤ 128 ^ 8 := Nat.pow_le_pow_right (by omega) (by omega)
      exact Nat.le_trans (Nat.mul_le_mul (show (x.toNat % 128).succ ≤ 128 by omega) h8) (by decide)
  have h2 : IntKind.u64.wrap ((x.toNat % 128 : Nat) : Int) = ((x.toNat % 128 : Nat) : Int) := wrap64 _ (by omega)
  have hpos : 0 < 128 ^ k := Nat.pow_pos (by omega)
  have h3 : IntKind.u64.wrap (((x.toNat % 128 : Nat) : Int) * 2 ^ (7 * k)) = ((x.toNat % 128 * 128 ^ k : Nat) : Int) := by
    rw [show ((x.toNat % 128 : Nat) : Int) * 2 ^ (7 * k) = ((x.toNat % 128 * 128 ^ k : Nat) : Int) by rw [hp]; simp]
    exact wrap64 _ (by omega)
  refine ⟨?_, by omega⟩
  rw [h1, h2, h3, u64_or_nat _ _ (by omega) (by omega)]
  have h4 := Nat.two_pow_add_eq_or_of_lt (i := 7 * k) (show m < 2 ^ (7 * k) by rw [← hp]; exact hm) (x.toNat % 128)
  rw [Nat.or_comm, Nat.mul_comm (x.toNat % 128), hp, ← h4, Nat.add_comm]

end Go.Proofs.YtfpngilmdgeikaaDoor
namespace Go.Proofs.YtfpngilmdgeikaaDoor
open Go.RowKit

theorem and_low (k : Nat) (hk : k < 18446744073709551616) : bits .and .u64 (k : Int) 127 = ((k % 128 : Nat) : Int) := by
  rw [show (127 : Int) = ((127 : Nat) : Int) from rfl, u64_and_nat _ _ hk (by omega), nat_mask7]
theorem or_more (k : Nat) (hk : k < 18446744073709551616) : bits .or .u8 (bits .and .u64 (k : Int) 127 % 256) 128 = b8 (BitVec.ofNat 8 (128 + k % 128)) := by
  have h1 : k % 128 < 128 := Nat.mod_lt _ (by omega)
  rw [and_low k hk, show (((k % 128 : Nat) : Int)) % 256 = ((k % 128 : Nat) : Int) by omega, show (128 : Int) = ((128 : Nat) : Int) from rfl, u8_or_nat _ _ (by omega) (by omega), Nat.or_comm]
  have := Nat.two_pow_add_eq_or_of_lt (i := 7) (show k % 128 < 2 ^ 7 by omega) 1
  rw [show (2 : Nat) ^ 7 * 1 = 128 from rfl] at this
  rw [← this]
  unfold b8; simp; omega
set_option maxRecDepth 100000 in
set_option maxHeartbeats 1000000 in
theorem appendNumber_any (n : Nat) (l : List (BitVec 8)) (v : Value) (base : Nat) (w : World) (hn : n < 18446744073709551616) (hb : base ≤ w.heap.size) (hown : OwnB w base v l) (hl : l.length ≤ 1000000) :
    Calls Tryd.prog 100 #[v, .int .u64 (n : Int)] w fun e w' => ∃ v', e = .returned v' ∧ OwnB w' base v' (l ++ numB n) ∧ Below base w w' ∧ Keeps w w' := by
  have HO := hid hown
  clear hown
  go_enter Tryd.func100, Tryd.ntmps100
  go_wp2_with fail
  go_loopw [0, 1] (fun x y wr => ∃ (k : Nat) (m : List (BitVec 8)), y = .int .u64 (k : Int) ∧ k < 18446744073709551616 ∧ Hid (OwnB wr base x m ∧ Below base w wr ∧ l ++ numB n = m ++ numB k ∧ Keeps w wr)) (fun _ y _ => (intOf y).toNat)
  case atStart => exact ⟨n, l, rfl, hn, HO.out, Below.refl _ _, rfl, Keeps.refl _⟩
  case round =>
    obtain ⟨k, m, rfl, hk, HR⟩ := hrel
    have hm : m.length ≤ 1000020 := by
      have h1 := congrArg List.length HR.out.2.2.1
      have h2 := numB_ten n hn
      simp at h1; omega
    have hs : base ≤ wr.heap.size := Nat.le_trans hb HR.out.2.1.size
    by_cases hbig : k < 128
    · have hgt : decide ((127 : Int) < (k : Int)) = false := by simp; omega
      have hy := hid (show (k : Int) = b8 (BitVec.ofNat 8 k) by unfold b8; simp; omega)
      go_wp2_with (at_builtin; refine wpList_append_one rfl (.tmp 16) (.tmp 19) rfl base _ m rfl HR.out.1 _ _ hy.out rfl (by omega) hs ?_; intro v' w1 hown' hbe' hke')
      go_ret
      exact ⟨_, rfl, by rw [HR.out.2.2.1, numB_small hbig]; exact hown', HR.out.2.1.trans hbe', HR.out.2.2.2.trans hke'⟩
    · have hgt : decide ((127 : Int) < (k : Int)) = true := by simp; omega
      have hy : bits .or .u8 (bits .and .u64 (k : Int) 127 % 256) 128 = b8 (BitVec.ofNat 8 (128 + k % 128)) := or_more k hk
      go_wp2_with (at_builtin; refine wpList_append_one rfl (.tmp 7) (.tmp 12) rfl base _ m rfl HR.out.1 _ _ rfl rfl (by omega) hs ?_; intro v' w1 hown' hbe' hke')
      go_roundw
      case rel => exact ⟨k / 128, m ++ [BitVec.ofNat 8 (128 + k % 128)], by go_num, by omega, hown', HR.out.2.1.trans hbe', by rw [HR.out.2.2.1, numB_big (by omega)]; simp, HR.out.2.2.2.trans hke'⟩
      case measure => simp [intOf]; omega
end Go.Proofs.YtfpngilmdgeikaaDoor
namespace Go.Proofs.YtfpngilmdgeikaaDoor
open Go.RowKit

theorem own_none (w : World) : (w.alloc (.cells #[] 5)).ownsRow w.heap.size 5 1 (.slice (some ⟨w.heap.size, 0, none⟩) 0 0) 0 [] :=
  ⟨rfl, .inr ⟨w.heap.size, 0, #[], rfl, Nat.le_refl _, heap_alloc_new w _, Nat.le_refl _, by simp [maxLen], rfl, rfl⟩⟩
set_option maxRecDepth 100000 in
set_option maxHeartbeats 1000000 in
theorem clone_any (l : List (BitVec 8)) (sv : Value) (N : Nat) (w : World) (hb : Bytes w N sv l) (hN : N ≤ w.heap.size) (hlen : l.length ≤ 140737488355328) :
    Calls Tryd.prog 93 #[sv] w fun e w' => ∃ v, e = .returned v ∧ OwnB w' w.heap.size v l ∧ Below w.heap.size w w' := by
  obtain ⟨oa, ca, rfl, hca⟩ := hb.shape
  have HB := hid hb
  clear hb
  have hnil : ∀ (a : Option Addr) (n c : Nat) (w : World), (binOp .eql 23 (.slice a n c) (.slice none 0 0)).run Tryd.prog w = .ok (.bool a.isNone) w := fun a n c w => by
    simp only [binOp]
    simp [run_equal_slice_nil w _ _ a n c elemB]
  cases oa with
  | none =>
    have h0 : l = [] := by
      rcases HB.out with ⟨_, h⟩ | ⟨_, _, h, _⟩ | ⟨_, _, _, h, _⟩
      · exact h
      · simp at h
      · simp at h
    subst h0
    go_enter Tryd.func93, Tryd.ntmps93
    go_wp2
    go_ret
    have hz : ca = 0 := by
      rcases HB.out with ⟨h, _⟩ | ⟨_, _, h, _⟩ | ⟨_, _, _, h, _⟩
      · simp at h; exact h
      · simp at h
      · simp at h
    subst hz
    exact ⟨_, rfl, OwnB.nil _ _, Below.refl _ _⟩
  | some a =>
    have hbe : Below w.heap.size w (w.alloc (.cells #[] 5)) := (Below.refl _ _).alloc (Nat.le_refl _) _
    have HBE := hid hbe
    have HB' := hid (HB.out.below (hbe.mono hN))
    clear hbe
    have HOW := hid (own_none w)
    go_enter Tryd.func93, Tryd.ntmps93
    go_wp2_with (at_builtin; refine wpList_append_bytes rfl (.tmp 5) (.tmp 6) rfl w.heap.size _ 0 [] rfl HOW.out _ l rfl HB'.out ?_ ?_ ?_; (rw [Nat.zero_add]; exact hlen); exact HBE.out.size; intro v' w1 hown' hbe')
    go_ret
    refine ⟨_, rfl, ?_, HBE.out.trans hbe'⟩
    rw [Nat.zero_add, List.nil_append] at hown'
    unfold OwnB
    exact hown'
theorem Row.three {w : World} {g : Nat} {t : TypeId} {a b c : Value} (h : Row w g t [a, b, c]) :
    w.cell? ⟨g, 0, none⟩ = some a ∧ w.cell? ⟨g, 1, none⟩ = some b ∧ w.cell? ⟨g, 2, none⟩ = some c ∧ w.frozen? ⟨g, 0, none⟩ = false ∧ w.frozen? ⟨g, 1, none⟩ = false ∧ w.frozen? ⟨g, 2, none⟩ = false :=
  ⟨h.cell 0, h.cell 1, h.cell 2, h.frozen 0, h.frozen 1, h.frozen 2⟩
theorem Row.set3 {w : World} {g : Nat} {t : TypeId} {a b c : Value} (h : Row w g t [a, b, c]) (x y z : Value) :
    (((w.setCell ⟨g, 0, none⟩ x).setCell ⟨g, 1, none⟩ y).setCell ⟨g, 2, none⟩ z).cell? ⟨g, 0, none⟩ = some x ∧
    (((w.setCell ⟨g, 0, none⟩ x).setCell ⟨g, 1, none⟩ y).setCell ⟨g, 2, none⟩ z).cell? ⟨g, 1, none⟩ = some y ∧
    (((w.setCell ⟨g, 0, none⟩ x).setCell ⟨g, 1, none⟩ y).setCell ⟨g, 2, none⟩ z).cell? ⟨g, 2, none⟩ = some z :=
  have h3 := ((h.set 0 x).set 1 y).set 2 z
  ⟨h3.cell 0, h3.cell 1, h3.cell 2⟩
theorem below_set3 {B : Nat} {a w : World} (h : Below B a w) {g : Nat} (hg : B ≤ g) (x y z : Value) : Below B a (((w.setCell ⟨g, 0, none⟩ x).setCell ⟨g, 1, none⟩ y).setCell ⟨g, 2, none⟩ z) :=
  ((h.setCell hg _).setCell hg _).setCell hg _
theorem drewN_below (w : World) (n N : Nat) : Below N w (w.drewN n) := ⟨rfl, rfl, rfl, Nat.le_refl _, fun _ _ => rfl⟩
/-- what is read in a world that is no more than the old one, with blocks added, is read in the old one -/
theorem Bytes.above {w w' : World} {N : Nat} {sv : Value} {l : List (BitVec 8)} (h : Bytes w' N sv l) (hg : Below w.heap.size w w') (hN : N ≤ w.heap.size) : Bytes w N sv l := by
  rcases h with h | h | ⟨b, off, cap, h1, h2, h3⟩
  · exact .inl h
  · exact .inr (.inl h)
  · refine .inr (.inr ⟨b, off, cap, h1, h2, fun i hi => ⟨(h3 i hi).1, ?_⟩⟩)
    have hb := (h3 i hi).1
    rw [← (h3 i hi).2]
    exact (hg.cell (show b < w.heap.size by omega)).symm
theorem OwnB.set3 {w : World} {base g : Nat} {v : Value} {l : List (BitVec 8)} (h : OwnB w base v l) (hg : g < base) (x y z : Value) : OwnB (((w.setCell ⟨g, 0, none⟩ x).setCell ⟨g, 1, none⟩ y).setCell ⟨g, 2, none⟩ z) base v l :=
  h.keep fun k hk => by
    rw [heap_setCell_other _ _ _ _ (show k ≠ g by omega), heap_setCell_other _ _ _ _ (show k ≠ g by omega), heap_setCell_other _ _ _ _ (show k ≠ g by omega)]
/-- a piece as a value -/
def pcV (p : Pc) (vb : Value) : Value := .agg #[.int .i64 p.k, .int .u64 (p.n : Int), vb]
theorem cutP_nil : cutP [] = none := rfl
theorem cutP_far (x : BitVec 8) (r : List (BitVec 8)) (h : 1 < x.toNat) : cutP (x :: r) = none := by rw [cutP, if_pos h]
theorem cutP_none (x : BitVec 8) (r : List (BitVec 8)) (h : cutN r = none) : cutP (x :: r) = none := by rw [cutP, h]; split <;> rfl
theorem cutP_num (x : BitVec 8) (r r' : List (BitVec 8)) (n : Nat) (h0 : x.toNat = 0) (h : cutN r = some (n, r')) : cutP (x :: r) = some (⟨1, n, []⟩, r') := by rw [cutP, if_neg (by omega), h]; simp [h0]
theorem cutP_bytes (x : BitVec 8) (r r' : List (BitVec 8)) (n : Nat) (h0 : x.toNat = 1) (h : cutN r = some (n, r')) : cutP (x :: r) = if r'.length < n then none else some (⟨2, 0, r'.take n⟩, r'.drop n) := by rw [cutP, if_neg (by omega), h]; simp [h0]

end Go.Proofs.YtfpngilmdgeikaaDoor
namespace Go.Proofs.YtfpngilmdgeikaaDoor
open Go.RowKit

/-- sv is a slice that reads as l, nil, empty or neither; its cells, and its pieces' bytes, lie below block number N -/
def Pieces (w : World) (N : Nat) (sv : Value) (l : List Pc) : Prop :=
  (sv = .slice none 0 0 ∧ l = []) ∨ (∃ a cap, sv = .slice (some a) 0 cap ∧ l = []) ∨
  ∃ b off cap, sv = .slice (some ⟨b, off, none⟩) l.length cap ∧ l.length ≤ cap ∧ ∀ i p, l[i]? = some p → b < N ∧ ∃ vb,
    w.cell? ⟨b, off + i * 3, none⟩ = some (.int .i64 p.k) ∧ w.cell? ⟨b, off + i * 3 + 1, none⟩ = some (.int .u64 (p.n : Int)) ∧ w.cell? ⟨b, off + i * 3 + 2, none⟩ = some vb ∧ Bytes w N vb p.b
theorem Pieces.shape {w : World} {N : Nat} {sv : Value} {l : List Pc} (h : Pieces w N sv l) : ∃ oa cap, sv = .slice oa l.length cap ∧ l.length ≤ cap := by
  rcases h with ⟨rfl, rfl⟩ | ⟨a, cap, rfl, rfl⟩ | ⟨b, off, cap, rfl, hc, _⟩
  · exact ⟨none, 0, rfl, Nat.le_refl _⟩
  · exact ⟨_, cap, rfl, Nat.zero_le _⟩
  · exact ⟨_, cap, rfl, hc⟩
theorem Pieces.some {w : World} {N : Nat} {oa : Option Addr} {n cap : Nat} {l : List Pc} (h : Pieces w N (.slice oa n cap) l) (hl : 0 < n) :
    ∃ b off, oa = some ⟨b, off, none⟩ ∧ ∀ i p, l[i]? = some p → b < N ∧ ∃ vb,
    w.cell? ⟨b, off + i * 3, none⟩ = some (.int .i64 p.k) ∧ w.cell? ⟨b, off + i * 3 + 1, none⟩ = some (.int .u64 (p.n : Int)) ∧ w.cell? ⟨b, off + i * 3 + 2, none⟩ = some vb ∧ Bytes w N vb p.b := by
  rcases h with ⟨h1, _⟩ | ⟨_, _, h1, _⟩ | ⟨b, off, c, h1, _, h3⟩
  · simp at h1; omega
  · simp at h1; omega
  · simp at h1
    exact ⟨b, off, h1.1, h3⟩
theorem Pieces.below {w w' : World} {N : Nat} {sv : Value} {l : List Pc} (h : Pieces w N sv l) (hg : Below N w w') : Pieces w' N sv l := by
  rcases h with h | h | ⟨b, off, cap, h1, h2, h3⟩
  · exact .inl h
  · exact .inr (.inl h)
  · refine .inr (.inr ⟨b, off, cap, h1, h2, fun i p hp => ?_⟩)
    obtain ⟨hb, vb, d0, d1, d2, d3⟩ := h3 i p hp
    exact ⟨hb, vb, (hg.cell hb).trans d0, (hg.cell hb).trans d1, (hg.cell hb).trans d2, d3.below hg⟩
theorem Pieces.mono {w : World} {N M : Nat} {sv : Value} {l : List Pc} (h : Pieces w N sv l) (hN : N ≤ M) : Pieces w M sv l := by
  rcases h with h | h | ⟨b, off, cap, h1, h2, h3⟩
  · exact .inl h
  · exact .inr (.inl h)
  · refine .inr (.inr ⟨b, off, cap, h1, h2, fun i p hp => ?_⟩)
    obtain ⟨hb, vb, d0, d1, d2, d3⟩ := h3 i p hp
    exact ⟨Nat.lt_of_lt_of_le hb hN, vb, d0, d1, d2, d3.mono hN⟩
/-- what bounds a piece's parts: a kind of 64 bits, a number of 64 bits, bytes as many as the reach lets -/
def Pc.fits (p : Pc) : Prop := p.ok ∧ p.b.length ≤ 140737488351232
end Go.Proofs.YtfpngilmdgeikaaDoor
namespace Go.Proofs.YtfpngilmdgeikaaDoor
open Go.RowKit

theorem cap_more {need old : Nat} (h : old < need) (hn : need ≤ 150000000000000) : Builtin.nextslicecap need old * 1 ≤ 281474976710656 := by
  unfold Builtin.nextslicecap
  split
  · omega
  · split
    · omega
    · rw [growBy_four]
      repeat' split
      all_goals omega
theorem below_row {w : World} {base g : Nat} (h : base ≤ g) (c : Array Value) : Below base w (w.setRow g c) :=
  ⟨rfl, rfl, rfl, by simp, fun k hk => setRow_other w g k _ (by omega)⟩
theorem wp_append_over {o : Oper} {a : Act} {w : World} {K : Act → World → Prop} {Q : Exit → Act → World → Prop} (s x : Operand)
    (ho : o.op = .call { callee := .builtin .append, args := #[s, x], argTypes := #[23, 23] })
    (base : Nat) (v : Value) (m : List (BitVec 8)) (hs : a.eval s = v) (hown : OwnB w base v m) (sv : Value) (l : List (BitVec 8)) (hx : a.eval x = sv) {N : Nat} (hb : Bytes w N sv l)
    (hn : m.length ≤ 1000000) (hl : l.length ≤ 140737488355328) (hbase : base ≤ w.heap.size)
    (h : ∀ oa cap w', Below base w w' → Keeps w w' → (m.length + l.length ≤ 140737488355328 → OwnB w' base (.slice oa (m.length + l.length) cap) (m ++ l)) → K (a.put o.dst (.slice oa (m.length + l.length) cap)) w') : o.wp Tryd.prog a w K Q := by
  by_cases hsm : m.length + l.length ≤ 140737488355328
  · refine wp_append_keep s x ho base v m hs hown sv l hx hb hsm hbase ?_
    intro v' w' h1 h2 h3
    obtain ⟨oa, cap, rfl, hc⟩ := h1.shape
    rw [List.length_append] at h1 ⊢
    exact h oa cap w' h2 h3 (fun _ => h1)
  · obtain ⟨i0, hi0, hz0, hz1, hz2⟩ := info_parts info_u8
    rcases bytes_source hb with ⟨rfl, rfl⟩ | ⟨ad, cap, rfl, hsrc⟩
    · exact absurd (show m.length + 0 ≤ 140737488355328 by omega) hsm
    · have hown' := hown
      obtain ⟨hxl, h2⟩ := hown'
      rcases h2 with ⟨rfl, h0⟩ | ⟨g, c, cur, rfl, hbg, hg, hnc, hcm, hcs, htake⟩
      · exact absurd (show m.length + l.length ≤ 140737488355328 by omega) hsm
      · have hlm : (l.map V).length = l.length * i0.size := by rw [hz1]; simp
        have h1 : ∀ u ∈ l.map V, u.oneCell' = true := fun y hy => by obtain ⟨z, _, rfl⟩ := List.mem_map.1 hy; rfl
        by_cases hroom : m.length + l.length ≤ c
        · have hrun := run_append_room (P := Tryd.prog) w 23 o.type 5 i0 Tryd.underlying23 hi0 g m.length c cur hg ad l.length cap (l.map V) hlm hsrc h1 hroom (by rw [hz1, hcs]; simp; omega)
          unfold Oper.wp execOp
          simp only [ho, resolve, invoke, builtin, Sem.run_bind, Sem.run_pure, Result.andThen_ok, List.map_toArray, List.map_cons, List.map_nil, hs, hx, hrun]
          refine h _ _ _ (below_row hbg _) (fun k cs t fr hk ht => setRow_other w g k _ ?_) (fun h => absurd h hsm)
          rintro rfl
          rw [hg] at hk
          simp at hk
          exact ht hk.2.1.symm
        · have hrun := run_append_grow (P := Tryd.prog) w 23 o.type 5 i0 (.int .u8 0) Tryd.underlying23 hi0 hz0 ⟨g, 0, none⟩ m.length c (m.map V) (by rw [hz1]; exact hxl) (World.ownsRow.cells hown (g := g) rfl) ad l.length cap (l.map V) hlm hsrc (by omega) (by omega) (by rw [hz2]; exact cap_more (by omega) (by omega))
          unfold Oper.wp execOp
          simp only [ho, resolve, invoke, builtin, Sem.run_bind, Sem.run_pure, Result.andThen_ok, List.map_toArray, List.map_cons, List.map_nil, hs, hx, hrun]
          refine h _ _ _ ?_ ?_ (fun h => absurd h hsm)
          · exact ⟨rfl, rfl, rfl, by simp, fun k hk => Below.heap_alloc w.drew _ k (by show k < w.heap.size; omega)⟩
          · exact fun k _ _ _ hk _ => Below.heap_alloc w.drew _ k (Array.getElem?_eq_some_iff.1 hk).1
theorem step_append_over {ops : Array Oper} {o : Oper} {a : Act} {w : World} {K : Act → World → Prop} {Q : Exit → Act → World → Prop} {E : Prop} (hgd : o.guard = none) (s x : Operand)
    (ho : o.op = .call { callee := .builtin .append, args := #[s, x], argTypes := #[23, 23] })
    (base : Nat) (v : Value) (m : List (BitVec 8)) (hs : a.eval s = v) (hown : OwnB w base v m) (sv : Value) (l : List (BitVec 8)) (hx : a.eval x = sv) {N : Nat} (hb : Bytes w N sv l)
    (hn : m.length ≤ 1000000) (hl : l.length ≤ 140737488355328) (hbase : base ≤ w.heap.size)
    (h : ∀ oa cap w', Below base w w' → Keeps w w' → (m.length + l.length ≤ 140737488355328 → OwnB w' base (.slice oa (m.length + l.length) cap) (m ++ l)) → K (a.put o.dst (.slice oa (m.length + l.length) cap)) w') :
    if Region.wanted o (yielded ops a.tmps) = true then Oper.wp Tryd.prog o a w K Q else E := by
  have hw : Region.wanted o (yielded ops a.tmps) = true := by simp [Region.wanted, hgd]
  rw [if_pos hw]
  exact wp_append_over s x ho base v m hs hown sv l hx hb hn hl hbase h
end Go.Proofs.YtfpngilmdgeikaaDoor
namespace Go.Proofs.YtfpngilmdgeikaaDoor
open Go.RowKit

set_option maxRecDepth 100000 in
set_option maxHeartbeats 1000000 in
theorem refNum_any (n : Nat) (w : World) (hn : n < 18446744073709551616) :
    Calls Tryd.prog 147 #[.int .u64 (n : Int)] w fun e w' => ∃ v', e = .returned v' ∧ OwnB w' w.heap.size v' (numB n) ∧ Below w.heap.size w w' := by
  go_enter Tryd.func147, Tryd.ntmps147
  go_wp2_with fail
  go_loopw [0, 3] (fun y x wr => ∃ (k : Nat) (m : List (BitVec 8)), y = .int .u64 (k : Int) ∧ k < 18446744073709551616 ∧ Hid (OwnB wr w.heap.size x m ∧ Below w.heap.size w wr ∧ numB n = m ++ numB k)) (fun y _ _ => (intOf y).toNat)
  case atStart => exact ⟨n, [], rfl, hn, OwnB.nil _ _, Below.refl _ _, rfl⟩
  case round =>
    obtain ⟨k, m, rfl, hk, HR⟩ := hrel
    have hm : m.length ≤ 1000020 := by
      have h1 := congrArg List.length HR.out.2.2
      have h2 := numB_ten n hn
      simp at h1; omega
    have hs : w.heap.size ≤ wr.heap.size := HR.out.2.1.size
    by_cases hbig : k < 128
    · have hgt : decide ((127 : Int) < (k : Int)) = false := by simp; omega
      have hy := hid (show (k : Int) = b8 (BitVec.ofNat 8 k) by unfold b8; simp; omega)
      go_wp2_with (at_builtin; refine wpList_append_one rfl (.tmp 15) (.tmp 18) rfl w.heap.size _ m rfl HR.out.1 _ _ hy.out rfl (by omega) hs ?_; intro v' w1 hown' hbe' hke')
      go_ret
      exact ⟨_, rfl, by rw [HR.out.2.2, numB_small hbig]; exact hown', HR.out.2.1.trans hbe'⟩
    · have hgt : decide ((127 : Int) < (k : Int)) = true := by simp; omega
      have hy := hid (show 128 + (k : Int) % 128 = b8 (BitVec.ofNat 8 (128 + k % 128)) by unfold b8; simp; omega)
      go_wp2_with (at_builtin; go_loud (refine wpList_append_one rfl (.tmp 6) (.tmp 11) rfl w.heap.size _ m rfl HR.out.1 _ _ hy.out rfl (by omega) hs ?_); intro v' w1 hown' hbe' hke')
      go_roundw
      case rel => exact ⟨k / 128, m ++ [BitVec.ofNat 8 (128 + k % 128)], by go_num, by omega, hown', HR.out.2.1.trans hbe', by rw [HR.out.2.2, numB_big (by omega)]; simp⟩
      case measure => simp [intOf]; omega
end Go.Proofs.YtfpngilmdgeikaaDoor
namespace Go.Proofs.YtfpngilmdgeikaaDoor
open Go.RowKit

theorem info_piece : (Tryd.prog.info? 91).map (fun i => (i.zero, i.size, i.bytes)) = some (some (.agg #[.int .i64 0, .int .u64 0, .slice none 0 0]), 3, 40) := by kernel_rfl
/-- a piece's cells -/
def pcCells (q : Pc × Value) : List Value := [.int .i64 q.1.k, .int .u64 (q.1.n : Int), q.2]
/-- pieces that a call owns: their row, and each one's bytes -/
def OwnP (w : World) (base : Nat) (v : Value) (ps : List (Pc × Value)) : Prop :=
  w.ownsRow base 91 3 v ps.length (ps.flatMap pcCells) ∧ ∀ q ∈ ps, OwnB w base q.2 q.1.b
theorem OwnP.nil (w : World) (base : Nat) : OwnP w base (.slice none 0 0) [] := ⟨World.ownsRow_nil w base 91 3, fun _ h => by simp at h⟩
theorem ownsRow_below {w w' : World} {base e size n : Nat} {v : Value} {xs : List Value} (h : w.ownsRow base e size v n xs) (hg : Below w.heap.size w w') : w'.ownsRow base e size v n xs := by
  obtain ⟨h1, h2⟩ := h
  refine ⟨h1, ?_⟩
  rcases h2 with h2 | ⟨g, cap, cur, h3, h4, h5, h6⟩
  · exact .inl h2
  · exact .inr ⟨g, cap, cur, h3, h4, (hg.block g (Array.getElem?_eq_some_iff.1 h5).1).trans h5, h6⟩
theorem OwnB.below {w w' : World} {base : Nat} {v : Value} {l : List (BitVec 8)} (h : OwnB w base v l) (hg : Below w.heap.size w w') : OwnB w' base v l := ownsRow_below h hg
theorem OwnP.below {w w' : World} {base : Nat} {v : Value} {ps : List (Pc × Value)} (h : OwnP w base v ps) (hg : Below w.heap.size w w') : OwnP w' base v ps :=
  ⟨ownsRow_below h.1 hg, fun q hq => (h.2 q hq).below hg⟩
theorem OwnP.shape {w : World} {base : Nat} {v : Value} {ps : List (Pc × Value)} (h : OwnP w base v ps) : ∃ oa cap, v = .slice oa ps.length cap ∧ ps.length ≤ cap := by
  obtain ⟨⟨_, h2⟩, _⟩ := h
  rcases h2 with ⟨h3, h4⟩ | ⟨g, cap, cur, h3, _, _, h4, _⟩
  · exact ⟨none, 0, by rw [h4]; exact h3, by omega⟩
  · exact ⟨_, cap, h3, h4⟩
/-- a row of pieces that grows turns no bytes -/
theorem OwnB.grown {w w' : World} {base base' n : Nat} {v vb : Value} {l : List (BitVec 8)} {xs : List Value} (h : OwnB w base vb l) (hv : w.ownsRow base' 91 3 v n xs) (hg : w.grownBy w' v.ownBlock) : OwnB w' base vb l := by
  obtain ⟨h1, h2⟩ := h
  refine ⟨h1, ?_⟩
  rcases h2 with h2 | ⟨g, cap, cur, h3, h4, h5, h6⟩
  · exact .inl h2
  · refine .inr ⟨g, cap, cur, h3, h4, ?_, h6⟩
    rw [hg.block g (Array.getElem?_eq_some_iff.1 h5).1 ?_, h5]
    intro he
    obtain ⟨_, h7⟩ := hv
    rcases h7 with ⟨rfl, _⟩ | ⟨g', c', cur', rfl, _, hg', _⟩
    · simp [Value.ownBlock] at he
    · obtain rfl : g = g' := by simpa [Value.ownBlock] using he
      rw [hg'] at h5
      simp at h5
/-- append of one piece, in a row of its own, onto what is owned -/
theorem wpList_append_piece {ops : Array Oper} {rest : List Oper} {o : Oper} {a : Act} {wr : World} {Q : Exit → Act → World → Prop} (hgd : o.guard = none) (s x : Operand)
    (ho : o.op = .call { callee := .builtin .append, args := #[s, x], argTypes := #[89, 89] })
    (base : Nat) (v : Value) (ps : List (Pc × Value)) (hs : a.eval s = v) (hown : OwnP wr base v ps) (p : Pc) (ob : Option Addr) (cb : Nat) (hp : OwnB wr base (.slice ob p.b.length cb) p.b)
    (hx : a.eval x = .slice (some ⟨wr.heap.size, 0, none⟩) 1 1) (hl : ps.length ≤ 1000000) (hbase : base ≤ wr.heap.size)
    (h : ∀ v' w', OwnP w' base v' (ps ++ [(p, .slice ob p.b.length cb)]) → Below base wr w' → wpList Tryd.prog ops Q rest (a.put o.dst v') w') :
    wpList Tryd.prog ops Q (o :: rest) a (wr.alloc (.cells #[.int .i64 p.k, .int .u64 (p.n : Int), .slice ob p.b.length cb] 91)) := by
  obtain ⟨i0, hi0, hz0, hz1, hz2⟩ := info_parts info_piece
  have hbe : Below wr.heap.size wr (wr.alloc (.cells #[.int .i64 p.k, .int .u64 (p.n : Int), .slice ob p.b.length cb] 91)) := (Below.refl _ _).alloc (Nat.le_refl _) _
  refine wpList_append_own _ hgd s x 89 ho base 91 i0 _ 3 40 Tryd.underlying89 hi0 hz0 hz1 hz2 rfl (by decide) v ps.length (ps.flatMap pcCells) hs (ownsRow_below hown.1 hbe) ⟨wr.heap.size, 0, none⟩ 1 1
    [.int .i64 p.k, .int .u64 (p.n : Int), .slice ob p.b.length cb] hx rfl (cells_new _ _ _) (by simp [Value.oneCell']) (by unfold maxLen; omega) (by omega) (Nat.le_trans hbase hbe.size) ?_
  intro v' w' h1 h2 _
  refine h v' w' ⟨?_, fun q hq => ?_⟩ ((hbe.mono hbase).trans ((Below.refl base _).grown h2 (Nat.le_trans hbase hbe.size) (fun k hk => ((ownsRow_below hown.1 hbe).lt k hk).1)))
  · rw [List.length_append, List.flatMap_append]
    exact h1
  · rcases List.mem_append.1 hq with hq | hq
    · exact ((hown.2 q hq).below hbe).grown (ownsRow_below hown.1 hbe) h2
    · obtain rfl : q = (p, .slice ob p.b.length cb) := by simpa using hq
      exact (hp.below hbe).grown (ownsRow_below hown.1 hbe) h2
theorem flat_get (ps : List (Pc × Value)) : ∀ (i j : Nat) (q : Pc × Value), ps[i]? = some q → j < 3 → (ps.flatMap pcCells)[i * 3 + j]? = (pcCells q)[j]? := by
  induction ps with
  | nil => intro i j q h; simp at h
  | cons a ps ih =>
    intro i j q h hj
    rw [List.flatMap_cons]
    have ha : (pcCells a).length = 3 := rfl
    cases i with
    | zero =>
      obtain rfl : a = q := by simpa using h
      rw [Nat.zero_mul, Nat.zero_add, List.getElem?_append_left (by omega)]
    | succ i =>
      rw [List.getElem?_append_right (by omega), ha, show (i + 1) * 3 + j - 3 = i * 3 + j by omega]
      exact ih i j q (by simpa using h) hj
/-- what is owned reads as pieces -/
theorem OwnP.pieces {w : World} {base : Nat} {v : Value} {ps : List (Pc × Value)} (h : OwnP w base v ps) : Pieces w w.heap.size v (ps.map (·.1)) := by
  obtain ⟨⟨h1, h2⟩, h3⟩ := h
  rcases h2 with ⟨rfl, h0⟩ | ⟨g, cap, cur, rfl, _, hg, hn, _, hc, hx⟩
  · exact .inl ⟨rfl, by rw [List.length_eq_zero_iff.1 h0]; rfl⟩
  · refine .inr (.inr ⟨g, 0, cap, by simp, by simpa using hn, fun i p hp => ?_⟩)
    obtain ⟨q, hq, rfl⟩ : ∃ q, ps[i]? = some q ∧ q.1 = p := by simpa using hp
    refine ⟨(Array.getElem?_eq_some_iff.1 hg).1, q.2, ?_⟩
    have hil : i < ps.length := (List.getElem?_eq_some_iff.1 hq).1
    have cell : ∀ j, j < 3 → w.cell? ⟨g, 0 + i * 3 + j, none⟩ = (pcCells q)[j]? := fun j hj => by
      rw [cell_of_row w g _ cur _ _ hg, ← flat_get ps i j q hq hj, ← hx, List.getElem?_take, if_pos (by omega), Nat.zero_add, Array.getElem?_toList]
    exact ⟨cell 0 (by omega), cell 1 (by omega), cell 2 (by omega), (h3 q (List.mem_of_getElem? hq)).bytes⟩
theorem rdAll_much (b : List (BitVec 8)) (h : 20000 < b.length) : rdAll b = .error 4 := by unfold rdAll; rw [if_pos h]
theorem rdAll_none (b : List (BitVec 8)) (h : ¬ 20000 < b.length) (hc : cutN b = none) : rdAll b = .error 2 := by unfold rdAll; rw [if_neg h, hc]
theorem rdAll_many (b r : List (BitVec 8)) (n : Nat) (h : ¬ 20000 < b.length) (hc : cutN b = some (n, r)) (hn : 200 < n) : rdAll b = .error 2 := by unfold rdAll; rw [if_neg h, hc]; simp only; rw [if_pos hn]
theorem rdAll_go (b r : List (BitVec 8)) (n : Nat) (h : ¬ 20000 < b.length) (hc : cutN b = some (n, r)) (hn : ¬ 200 < n) : rdAll b = match rdGo n [] r with | none => .error 2 | some l => .ok l := by unfold rdAll; rw [if_neg h, hc]; simp only; rw [if_neg hn]; cases rdGo n [] r <;> rfl
theorem rdGo_zero (acc : List Pc) (b : List (BitVec 8)) : rdGo 0 acc b = if b.length = 0 then some acc else none := rfl
theorem rdGo_none (c : Nat) (acc : List Pc) (b : List (BitVec 8)) (hc : 0 < c) (h : cutP b = none) : rdGo c acc b = none := by
  cases c with
  | zero => omega
  | succ c => rw [rdGo, h]
theorem rdGo_step (c d : Nat) (acc : List Pc) (b r : List (BitVec 8)) (p : Pc) (hc : c = d + 1) (h : cutP b = some (p, r)) : rdGo c acc b = rdGo d (acc ++ [p]) r := by
  subst hc
  rw [rdGo, h]

end Go.Proofs.YtfpngilmdgeikaaDoor
