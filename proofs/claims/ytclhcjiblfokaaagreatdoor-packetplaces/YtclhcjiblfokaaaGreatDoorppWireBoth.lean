/-
  Plain mathematics of pieces written as bytes: numbers by sevens of bits, pieces, lists of pieces; what is written is read, in one way alone. No program is named here.
  Slices of what reads as bytes: from a place on, up to a place, between two places. What cutNumber answers: the number that bytes begin with, and what is behind; it only reads. What appendNumber does: a number's bytes, behind what the call owns. What Clone and cutPiece answer: new memory that reads as what was handed in; the piece that bytes begin with, and what is behind. Nothing that was there is turned. Pieces behind a slice value: three cells each. Laws for append where what comes out may pass 2^47 bytes a little: how long it is, that nothing else was turned, and, where it does not pass, what it reads as. What the document's Num answers: a number's bytes, in new memory. What Read answers: the pieces whose bytes were handed in, in new memory; or which error.
  What appendPiece does: a piece's bytes behind what the call owns; or which error. What Write answers: the bytes of pieces, in new memory; or which error, and where. What the document's Write answers: the bytes of pieces, in new memory; or which error, and where.
-/
import Derived.Test.YtclhcjiblfokaaaGreatDoorppMemB
import Derived.OwnWalk
import Derived.Deep.RegionHeld3
import Derived.Deep.RegionWith
import Derived.Laws.Cover3
import Derived.Deep.RegionLaw
import Derived.Deep.RegionHeldLaw
namespace Go.Proofs.YtclhcjiblfokaaaGreatDoor

/-- a number's bytes, in so many at most, and one more -/
def numF : Nat → Nat → List (BitVec 8)
  | 0, n => [BitVec.ofNat 8 n]
  | f + 1, n => if n < 128 then [BitVec.ofNat 8 n] else BitVec.ofNat 8 (128 + n % 128) :: numF f (n / 128)
/-- a number's bytes -/
def numB (n : Nat) : List (BitVec 8) := numF n n
theorem numF_small (f : Nat) {n : Nat} (h : n < 128) : numF f n = [BitVec.ofNat 8 n] := by
  cases f with
  | zero => rfl
  | succ f => rw [numF, if_pos h]
theorem numF_any : ∀ (f f' n : Nat), n ≤ f → n ≤ f' → numF f n = numF f' n := by
  intro f
  induction f with
  | zero => intro f' n h _; rw [numF_small 0 (by omega), numF_small f' (by omega)]
  | succ f ih =>
    intro f' n h h'
    by_cases hs : n < 128
    · rw [numF_small _ hs, numF_small _ hs]
    · cases f' with
      | zero => omega
      | succ f' => rw [numF, numF, if_neg hs, if_neg hs, ih f' (n / 128) (by omega) (by omega)]
theorem numB_small {n : Nat} (h : n < 128) : numB n = [BitVec.ofNat 8 n] := numF_small n h
theorem numB_big {n : Nat} (h : 128 ≤ n) : numB n = BitVec.ofNat 8 (128 + n % 128) :: numB (n / 128) := by
  unfold numB
  obtain ⟨m, rfl⟩ : ∃ m, n = m + 1 := ⟨n - 1, by omega⟩
  rw [numF, if_neg (by omega), numF_any m ((m + 1) / 128) _ (by omega) (Nat.le_refl _)]
theorem numB_length : ∀ (k n : Nat), n < 128 ^ k → 0 < k → (numB n).length ≤ k := by
  intro k
  induction k with
  | zero => intro n _ h; omega
  | succ k ih =>
    intro n h _
    by_cases hs : n < 128
    · rw [numB_small hs]; simp
    · rw [numB_big (by omega)]
      have hk : 0 < k := by
        rcases Nat.eq_zero_or_pos k with rfl | h'
        · simp at h; omega
        · exact h'
      have h2 : n / 128 < 128 ^ k := by
        rw [Nat.pow_succ] at h
        exact Nat.div_lt_of_lt_mul (by rw [Nat.mul_comm]; exact h)
      have := ih (n / 128) h2 hk
      simp; omega
theorem numB_ten (n : Nat) (h : n < 18446744073709551616) : (numB n).length ≤ 10 := numB_length 10 n (by simp; omega) (by omega)




/-- a piece: its kind, its number, its bytes -/
structure Pc where
  k : Int
  n : Nat
  b : List (BitVec 8)
/-- a piece's bytes, if it is of a kind -/
def Pc.wr (p : Pc) : List (BitVec 8) := if p.k = 1 then 0 :: numB p.n else 1 :: (numB p.b.length ++ p.b)
/-- a piece has a number of 64 bits -/
def Pc.ok (p : Pc) : Prop := p.n < 18446744073709551616
/-- the bytes of pieces, from the i-th on, behind what is out; or which error, and where -/
def wrGo (i : Nat) (out : List (BitVec 8)) : List Pc → Except (Int × Nat) (List (BitVec 8))
  | [] => .ok out
  | p :: r => if p.k ≠ 1 ∧ p.k ≠ 2 then .error (1, i) else if 20000 < (out ++ p.wr).length then .error (4, i) else wrGo (i + 1) (out ++ p.wr) r
def wrAll (l : List Pc) : Except (Int × Nat) (List (BitVec 8)) := if 200 < l.length then .error (5, 0) else wrGo 0 (numB l.length) l




/-- all pieces' bytes, one behind the other -/
def wrs (l : List Pc) : List (BitVec 8) := (l.map Pc.wr).flatten
theorem wrGo_of : ∀ (l : List Pc) (i : Nat) (out : List (BitVec 8)), (∀ p ∈ l, p.k = 1 ∨ p.k = 2) → (out ++ wrs l).length ≤ 20000 → wrGo i out l = .ok (out ++ wrs l) := by
  intro l
  induction l with
  | nil => intro i out _ _; simp [wrGo, wrs]
  | cons p r ih =>
    intro i out hk hl
    have e : out ++ wrs (p :: r) = (out ++ p.wr) ++ wrs r := by simp [wrs]
    rw [e] at hl ⊢
    have hp := hk p (by simp)
    rw [wrGo, if_neg (by omega), if_neg (by rw [List.length_append] at hl; omega), ih _ _ (fun q hq => hk q (by simp [hq])) hl]
end Go.Proofs.YtclhcjiblfokaaaGreatDoor
namespace Go.Proofs.YtclhcjiblfokaaaGreatDoor
open Go.RowKit

end Go.Proofs.YtclhcjiblfokaaaGreatDoor
namespace Go.Proofs.YtclhcjiblfokaaaGreatDoor
open Go.RowKit

theorem wrap64 (n : Nat) (h : n < 18446744073709551616) : IntKind.u64.wrap (n : Int) = (n : Int) := by
  simp [IntKind.wrap, IntKind.bits, IntKind.signed]; omega

end Go.Proofs.YtclhcjiblfokaaaGreatDoor
namespace Go.Proofs.YtclhcjiblfokaaaGreatDoor
open Go.RowKit

theorem and_low (k : Nat) (hk : k < 18446744073709551616) : bits .and .u64 (k : Int) 127 = ((k % 128 : Nat) : Int) := by
  rw [show (127 : Int) = ((127 : Nat) : Int) from rfl, u64_and_nat _ _ hk (by omega), nat_mask7]
theorem or_more (k : Nat) (hk : k < 18446744073709551616) : bits .or .u8 (bits .and .u64 (k : Int) 127 % 256) 128 = b8 (BitVec.ofNat 8 (128 + k % 128)) := by
  have h1 : k % 128 < 128 := Nat.mod_lt _ (by omega)
  rw [and_low k hk, show (((k % 128 : Nat) : Int)) % 256 = ((k % 128 : Nat) : Int) by omega, show (128 : Int) = ((128 : Nat) : Int) from rfl, u8_or_nat _ _ (by omega) (by omega), Nat.or_comm]
  have := Nat.two_pow_add_eq_or_of_lt (i := 7) (show k % 128 < 2 ^ 7 by omega) 1
  rw [show (2 : Nat) ^ 7 * 1 = 128 from rfl] at this
  rw [← this]
  unfold b8; simp; omega
set_option maxRecDepth 100000 in
set_option maxHeartbeats 1000000 in
theorem appendNumber_any (n : Nat) (l : List (BitVec 8)) (v : Value) (base : Nat) (w : World) (hn : n < 18446744073709551616) (hb : base ≤ w.heap.size) (hown : OwnB w base v l) (hl : l.length ≤ 1000000) :
    Calls Tryz.prog 74 #[v, .int .u64 (n : Int)] w fun e w' => ∃ v', e = .returned v' ∧ OwnB w' base v' (l ++ numB n) ∧ Below base w w' ∧ Keeps w w' := by
  have HO := hid hown
  clear hown
  go_enter Tryz.func74, Tryz.ntmps74
  go_wp2_with fail
  go_loopw [0, 1] (fun x y wr => ∃ (k : Nat) (m : List (BitVec 8)), y = .int .u64 (k : Int) ∧ k < 18446744073709551616 ∧ Hid (OwnB wr base x m ∧ Below base w wr ∧ l ++ numB n = m ++ numB k ∧ Keeps w wr)) (fun _ y _ => (intOf y).toNat)
  case atStart => exact ⟨n, l, rfl, hn, HO.out, Below.refl _ _, rfl, Keeps.refl _⟩
  case round =>
    obtain ⟨k, m, rfl, hk, HR⟩ := hrel
    have hm : m.length ≤ 1000020 := by
      have h1 := congrArg List.length HR.out.2.2.1
      have h2 := numB_ten n hn
      simp at h1; omega
    have hs : base ≤ wr.heap.size := Nat.le_trans hb HR.out.2.1.size
    by_cases hbig : k < 128
    · have hgt : decide ((127 : Int) < (k : Int)) = false := by simp; omega
      have hy := hid (show (k : Int) = b8 (BitVec.ofNat 8 k) by unfold b8; simp; omega)
      go_wp2_with (at_builtin; refine wpList_append_one rfl (.tmp 16) (.tmp 19) rfl base _ m rfl HR.out.1 _ _ hy.out rfl (by omega) hs ?_; intro v' w1 hown' hbe' hke')
      go_ret
      exact ⟨_, rfl, by rw [HR.out.2.2.1, numB_small hbig]; exact hown', HR.out.2.1.trans hbe', HR.out.2.2.2.trans hke'⟩
    · have hgt : decide ((127 : Int) < (k : Int)) = true := by simp; omega
      have hy : bits .or .u8 (bits .and .u64 (k : Int) 127 % 256) 128 = b8 (BitVec.ofNat 8 (128 + k % 128)) := or_more k hk
      go_wp2_with (at_builtin; refine wpList_append_one rfl (.tmp 7) (.tmp 12) rfl base _ m rfl HR.out.1 _ _ rfl rfl (by omega) hs ?_; intro v' w1 hown' hbe' hke')
      go_roundw
      case rel => exact ⟨k / 128, m ++ [BitVec.ofNat 8 (128 + k % 128)], by go_num, by omega, hown', HR.out.2.1.trans hbe', by rw [HR.out.2.2.1, numB_big (by omega)]; simp, HR.out.2.2.2.trans hke'⟩
      case measure => simp [intOf]; omega
end Go.Proofs.YtclhcjiblfokaaaGreatDoor
namespace Go.Proofs.YtclhcjiblfokaaaGreatDoor
open Go.RowKit

theorem Row.three {w : World} {g : Nat} {t : TypeId} {a b c : Value} (h : Row w g t [a, b, c]) :
    w.cell? ⟨g, 0, none⟩ = some a ∧ w.cell? ⟨g, 1, none⟩ = some b ∧ w.cell? ⟨g, 2, none⟩ = some c ∧ w.frozen? ⟨g, 0, none⟩ = false ∧ w.frozen? ⟨g, 1, none⟩ = false ∧ w.frozen? ⟨g, 2, none⟩ = false :=
  ⟨h.cell 0, h.cell 1, h.cell 2, h.frozen 0, h.frozen 1, h.frozen 2⟩
theorem Row.set3 {w : World} {g : Nat} {t : TypeId} {a b c : Value} (h : Row w g t [a, b, c]) (x y z : Value) :
    (((w.setCell ⟨g, 0, none⟩ x).setCell ⟨g, 1, none⟩ y).setCell ⟨g, 2, none⟩ z).cell? ⟨g, 0, none⟩ = some x ∧
    (((w.setCell ⟨g, 0, none⟩ x).setCell ⟨g, 1, none⟩ y).setCell ⟨g, 2, none⟩ z).cell? ⟨g, 1, none⟩ = some y ∧
    (((w.setCell ⟨g, 0, none⟩ x).setCell ⟨g, 1, none⟩ y).setCell ⟨g, 2, none⟩ z).cell? ⟨g, 2, none⟩ = some z :=
  have h3 := ((h.set 0 x).set 1 y).set 2 z
  ⟨h3.cell 0, h3.cell 1, h3.cell 2⟩
theorem below_set3 {B : Nat} {a w : World} (h : Below B a w) {g : Nat} (hg : B ≤ g) (x y z : Value) : Below B a (((w.setCell ⟨g, 0, none⟩ x).setCell ⟨g, 1, none⟩ y).setCell ⟨g, 2, none⟩ z) :=
  ((h.setCell hg _).setCell hg _).setCell hg _
theorem OwnB.set3 {w : World} {base g : Nat} {v : Value} {l : List (BitVec 8)} (h : OwnB w base v l) (hg : g < base) (x y z : Value) : OwnB (((w.setCell ⟨g, 0, none⟩ x).setCell ⟨g, 1, none⟩ y).setCell ⟨g, 2, none⟩ z) base v l :=
  h.keep fun k hk => by
    rw [heap_setCell_other _ _ _ _ (show k ≠ g by omega), heap_setCell_other _ _ _ _ (show k ≠ g by omega), heap_setCell_other _ _ _ _ (show k ≠ g by omega)]
/-- a piece as a value -/
def pcV (p : Pc) (vb : Value) : Value := .agg #[.int .i64 p.k, .int .u64 (p.n : Int), vb]

end Go.Proofs.YtclhcjiblfokaaaGreatDoor
namespace Go.Proofs.YtclhcjiblfokaaaGreatDoor
open Go.RowKit

/-- sv is a slice that reads as l, nil, empty or neither; its cells, and its pieces' bytes, lie below block number N -/
def Pieces (w : World) (N : Nat) (sv : Value) (l : List Pc) : Prop :=
  (sv = .slice none 0 0 ∧ l = []) ∨ (∃ a cap, sv = .slice (some a) 0 cap ∧ l = []) ∨
  ∃ b off cap, sv = .slice (some ⟨b, off, none⟩) l.length cap ∧ l.length ≤ cap ∧ ∀ i p, l[i]? = some p → b < N ∧ ∃ vb,
    w.cell? ⟨b, off + i * 3, none⟩ = some (.int .i64 p.k) ∧ w.cell? ⟨b, off + i * 3 + 1, none⟩ = some (.int .u64 (p.n : Int)) ∧ w.cell? ⟨b, off + i * 3 + 2, none⟩ = some vb ∧ Bytes w N vb p.b
theorem Pieces.shape {w : World} {N : Nat} {sv : Value} {l : List Pc} (h : Pieces w N sv l) : ∃ oa cap, sv = .slice oa l.length cap ∧ l.length ≤ cap := by
  rcases h with ⟨rfl, rfl⟩ | ⟨a, cap, rfl, rfl⟩ | ⟨b, off, cap, rfl, hc, _⟩
  · exact ⟨none, 0, rfl, Nat.le_refl _⟩
  · exact ⟨_, cap, rfl, Nat.zero_le _⟩
  · exact ⟨_, cap, rfl, hc⟩
theorem Pieces.some {w : World} {N : Nat} {oa : Option Addr} {n cap : Nat} {l : List Pc} (h : Pieces w N (.slice oa n cap) l) (hl : 0 < n) :
    ∃ b off, oa = some ⟨b, off, none⟩ ∧ ∀ i p, l[i]? = some p → b < N ∧ ∃ vb,
    w.cell? ⟨b, off + i * 3, none⟩ = some (.int .i64 p.k) ∧ w.cell? ⟨b, off + i * 3 + 1, none⟩ = some (.int .u64 (p.n : Int)) ∧ w.cell? ⟨b, off + i * 3 + 2, none⟩ = some vb ∧ Bytes w N vb p.b := by
  rcases h with ⟨h1, _⟩ | ⟨_, _, h1, _⟩ | ⟨b, off, c, h1, _, h3⟩
  · simp at h1; omega
  · simp at h1; omega
  · simp at h1
    exact ⟨b, off, h1.1, h3⟩
theorem Pieces.below {w w' : World} {N : Nat} {sv : Value} {l : List Pc} (h : Pieces w N sv l) (hg : Below N w w') : Pieces w' N sv l := by
  rcases h with h | h | ⟨b, off, cap, h1, h2, h3⟩
  · exact .inl h
  · exact .inr (.inl h)
  · refine .inr (.inr ⟨b, off, cap, h1, h2, fun i p hp => ?_⟩)
    obtain ⟨hb, vb, d0, d1, d2, d3⟩ := h3 i p hp
    exact ⟨hb, vb, (hg.cell hb).trans d0, (hg.cell hb).trans d1, (hg.cell hb).trans d2, d3.below hg⟩
theorem Pieces.mono {w : World} {N M : Nat} {sv : Value} {l : List Pc} (h : Pieces w N sv l) (hN : N ≤ M) : Pieces w M sv l := by
  rcases h with h | h | ⟨b, off, cap, h1, h2, h3⟩
  · exact .inl h
  · exact .inr (.inl h)
  · refine .inr (.inr ⟨b, off, cap, h1, h2, fun i p hp => ?_⟩)
    obtain ⟨hb, vb, d0, d1, d2, d3⟩ := h3 i p hp
    exact ⟨Nat.lt_of_lt_of_le hb hN, vb, d0, d1, d2, d3.mono hN⟩
/-- what bounds a piece's parts: a kind of 64 bits, a number of 64 bits, bytes as many as the reach lets -/
def Pc.fits (p : Pc) : Prop := p.ok ∧ p.b.length ≤ 140737488351232
end Go.Proofs.YtclhcjiblfokaaaGreatDoor
namespace Go.Proofs.YtclhcjiblfokaaaGreatDoor
open Go.RowKit

end Go.Proofs.YtclhcjiblfokaaaGreatDoor
namespace Go.Proofs.YtclhcjiblfokaaaGreatDoor
open Go.RowKit

end Go.Proofs.YtclhcjiblfokaaaGreatDoor
namespace Go.Proofs.YtclhcjiblfokaaaGreatDoor
open Go.RowKit

theorem info_piece : (Tryz.prog.info? 71).map (fun i => (i.zero, i.size, i.bytes)) = some (some (.agg #[.int .i64 0, .int .u64 0, .slice none 0 0]), 3, 40) := by kernel_rfl
/-- a piece's cells -/
def pcCells (q : Pc × Value) : List Value := [.int .i64 q.1.k, .int .u64 (q.1.n : Int), q.2]
theorem ownsRow_below {w w' : World} {base e size n : Nat} {v : Value} {xs : List Value} (h : w.ownsRow base e size v n xs) (hg : Below w.heap.size w w') : w'.ownsRow base e size v n xs := by
  obtain ⟨h1, h2⟩ := h
  refine ⟨h1, ?_⟩
  rcases h2 with h2 | ⟨g, cap, cur, h3, h4, h5, h6⟩
  · exact .inl h2
  · exact .inr ⟨g, cap, cur, h3, h4, (hg.block g (Array.getElem?_eq_some_iff.1 h5).1).trans h5, h6⟩
theorem OwnB.below {w w' : World} {base : Nat} {v : Value} {l : List (BitVec 8)} (h : OwnB w base v l) (hg : Below w.heap.size w w') : OwnB w' base v l := ownsRow_below h hg
/-- a row of pieces that grows turns no bytes -/
theorem OwnB.grown {w w' : World} {base base' n : Nat} {v vb : Value} {l : List (BitVec 8)} {xs : List Value} (h : OwnB w base vb l) (hv : w.ownsRow base' 71 3 v n xs) (hg : w.grownBy w' v.ownBlock) : OwnB w' base vb l := by
  obtain ⟨h1, h2⟩ := h
  refine ⟨h1, ?_⟩
  rcases h2 with h2 | ⟨g, cap, cur, h3, h4, h5, h6⟩
  · exact .inl h2
  · refine .inr ⟨g, cap, cur, h3, h4, ?_, h6⟩
    rw [hg.block g (Array.getElem?_eq_some_iff.1 h5).1 ?_, h5]
    intro he
    obtain ⟨_, h7⟩ := hv
    rcases h7 with ⟨rfl, _⟩ | ⟨g', c', cur', rfl, _, hg', _⟩
    · simp [Value.ownBlock] at he
    · obtain rfl : g = g' := by simpa [Value.ownBlock] using he
      rw [hg'] at h5
      simp at h5
theorem flat_get (ps : List (Pc × Value)) : ∀ (i j : Nat) (q : Pc × Value), ps[i]? = some q → j < 3 → (ps.flatMap pcCells)[i * 3 + j]? = (pcCells q)[j]? := by
  induction ps with
  | nil => intro i j q h; simp at h
  | cons a ps ih =>
    intro i j q h hj
    rw [List.flatMap_cons]
    have ha : (pcCells a).length = 3 := rfl
    cases i with
    | zero =>
      obtain rfl : a = q := by simpa using h
      rw [Nat.zero_mul, Nat.zero_add, List.getElem?_append_left (by omega)]
    | succ i =>
      rw [List.getElem?_append_right (by omega), ha, show (i + 1) * 3 + j - 3 = i * 3 + j by omega]
      exact ih i j q (by simpa using h) hj

end Go.Proofs.YtclhcjiblfokaaaGreatDoor
namespace Go.Proofs.YtclhcjiblfokaaaGreatDoor
open Go.RowKit

theorem wrap_sub (n : Nat) (h : n ≤ 1000000) : IntKind.i64.wrap (20000 - (n : Int)) = 20000 - (n : Int) := by simp [IntKind.wrap, IntKind.bits, IntKind.signed]; split <;> omega
set_option maxRecDepth 100000 in
set_option maxHeartbeats 2000000 in
theorem appendPiece_any (p : Pc) (l : List (BitVec 8)) (v vb : Value) (base N : Nat) (w : World) (hb : base ≤ w.heap.size) (hown : OwnB w base v l) (hl : l.length ≤ 20000) (hp : p.ok) (hvb : Bytes w N vb p.b) (hN : N ≤ base) (hpl : p.b.length ≤ 140737488351232) :
    Calls Tryz.prog 75 #[v, pcV p vb] w fun e w' => Below base w w' ∧
      ((¬ (p.k = 1 ∨ p.k = 2) ∧ e = .returned (.tuple #[.slice none 0 0, .int .i64 1])) ∨
       ((p.k = 1 ∨ p.k = 2) ∧ 20000 < (l ++ p.wr).length ∧ e = .returned (.tuple #[.slice none 0 0, .int .i64 4])) ∨
       ((p.k = 1 ∨ p.k = 2) ∧ (l ++ p.wr).length ≤ 20000 ∧ ∃ v', e = .returned (.tuple #[v', .int .i64 0]) ∧ OwnB w' base v' (l ++ p.wr))) := by
  obtain ⟨ob, cb, rfl, hcb⟩ := hvb.shape
  obtain ⟨ov, cv, rfl, hcv⟩ := hown.shape
  obtain ⟨w0, hw0⟩ : ∃ w0, w.alloc (.cells #[.int .i64 p.k, .int .u64 (p.n : Int), .slice ob p.b.length cb] 71) = w0 := ⟨_, rfl⟩
  have hsz0 : w0.heap.size = w.heap.size + 1 := by rw [← hw0]; simp
  have hb0 : Below w.heap.size w w0 := by rw [← hw0]; exact (Below.refl _ _).alloc (Nat.le_refl _) _
  have hrow0 : Row w0 w.heap.size 71 [.int .i64 p.k, .int .u64 (p.n : Int), .slice ob p.b.length cb] := by rw [← hw0]; exact Row.new _ _ _
  obtain ⟨c0, c1, c2, z0, z1, z2⟩ := hrow0.three
  have HO := hid (show OwnB w0 base (.slice ov l.length cv) l by rw [← hw0]; exact hown.alloc _)
  have HVB := hid (hvb.below (hb0.mono (Nat.le_trans hN hb)))
  have HB0 := hid hb0
  have HR0 := hid hrow0
  clear hown hvb hb0 hrow0
  unfold pcV
  by_cases hk1 : p.k = 1
  · have e1 : (p.k == 1) = true := by simp [hk1]
    have HK := hid hk1
    clear hk1
    go_enter Tryz.func75, Tryz.ntmps75
    go_wp2_with fail
    have HA1 := hid (show OwnB (w0.alloc (.cells #[.int .u8 0] 5)).drew base (.slice ov l.length cv) l from HO.out.alloc _)
    have HA2 := hid (show Bytes (w0.alloc (.cells #[.int .u8 0] 5)).drew (w0.heap.size + 1) (.slice (some ⟨w.heap.size + 1, 0, none⟩) 1 1) [0] by rw [← hsz0]; exact (bytes_new w0 [0] 5 (0, 0) 1 (by simp)).drewN 1)
    have HA3 := hid (show l.length + [(0 : BitVec 8)].length ≤ 140737488355328 by simp; omega)
    have HA4 := hid (show base ≤ ((w0.alloc (.cells #[.int .u8 0] 5)).drew).heap.size by show base ≤ (w0.alloc (.cells #[.int .u8 0] 5)).heap.size; simp; omega)
    have HA5 := hid (show Row ((w0.alloc (.cells #[.int .u8 0] 5)).drew) w.heap.size 71 [.int .i64 p.k, .int .u64 (p.n : Int), .slice ob p.b.length cb] from (HR0.out.alloc _))
    obtain ⟨l1, hl1⟩ : ∃ l1, l ++ [0] = l1 := ⟨_, rfl⟩
    obtain ⟨l2, hl2⟩ : ∃ l2, l1 ++ numB p.n = l2 := ⟨_, rfl⟩
    have HL1 := hid hl1
    have HL2 := hid hl2
    have hl1l : l1.length ≤ 1000000 := by rw [← hl1]; simp; omega
    have hl2e : l2 = l ++ p.wr := by rw [← hl2, ← hl1]; simp [Pc.wr, HK.out]
    have hl2l : l2.length ≤ 1000000 := by have := numB_ten p.n hp; rw [← hl2, ← hl1]; simp; omega
    have HE2 := hid hl2e
    have HLL := hid hl1l
    clear hl1 hl2 hl2e hl1l
    go_region_law (first
      | (refine step_append_keep rfl (.tmp 11) (.tmp 12) rfl base (.slice ov l.length cv) l ?_ HA1.out (.slice (some ⟨w.heap.size + 1, 0, none⟩) 1 1) [0] ?_ HA2.out HA3.out HA4.out ?_; rfl; rfl; intro v1 w1 hown1 hbe1 hke1; rw [HL1.out] at hown1; obtain ⟨o1, k1, rfl, hk1⟩ := hown1.shape; have HR1 := hid (hke1.row HA5.out (by decide)); have c1' := HR1.out.cell 1; have HO1 := hid hown1; have HBE1 := hid hbe1; have HKE1 := hid hke1; clear hown1 hbe1 hke1)
      | (go_simp; go_at_call 74; refine (appendNumber_any p.n l1 (.slice o1 l1.length k1) base w1 hp (Nat.le_trans HA4.out HBE1.out.size) HO1.out HLL.out).mono ?_; rintro e w2 ⟨v2, rfl, hown2, hbe2, hke2⟩; rw [HL2.out] at hown2; obtain ⟨o2, k2, rfl, hk2⟩ := hown2.shape; have HO2 := hid hown2; have HBE2 := hid (HBE1.out.trans hbe2); have HKE2 := hid (HKE1.out.trans hke2); clear hown2 hbe2 hke2))
    all_goals
      have hws := wrap_sub l2.length hl2l
      have HBZ := hid ((HB0.out.mono hb).trans ((((Below.refl base w0).alloc (show base ≤ w0.heap.size by omega) (.cells #[.int .u8 0] 5)).drew).trans HBE2.out))
      by_cases hbig : 20000 < l2.length
      · have e3 : decide ((20000 : Int) - (l2.length : Int) < 0) = true := by simp; omega
        go_wp2
        go_ret2
        exact ⟨HBZ.out, .inr (.inl ⟨.inl HK.out, by rw [← HE2.out]; exact hbig, rfl⟩)⟩
      · have e3 : decide ((20000 : Int) - (l2.length : Int) < 0) = false := by simp; omega
        have HF1 := hid (show l2.length + ([] : List (BitVec 8)).length ≤ 140737488355328 by simp; omega)
        have HF2 := hid (show base ≤ w2.heap.size from Nat.le_trans hb HBZ.out.size)
        go_wp2_with (at_builtin; refine wpList_append_keep rfl (.tmp 35) (.tmp 36) rfl base _ l2 rfl HO2.out _ [] rfl (N := 0) (.inl ⟨rfl, rfl⟩) HF1.out HF2.out ?_; intro v3 w3 hown3 hbe3 hke3)
        go_ret2
        exact ⟨HBZ.out.trans hbe3, .inr (.inr ⟨.inl HK.out, by rw [← HE2.out]; omega, _, rfl, by rw [← HE2.out]; simpa using hown3⟩)⟩
  · have e1 : (p.k == 1) = false := by simp [hk1]
    have HK1 := hid hk1
    clear hk1
    by_cases hk2 : p.k = 2
    · have e2 : (p.k == 2) = true := by simp [hk2]
      have HK := hid hk2
      clear hk2
      have hwb : IntKind.u64.wrap (p.b.length : Int) = (p.b.length : Int) := wrap64 _ (by omega)
      go_enter Tryz.func75, Tryz.ntmps75
      go_wp2_with fail
      have HA1 := hid (show OwnB (w0.alloc (.cells #[.int .u8 1] 5)).drew base (.slice ov l.length cv) l from HO.out.alloc _)
      have HA2 := hid (show Bytes (w0.alloc (.cells #[.int .u8 1] 5)).drew (w0.heap.size + 1) (.slice (some ⟨w.heap.size + 1, 0, none⟩) 1 1) [1] by rw [← hsz0]; exact (bytes_new w0 [1] 5 (0, 0) 1 (by simp)).drewN 1)
      have HA3 := hid (show l.length + [(1 : BitVec 8)].length ≤ 140737488355328 by simp; omega)
      have HA4 := hid (show base ≤ ((w0.alloc (.cells #[.int .u8 1] 5)).drew).heap.size by show base ≤ (w0.alloc (.cells #[.int .u8 1] 5)).heap.size; simp; omega)
      have HA5 := hid (show Row ((w0.alloc (.cells #[.int .u8 1] 5)).drew) w.heap.size 71 [.int .i64 p.k, .int .u64 (p.n : Int), .slice ob p.b.length cb] from (HR0.out.alloc _))
      obtain ⟨l1, hl1⟩ : ∃ l1, l ++ [1] = l1 := ⟨_, rfl⟩
      obtain ⟨l2, hl2⟩ : ∃ l2, l1 ++ numB p.b.length = l2 := ⟨_, rfl⟩
      have HL1 := hid hl1
      have HL2 := hid hl2
      have hl1l : l1.length ≤ 1000000 := by rw [← hl1]; simp; omega
      have hl2e : l2 ++ p.b = l ++ p.wr := by rw [← hl2, ← hl1]; simp [Pc.wr, HK.out]
      have hl2l : l2.length ≤ 1000000 := by have := numB_ten p.b.length (by omega); rw [← hl2, ← hl1]; simp; omega
      have HE2 := hid hl2e
      have HLL := hid hl1l
      have HPB := hid (show p.b.length < 18446744073709551616 by omega)
      clear hl1 hl2 hl2e hl1l
      go_region_law (first
        | (refine step_append_keep rfl (.tmp 19) (.tmp 20) rfl base (.slice ov l.length cv) l ?_ HA1.out (.slice (some ⟨w.heap.size + 1, 0, none⟩) 1 1) [1] ?_ HA2.out HA3.out HA4.out ?_; rfl; rfl; intro v1 w1 hown1 hbe1 hke1; rw [HL1.out] at hown1; obtain ⟨o1, k1, rfl, hk1⟩ := hown1.shape; have HR1 := hid (hke1.row HA5.out (by decide)); have c2' := HR1.out.cell 2; have HO1 := hid hown1; have HBE1 := hid hbe1; have HKE1 := hid hke1; clear hown1 hbe1 hke1)
        | (go_simp; go_at_call 74; refine (appendNumber_any p.b.length l1 (.slice o1 l1.length k1) base w1 HPB.out (Nat.le_trans HA4.out HBE1.out.size) HO1.out HLL.out).mono ?_; rintro e w2 ⟨v2, rfl, hown2, hbe2, hke2⟩; rw [HL2.out] at hown2; obtain ⟨o2, k2, rfl, hk2⟩ := hown2.shape; have HO2 := hid hown2; have HBE2 := hid (HBE1.out.trans hbe2); have HR2 := hid (hke2.row HR1.out (by decide)); have c2'' := HR2.out.cell 2; clear hown2 hbe2 hke2))
      all_goals
        have hws := wrap_sub l2.length hl2l
        have HBZ0 := hid (((Below.refl base w0).alloc (show base ≤ w0.heap.size by omega) (.cells #[.int .u8 1] 5)).drew.trans HBE2.out)
        have HBZ := hid ((HB0.out.mono hb).trans HBZ0.out)
        have HVB2 := hid (HVB.out.below (HBZ0.out.mono hN))
        by_cases hbig : 20000 < l2.length + p.b.length
        · have e3 : decide ((20000 : Int) - (l2.length : Int) < (p.b.length : Int)) = true := by simp; omega
          go_wp2
          go_ret2
          exact ⟨HBZ.out, .inr (.inl ⟨.inr HK.out, by rw [← HE2.out, List.length_append]; exact hbig, rfl⟩)⟩
        · have e3 : decide ((20000 : Int) - (l2.length : Int) < (p.b.length : Int)) = false := by simp; omega
          have HF1 := hid (show l2.length + p.b.length ≤ 140737488355328 by omega)
          have HF2 := hid (show base ≤ w2.heap.size from Nat.le_trans hb HBZ.out.size)
          go_wp2_with (at_builtin; refine wpList_append_keep rfl (.tmp 35) (.tmp 36) rfl base _ l2 rfl HO2.out _ p.b rfl HVB2.out HF1.out HF2.out ?_; intro v3 w3 hown3 hbe3 hke3)
          go_ret2
          exact ⟨HBZ.out.trans hbe3, .inr (.inr ⟨.inr HK.out, by rw [← HE2.out, List.length_append]; omega, _, rfl, by rw [← HE2.out]; exact hown3⟩)⟩
    · have e2 : (p.k == 2) = false := by simp [hk2]
      have HK2 := hid hk2
      clear hk2
      go_enter Tryz.func75, Tryz.ntmps75
      go_wp2
      go_ret2
      exact ⟨HB0.out.mono hb, .inl ⟨by rintro (h | h); exact HK1.out h; exact HK2.out h, rfl⟩⟩
end Go.Proofs.YtclhcjiblfokaaaGreatDoor
namespace Go.Proofs.YtclhcjiblfokaaaGreatDoor
open Go.RowKit

theorem wrGo_cons (k : Nat) (m : List (BitVec 8)) (l : List Pc) (p : Pc) (h : l[k]? = some p) : wrGo k m (l.drop k) =
    if p.k ≠ 1 ∧ p.k ≠ 2 then .error (1, k) else if 20000 < (m ++ p.wr).length then .error (4, k) else wrGo (k + 1) (m ++ p.wr) (l.drop (k + 1)) := by
  obtain ⟨hk, he⟩ := List.getElem?_eq_some_iff.1 h
  rw [List.drop_eq_getElem_cons hk, wrGo, he]
theorem OwnB.set2 {w : World} {base g : Nat} {v : Value} {l : List (BitVec 8)} (h : OwnB w base v l) (hg : g < base) (x y : Value) : OwnB ((w.setCell ⟨g, 0, none⟩ x).setCell ⟨g, 1, none⟩ y) base v l :=
  h.keep fun k hk => by rw [heap_setCell_other _ _ _ _ (show k ≠ g by omega), heap_setCell_other _ _ _ _ (show k ≠ g by omega)]

set_option maxRecDepth 100000 in
set_option maxHeartbeats 2000000 in
theorem write_any (l : List Pc) (sv : Value) (N : Nat) (w : World) (hb : Pieces w N sv l) (hN : N ≤ w.heap.size) (hlen : l.length < 2305843009213693952) (hfit : ∀ p ∈ l, p.fits) :
    Calls Tryz.prog 25 #[sv] w fun e w' => Below w.heap.size w w' ∧
      ((∃ x v, wrAll l = .ok x ∧ e = .returned (.tuple #[v, okV]) ∧ OwnB w' w.heap.size v x) ∨
       ∃ c i, wrAll l = .error (c, i) ∧ e = .returned (.tuple #[.slice none 0 0, faultV c i])) := by
  obtain ⟨oa, ca, rfl, hca⟩ := hb.shape
  obtain ⟨w0, hw0⟩ : ∃ w0, w.alloc (.cells #[.int .i64 0, .int .i64 0] 66) = w0 := ⟨_, rfl⟩
  have hsz0 : w0.heap.size = w.heap.size + 1 := by rw [← hw0]; simp
  have hb0 : Below w.heap.size w w0 := by rw [← hw0]; exact (Below.refl _ _).alloc (Nat.le_refl _) _
  have hrow0 : Row w0 w.heap.size 66 [.int .i64 0, .int .i64 0] := by rw [← hw0]; exact Row.new _ _ _
  have HB := hid (hb.below (hb0.mono hN))
  have HB0 := hid hb0
  have HR0 := hid hrow0
  have HFIT := hid hfit
  clear hb hb0 hrow0 hfit
  generalize hn : l.length = n at *
  have HN := hid hn
  clear hn
  by_cases hmany : 200 < n
  · have e1 : decide ((200 : Int) < (n : Int)) = true := by simp; omega
    obtain ⟨c0, c1, z0, z1⟩ := HR0.out.two
    go_enter Tryz.func25, Tryz.ntmps25
    go_wp2
    obtain ⟨d0, d1⟩ := HR0.out.set2 (.int .i64 5) (.int .i64 0)
    refine bodyPost_ret (v := .tuple #[.slice none 0 0, faultV 5 0]) (by simp [results, Tryz.results25, go_sem, d0, d1, faultV]) rfl ⟨?_, .inr ⟨5, 0, by unfold wrAll; rw [HN.out, if_pos hmany], rfl⟩⟩
    exact below_set2 HB0.out (Nat.le_refl _) _ _
  · have e1 : decide ((200 : Int) < (n : Int)) = false := by simp; omega
    have hwn : IntKind.u64.wrap (n : Int) = (n : Int) := wrap64 _ (by omega)
    have HAN := hid (appendNumber_any n [] (.slice none 0 0) w0.heap.size w0 (by omega) (Nat.le_refl _) (OwnB.nil _ _) (by simp))
    go_enter Tryz.func25, Tryz.ntmps25
    go_wp2_with fail
    refine HAN.out.mono ?_
    rintro e w1 ⟨v1, rfl, hown1, hb1, _⟩
    have HS := hid (show OwnB w1 w0.heap.size v1 (numB n) ∧ Below w0.heap.size w0 w1 from ⟨hown1, hb1⟩)
    clear hown1 hb1 HAN hw0
    go_wp2_with fail
    go_loopw [4, 18] (fun y i wr => ∃ (k : Nat) (m : List (BitVec 8)), k ≤ n ∧ m.length ≤ 20000 ∧ i = .int .i64 (k : Int) ∧ Hid (OwnB wr w0.heap.size y m ∧ Below w0.heap.size w0 wr ∧ wrAll l = wrGo k m (l.drop k))) (fun _ i _ => n - (intOf i).toNat)
    case atStart => exact ⟨0, numB n, by omega, by have := numB_ten n (by omega); omega, rfl, HS.out.1, HS.out.2, by unfold wrAll; rw [HN.out, if_neg hmany]; rfl⟩
    case round =>
      obtain ⟨k, m, hk, hm, rfl, HR⟩ := hrel
      obtain ⟨oy, cy, rfl, hcy⟩ := HR.out.1.shape
      by_cases hlt : k < n
      · obtain ⟨p, hp⟩ : ∃ p, l[k]? = some p := ⟨l[k]'(by rw [HN.out]; exact hlt), List.getElem?_eq_getElem _⟩
        obtain ⟨b, o, rfl, hcells⟩ := HB.out.some (by omega)
        obtain ⟨hbN, vb, d0, d1, d2, hvb⟩ := hcells k p hp
        obtain ⟨ob, cb, rfl, hcb⟩ := hvb.shape
        have hbl : b < w0.heap.size := by omega
        have f0 := (HR.out.2.1.cell (p := ⟨b, o + k * 3, none⟩) hbl).trans d0
        have f1 := (HR.out.2.1.cell (p := ⟨b, o + k * 3 + 1, none⟩) hbl).trans d1
        have f2 := (HR.out.2.1.cell (p := ⟨b, o + k * 3 + 2, none⟩) hbl).trans d2
        have hszr := HR.out.2.1.size
        have hfp := HFIT.out p (List.mem_of_getElem? hp)
        have HVB := hid (hvb.below (HR.out.2.1.mono (show N ≤ w0.heap.size by omega)))
        have HWG := hid (wrGo_cons k m l p hp)
        obtain ⟨w2, hw2⟩ : ∃ w2, wr.alloc (.cells #[.int .i64 p.k, .int .u64 (p.n : Int), .slice ob p.b.length cb] 71) = w2 := ⟨_, rfl⟩
        have hb2 : Below w0.heap.size wr w2 := by rw [← hw2]; exact (Below.refl _ _).alloc hszr _
        have hown2 : OwnB w2 w0.heap.size (.slice oy m.length cy) m := by rw [← hw2]; exact HR.out.1.alloc _
        have HAP := hid (appendPiece_any p m (.slice oy m.length cy) (.slice ob p.b.length cb) w0.heap.size N w2 (Nat.le_trans hszr hb2.size) hown2 hm hfp.1 (HVB.out.below (hb2.mono (by omega))) (by omega) hfp.2)
        have HB2 := hid (HR.out.2.1.trans hb2)
        have HW2 := hid hw2
        unfold pcV at HAP
        clear d0 d1 d2 hvb hcells hb2 hown2 hfp hp hw2
        have hlt' : (k : Int) < (n : Int) := by omega
        go_wp2_with fail
        rw [HW2.out]
        refine HAP.out.mono ?_
        rintro e w3 ⟨hb3, ⟨hkk, rfl⟩ | ⟨hkk, hbig, rfl⟩ | ⟨hkk, hsm, v', rfl, hown3⟩⟩
        · have HB3 := hid (HB2.out.trans hb3)
          have HR3 := hid (HR0.out.below HB3.out (by omega))
          obtain ⟨c0, c1, z0, z1⟩ := HR3.out.two
          go_wp2
          obtain ⟨d0, d1⟩ := HR3.out.set2 (.int .i64 1) (.int .i64 (k : Int))
          refine bodyPost_ret (v := .tuple #[.slice none 0 0, faultV 1 k]) (by simp [results, Tryz.results25, go_sem, d0, d1, faultV]) rfl ⟨?_, .inr ⟨1, k, by rw [HR.out.2.2, HWG.out, if_pos (by omega)], rfl⟩⟩
          exact below_set2 (HB0.out.trans (HB3.out.mono (by omega))) (Nat.le_refl _) _ _
        · have HB3 := hid (HB2.out.trans hb3)
          have HR3 := hid (HR0.out.below HB3.out (by omega))
          obtain ⟨c0, c1, z0, z1⟩ := HR3.out.two
          have HBIG := hid hbig
          clear hbig
          go_wp2
          obtain ⟨d0, d1⟩ := HR3.out.set2 (.int .i64 4) (.int .i64 (k : Int))
          refine bodyPost_ret (v := .tuple #[.slice none 0 0, faultV 4 k]) (by simp [results, Tryz.results25, go_sem, d0, d1, faultV]) rfl ⟨?_, .inr ⟨4, k, by rw [HR.out.2.2, HWG.out, if_neg (by omega), if_pos HBIG.out], rfl⟩⟩
          exact below_set2 (HB0.out.trans (HB3.out.mono (by omega))) (Nat.le_refl _) _ _
        · have HB3 := hid (HB2.out.trans hb3)
          have HO3 := hid hown3
          have HSM := hid hsm
          clear hown3 hb3 hsm
          go_wp2_with fail
          refine ⟨⟨k + 1, m ++ p.wr, by omega, HSM.out, by go_num, HO3.out, HB3.out, ?_⟩, by simp [intOf]; omega⟩
          rw [HR.out.2.2, HWG.out, if_neg (by omega), if_neg (by have := HSM.out; omega)]
      · have hge : decide ((k : Int) < (n : Int)) = false := by simp; omega
        have HR3 := hid (HR0.out.below HR.out.2.1 (by omega))
        obtain ⟨c0, c1, z0, z1⟩ := HR3.out.two
        go_wp2
        obtain ⟨d0, d1⟩ := HR3.out.set2 (.int .i64 0) (.int .i64 0)
        refine bodyPost_ret (v := .tuple #[.slice oy m.length cy, okV]) (by simp [results, Tryz.results25, go_sem, d0, d1, okV]) rfl ⟨?_, .inl ⟨m, _, by rw [HR.out.2.2, List.drop_eq_nil_of_le (by rw [HN.out]; omega), wrGo], rfl, ?_⟩⟩
        · exact below_set2 (HB0.out.trans (HR.out.2.1.mono (by omega))) (Nat.le_refl _) _ _
        · exact (OwnB.set2 HR.out.1 (show w.heap.size < w0.heap.size by omega) _ _).mono (by omega)
end Go.Proofs.YtclhcjiblfokaaaGreatDoor
namespace Go.Proofs.YtclhcjiblfokaaaGreatDoor
open Go.RowKit

end Go.Proofs.YtclhcjiblfokaaaGreatDoor
