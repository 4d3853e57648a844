/-
  Proofs and gaps as values: what their cells read as. No function of the program is named here.
-/
import Derived.Test.YtjfhhlgblmjonaaDoorProofMath
import Derived.Test.YtjfhhlgblmjonaaDoorMemB
namespace Go.Proofs.YtjfhhlgblmjonaaDoor
open Go.RowKit

/-- a call answers whether something is so -/
def Tells (P : Prop) (e : Ending) : Prop := ∃ bb, e = .returned (.bool bb) ∧ (bb = true ↔ P)
theorem Tells.yes {P : Prop} (h : P) : Tells P (.returned (.bool true)) := ⟨true, rfl, fun _ => h, fun _ => rfl⟩
theorem Tells.no {P : Prop} (h : ¬ P) : Tells P (.returned (.bool false)) := ⟨false, rfl, (fun e => absurd e (by decide)), fun e => absurd e h⟩
theorem Lists.mono {w : World} {N M : Nat} {sv : Value} {ls : List (List (BitVec 8))} (h : Lists w N sv ls) (hN : N ≤ M) : Lists w M sv ls := by
  rcases h with h | h | ⟨b, off, cap, h1, h2, h3⟩
  · exact .inl h
  · exact .inr (.inl h)
  · refine .inr (.inr ⟨b, off, cap, h1, h2, fun i hi => ?_⟩)
    obtain ⟨hb, x, hx, hbx⟩ := h3 i hi
    exact ⟨Nat.lt_of_lt_of_le hb hN, x, hx, hbx.mono hN⟩
/-- v reads as the proof p, in blocks below N -/
def PrfV (w : World) (N : Nat) (v : Value) (p : Prf) : Prop := ∃ kv vv pv, v = .agg #[.int .i64 p.index, .int .i64 p.size, kv, vv, pv] ∧ Bytes w N kv p.key ∧ Bytes w N vv p.val ∧ Lists w N pv p.path
theorem PrfV.below {w w' : World} {N : Nat} {v : Value} {p : Prf} (h : PrfV w N v p) (hg : Below N w w') : PrfV w' N v p := by
  obtain ⟨kv, vv, pv, rfl, h1, h2, h3⟩ := h
  exact ⟨kv, vv, pv, rfl, h1.below hg, h2.below hg, h3.below hg⟩
theorem PrfV.mono {w : World} {N M : Nat} {v : Value} {p : Prf} (h : PrfV w N v p) (hN : N ≤ M) : PrfV w M v p := by
  obtain ⟨kv, vv, pv, rfl, h1, h2, h3⟩ := h
  exact ⟨kv, vv, pv, rfl, h1.mono hN, h2.mono hN, h3.mono hN⟩
/-- as many bytes as the reach lets -/
def Prf.fits (p : Prf) : Prop := p.key.length ≤ 140737488351232 ∧ p.val.length ≤ 140737488351232 ∧ p.path.length < 2305843009213693952 ∧ ∀ d ∈ p.path, d.length ≤ 140737488351232
/-- v reads as the gap g -/
def GpV (w : World) (N : Nat) (v : Value) (g : Gp) : Prop := ∃ k1 v1 p1 k2 v2 p2, v = .agg #[.bool g.hasL, .bool g.hasR, .int .i64 g.left.index, .int .i64 g.left.size, k1, v1, p1, .int .i64 g.right.index, .int .i64 g.right.size, k2, v2, p2] ∧
  Bytes w N k1 g.left.key ∧ Bytes w N v1 g.left.val ∧ Lists w N p1 g.left.path ∧ Bytes w N k2 g.right.key ∧ Bytes w N v2 g.right.val ∧ Lists w N p2 g.right.path
theorem GpV.below {w w' : World} {N : Nat} {v : Value} {g : Gp} (h : GpV w N v g) (hg : Below N w w') : GpV w' N v g := by
  obtain ⟨k1, v1, p1, k2, v2, p2, rfl, h1, h2, h3, h4, h5, h6⟩ := h
  exact ⟨k1, v1, p1, k2, v2, p2, rfl, h1.below hg, h2.below hg, h3.below hg, h4.below hg, h5.below hg, h6.below hg⟩
theorem GpV.mono {w : World} {N M : Nat} {v : Value} {g : Gp} (h : GpV w N v g) (hN : N ≤ M) : GpV w M v g := by
  obtain ⟨k1, v1, p1, k2, v2, p2, rfl, h1, h2, h3, h4, h5, h6⟩ := h
  exact ⟨k1, v1, p1, k2, v2, p2, rfl, h1.mono hN, h2.mono hN, h3.mono hN, h4.mono hN, h5.mono hN, h6.mono hN⟩
def Gp.fits (g : Gp) : Prop := g.left.fits ∧ g.right.fits
/-- what is reckoned from the lowest k sides -/
def upK (ws : List Tn) (path : List (List (BitVec 8))) (k : Nat) (x : List (BitVec 8)) : List (BitVec 8) := upD (ws.drop (ws.length - k)) (path.take k).reverse x
theorem upK_zero (ws : List Tn) (path : List (List (BitVec 8))) (x : List (BitVec 8)) : upK ws path 0 x = x := by
  unfold upK
  rw [Nat.sub_zero, List.drop_length, List.take_zero, List.reverse_nil, upD]
  simp
theorem upK_succ (ws : List Tn) (path : List (List (BitVec 8))) (k : Nat) (x : List (BitVec 8)) (t : Tn) (d : List (BitVec 8)) (ht : ws[ws.length - 1 - k]? = some t) (hk : k < ws.length) (hd : path[k]? = some d) :
    upK ws path (k + 1) x = if t.right = true then nodeD d (upK ws path k x) else nodeD (upK ws path k x) d := by
  obtain ⟨h1, rfl⟩ := List.getElem?_eq_some_iff.1 ht
  obtain ⟨h2, rfl⟩ := List.getElem?_eq_some_iff.1 hd
  unfold upK
  rw [show ws.length - (k + 1) = ws.length - 1 - k by omega, List.drop_eq_getElem_cons h1, show ws.length - 1 - k + 1 = ws.length - k by omega, List.take_succ_eq_append_getElem h2, List.reverse_append, List.reverse_singleton, List.singleton_append, upD]
theorem upK_all (ws : List Tn) (path : List (List (BitVec 8))) (x : List (BitVec 8)) (h : path.length = ws.length) : upK ws path ws.length x = upD ws path.reverse x := by
  unfold upK
  rw [Nat.sub_self, List.drop_zero, List.take_of_length_le (by omega)]
theorem upK_len (ws : List Tn) (path : List (List (BitVec 8))) (k : Nat) (x : List (BitVec 8)) (hx : x.length = 32) : (upK ws path k x).length = 32 := upD_len _ _ _ hx
end Go.Proofs.YtjfhhlgblmjonaaDoor
