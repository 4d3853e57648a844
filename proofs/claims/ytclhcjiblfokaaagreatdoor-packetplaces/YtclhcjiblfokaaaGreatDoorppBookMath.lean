/-
  Plain mathematics of books: bytes in order, pairs by their keys, doings, and what stands under a key; a book knows no past. No program is named here. What a key's place in a book says: what stands under it, what dropping it, and setting it, makes. No program is named here.
  Plain mathematics of proofs: the way from the root of a tree to a place, what stands on its other sides, what is reckoned from a leaf upwards; where two reckonings meet, what is beneath is the same, or two lists of bytes have one digest. No program is named here.
  Proofs and gaps as values: what their cells read as. No function of the program is named here.
  Plain mathematics of what a proof's digests are of: layers from the root down to the pair. Where two proofs of one root part first, two lists of bytes have one digest. No program is named here.
  What math/bits.Len of small numbers, and package book's split, answer.
  What the document's Join and Four answer: bytes one behind the other, in new memory; a number in four bytes.
-/
import Derived.Test.YtclhcjiblfokaaaGreatDoorppMemB
import Derived.Lib.Walk
import Derived.Lib.BitFns
namespace Go.Proofs.YtclhcjiblfokaaaGreatDoor

/-- bytes in order: byte by byte; one that begins another one is less -/
def lessB : List (BitVec 8) → List (BitVec 8) → Bool
  | [], [] => false
  | [], _ :: _ => true
  | _ :: _, [] => false
  | x :: a, y :: b => if x = y then lessB a b else decide (x.toNat < y.toNat)

/-- a pair of a book -/
structure Pr where
  key : List (BitVec 8)
  val : List (BitVec 8)
/-- a doing with a book -/
structure Dg where
  key : List (BitVec 8)
  val : List (BitVec 8)
  gone : Bool
/-- those ahead of a key, and the others -/
def ahead (k : List (BitVec 8)) : List Pr → List Pr
  | [] => []
  | p :: r => if lessB p.key k = true then p :: ahead k r else []
def behind (k : List (BitVec 8)) : List Pr → List Pr
  | [] => []
  | p :: r => if lessB p.key k = true then behind k r else p :: r



/-- a number in four bytes, the high one first -/
def fourB (n : Nat) : List (BitVec 8) := [BitVec.ofNat 8 (n / 16777216 % 256), BitVec.ofNat 8 (n / 65536 % 256), BitVec.ofNat 8 (n / 256 % 256), BitVec.ofNat 8 (n % 256)]
def leafD (k v : List (BitVec 8)) : List (BitVec 8) := sha (0 :: (fourB k.length ++ (k ++ v)))
def nodeD (a b : List (BitVec 8)) : List (BitVec 8) := sha (1 :: (a ++ b))
def topD (n : Nat) (t : List (BitVec 8)) : List (BitVec 8) := sha (2 :: (fourB n ++ t))
/-- the greatest power of two below n, from k on, in so many steps at most -/
def halfF : Nat → Nat → Nat → Nat
  | 0, k, _ => k
  | f + 1, k, n => if n ≤ 2 * k ∨ k = 0 then k else halfF f (2 * k) n
def halfGo (k n : Nat) : Nat := halfF (n - k) k n
theorem halfF_stop (f : Nat) {k n : Nat} (h : n ≤ 2 * k ∨ k = 0) : halfF f k n = k := by
  cases f with
  | zero => rfl
  | succ f => rw [halfF, if_pos h]
theorem halfF_any : ∀ (f f' k n : Nat), n - k ≤ f → n - k ≤ f' → halfF f k n = halfF f' k n := by
  intro f
  induction f with
  | zero => intro f' k n h _; rw [halfF_stop 0 (.inl (by omega)), halfF_stop f' (.inl (by omega))]
  | succ f ih =>
    intro f' k n h h'
    by_cases hs : n ≤ 2 * k ∨ k = 0
    · rw [halfF_stop _ hs, halfF_stop _ hs]
    · cases f' with
      | zero => omega
      | succ f' => rw [halfF, halfF, if_neg hs, if_neg hs, ih f' (2 * k) n (by omega) (by omega)]
theorem halfGo_eq (k n : Nat) : halfGo k n = if n ≤ 2 * k ∨ k = 0 then k else halfGo (2 * k) n := by
  unfold halfGo
  split
  · rename_i h
    exact halfF_stop _ h
  · rename_i h
    obtain ⟨m, hm⟩ : ∃ m, n - k = m + 1 := ⟨n - k - 1, by omega⟩
    rw [hm, halfF, if_neg h]
    exact halfF_any _ _ _ _ (by omega) (Nat.le_refl _)
def halfN (n : Nat) : Nat := halfGo 1 n
theorem halfGo_lt (k n : Nat) (hk : 0 < k) (h : k < n) : 0 < halfGo k n ∧ halfGo k n < n := by
  induction hd : n - k using Nat.strongRecOn generalizing k with
  | _ d ih =>
    rw [halfGo_eq]
    split
    · exact ⟨hk, h⟩
    · exact ih (n - 2 * k) (by omega) (2 * k) (by omega) (by omega) rfl
theorem halfN_lt (n : Nat) (h : 2 ≤ n) : 0 < halfN n ∧ halfN n < n := halfGo_lt 1 n (by omega) (by omega)
end Go.Proofs.YtclhcjiblfokaaaGreatDoor
namespace Go.Proofs.YtclhcjiblfokaaaGreatDoor

/-- where a key stands, or would; whether it does -/
def At (k : List (BitVec 8)) (l : List Pr) (i : Nat) (fd : Bool) : Prop :=
  i ≤ l.length ∧ (∀ j p, j < i → l[j]? = some p → lessB p.key k = true) ∧ (∀ j p, i ≤ j → l[j]? = some p → lessB p.key k = false) ∧ (fd = true ↔ ∃ p, l[i]? = some p ∧ p.key = k)
end Go.Proofs.YtclhcjiblfokaaaGreatDoor
namespace Go.Proofs.YtclhcjiblfokaaaGreatDoor

/-- a turn on the way to a place: right, or not; from where on, and how many stand on the other side -/
structure Tn where
  right : Bool
  frm : Nat
  n : Nat
def wayF : Nat → Nat → Nat → Nat → List Tn
  | 0, _, _, _ => []
  | f + 1, i, n, a => if 1 < n then (if i < halfN n then ⟨false, a + halfN n, n - halfN n⟩ :: wayF f i (halfN n) a else ⟨true, a, halfN n⟩ :: wayF f (i - halfN n) (n - halfN n) (a + halfN n)) else []
/-- the way from the root to a place among n -/
def wayL (i n a : Nat) : List Tn := wayF n i n a
theorem wayF_any : ∀ (f f' i n a : Nat), n ≤ f → n ≤ f' → wayF f i n a = wayF f' i n a
  | 0, 0, _, _, _, _, _ => rfl
  | 0, f' + 1, i, n, a, h, _ => by
    rw [wayF, wayF, if_neg (by omega)]
  | f + 1, 0, i, n, a, _, h => by
    rw [wayF, wayF, if_neg (by omega)]
  | f + 1, f' + 1, i, n, a, h, h' => by
    rw [wayF, wayF]
    by_cases hn : 1 < n
    · have hh := halfN_lt n hn
      rw [if_pos hn, if_pos hn, wayF_any f f' i (halfN n) a (by omega) (by omega), wayF_any f f' (i - halfN n) (n - halfN n) (a + halfN n) (by omega) (by omega)]
    · rw [if_neg hn, if_neg hn]
theorem wayL_one (i n a : Nat) (h : ¬ 1 < n) : wayL i n a = [] := by
  unfold wayL
  match n, h with
  | 0, _ => rfl
  | 1, _ => rw [wayF, if_neg (by omega)]
  | n + 2, h => omega
theorem wayL_left (i n a : Nat) (h : 1 < n) (hi : i < halfN n) : wayL i n a = ⟨false, a + halfN n, n - halfN n⟩ :: wayL i (halfN n) a := by
  have hh := halfN_lt n h
  unfold wayL
  obtain ⟨m, rfl⟩ : ∃ m, n = m + 1 := ⟨n - 1, by omega⟩
  rw [wayF, if_pos h, if_pos hi, wayF_any m (halfN (m + 1)) i (halfN (m + 1)) a (by omega) (Nat.le_refl _)]
theorem wayL_right (i n a : Nat) (h : 1 < n) (hi : ¬ i < halfN n) : wayL i n a = ⟨true, a, halfN n⟩ :: wayL (i - halfN n) (n - halfN n) (a + halfN n) := by
  have hh := halfN_lt n h
  unfold wayL
  obtain ⟨m, rfl⟩ : ∃ m, n = m + 1 := ⟨n - 1, by omega⟩
  rw [wayF, if_pos h, if_neg hi, wayF_any m (m + 1 - halfN (m + 1)) (i - halfN (m + 1)) (m + 1 - halfN (m + 1)) (a + halfN (m + 1)) (by omega) (Nat.le_refl _)]
/-- what is reckoned from a leaf upwards: turns and other sides from the root down -/
def upD : List Tn → List (List (BitVec 8)) → List (BitVec 8) → List (BitVec 8)
  | t :: ts, d :: ds, x => if t.right = true then nodeD d (upD ts ds x) else nodeD (upD ts ds x) d
  | _, _, x => x
theorem upD_len (ts : List Tn) (ds : List (List (BitVec 8))) (x : List (BitVec 8)) (hx : x.length = 32) : (upD ts ds x).length = 32 := by
  match ts, ds with
  | [], _ => rw [upD]; exact hx; simp
  | _ :: _, [] => rw [upD]; exact hx; simp
  | t :: ts, d :: ds =>
    rw [upD]
    split
    · exact sha_length _
    · exact sha_length _
/-- a proof -/
structure Prf where
  index : Int
  size : Int
  key : List (BitVec 8)
  val : List (BitVec 8)
  path : List (List (BitVec 8))
def Prf.none : Prf := ⟨0, 0, [], [], []⟩
/-- whether a proof shows something of a root -/
def shownB (r : List (BitVec 8)) (p : Prf) : Prop :=
  1 ≤ p.size ∧ p.size ≤ 200 ∧ 0 ≤ p.index ∧ p.index < p.size ∧ p.key.length ≤ 60 ∧ p.val.length ≤ 200 ∧ p.path.length = (wayL p.index.toNat p.size.toNat 0).length ∧ (∀ d ∈ p.path, d.length = 32) ∧
  topD p.size.toNat (upD (wayL p.index.toNat p.size.toNat 0) p.path.reverse (leafD p.key p.val)) = r
/-- a gap -/
structure Gp where
  hasL : Bool
  hasR : Bool
  left : Prf
  right : Prf
def Gp.none : Gp := ⟨false, false, Prf.none, Prf.none⟩
/-- whether a gap shows that a key does not stand there -/
def absentB (r : List (BitVec 8)) (k : List (BitVec 8)) (g : Gp) : Prop :=
  if g.hasL = false ∧ g.hasR = false then r = topD 0 [] else
  (g.hasL = true → shownB r g.left ∧ lessB g.left.key k = true) ∧ (g.hasR = true → shownB r g.right ∧ lessB k g.right.key = true) ∧
  (g.hasL = true → g.hasR = true → g.right.size = g.left.size ∧ g.left.index + 1 = g.right.index) ∧ (g.hasL = true → g.hasR = false → g.left.index + 1 = g.left.size) ∧ (g.hasL = false → g.hasR = true → g.right.index = 0)
end Go.Proofs.YtclhcjiblfokaaaGreatDoor
namespace Go.Proofs.YtclhcjiblfokaaaGreatDoor
open Go.RowKit

/-- a call answers whether something is so -/
def Tells (P : Prop) (e : Ending) : Prop := ∃ bb, e = .returned (.bool bb) ∧ (bb = true ↔ P)
theorem Tells.yes {P : Prop} (h : P) : Tells P (.returned (.bool true)) := ⟨true, rfl, fun _ => h, fun _ => rfl⟩
theorem Tells.no {P : Prop} (h : ¬ P) : Tells P (.returned (.bool false)) := ⟨false, rfl, (fun e => absurd e (by decide)), fun e => absurd e h⟩
theorem Lists.mono {w : World} {N M : Nat} {sv : Value} {ls : List (List (BitVec 8))} (h : Lists w N sv ls) (hN : N ≤ M) : Lists w M sv ls := by
  rcases h with h | h | ⟨b, off, cap, h1, h2, h3⟩
  · exact .inl h
  · exact .inr (.inl h)
  · refine .inr (.inr ⟨b, off, cap, h1, h2, fun i hi => ?_⟩)
    obtain ⟨hb, x, hx, hbx⟩ := h3 i hi
    exact ⟨Nat.lt_of_lt_of_le hb hN, x, hx, hbx.mono hN⟩
/-- v reads as the proof p, in blocks below N -/
def PrfV (w : World) (N : Nat) (v : Value) (p : Prf) : Prop := ∃ kv vv pv, v = .agg #[.int .i64 p.index, .int .i64 p.size, kv, vv, pv] ∧ Bytes w N kv p.key ∧ Bytes w N vv p.val ∧ Lists w N pv p.path
theorem PrfV.below {w w' : World} {N : Nat} {v : Value} {p : Prf} (h : PrfV w N v p) (hg : Below N w w') : PrfV w' N v p := by
  obtain ⟨kv, vv, pv, rfl, h1, h2, h3⟩ := h
  exact ⟨kv, vv, pv, rfl, h1.below hg, h2.below hg, h3.below hg⟩
theorem PrfV.mono {w : World} {N M : Nat} {v : Value} {p : Prf} (h : PrfV w N v p) (hN : N ≤ M) : PrfV w M v p := by
  obtain ⟨kv, vv, pv, rfl, h1, h2, h3⟩ := h
  exact ⟨kv, vv, pv, rfl, h1.mono hN, h2.mono hN, h3.mono hN⟩
/-- as many bytes as the reach lets -/
def Prf.fits (p : Prf) : Prop := p.key.length ≤ 140737488351232 ∧ p.val.length ≤ 140737488351232 ∧ p.path.length < 2305843009213693952 ∧ ∀ d ∈ p.path, d.length ≤ 140737488351232
/-- v reads as the gap g -/
def GpV (w : World) (N : Nat) (v : Value) (g : Gp) : Prop := ∃ k1 v1 p1 k2 v2 p2, v = .agg #[.bool g.hasL, .bool g.hasR, .int .i64 g.left.index, .int .i64 g.left.size, k1, v1, p1, .int .i64 g.right.index, .int .i64 g.right.size, k2, v2, p2] ∧
  Bytes w N k1 g.left.key ∧ Bytes w N v1 g.left.val ∧ Lists w N p1 g.left.path ∧ Bytes w N k2 g.right.key ∧ Bytes w N v2 g.right.val ∧ Lists w N p2 g.right.path
theorem GpV.below {w w' : World} {N : Nat} {v : Value} {g : Gp} (h : GpV w N v g) (hg : Below N w w') : GpV w' N v g := by
  obtain ⟨k1, v1, p1, k2, v2, p2, rfl, h1, h2, h3, h4, h5, h6⟩ := h
  exact ⟨k1, v1, p1, k2, v2, p2, rfl, h1.below hg, h2.below hg, h3.below hg, h4.below hg, h5.below hg, h6.below hg⟩
theorem GpV.mono {w : World} {N M : Nat} {v : Value} {g : Gp} (h : GpV w N v g) (hN : N ≤ M) : GpV w M v g := by
  obtain ⟨k1, v1, p1, k2, v2, p2, rfl, h1, h2, h3, h4, h5, h6⟩ := h
  exact ⟨k1, v1, p1, k2, v2, p2, rfl, h1.mono hN, h2.mono hN, h3.mono hN, h4.mono hN, h5.mono hN, h6.mono hN⟩
def Gp.fits (g : Gp) : Prop := g.left.fits ∧ g.right.fits
/-- what is reckoned from the lowest k sides -/
def upK (ws : List Tn) (path : List (List (BitVec 8))) (k : Nat) (x : List (BitVec 8)) : List (BitVec 8) := upD (ws.drop (ws.length - k)) (path.take k).reverse x
theorem upK_zero (ws : List Tn) (path : List (List (BitVec 8))) (x : List (BitVec 8)) : upK ws path 0 x = x := by
  unfold upK
  rw [Nat.sub_zero, List.drop_length, List.take_zero, List.reverse_nil, upD]
  simp
theorem upK_succ (ws : List Tn) (path : List (List (BitVec 8))) (k : Nat) (x : List (BitVec 8)) (t : Tn) (d : List (BitVec 8)) (ht : ws[ws.length - 1 - k]? = some t) (hk : k < ws.length) (hd : path[k]? = some d) :
    upK ws path (k + 1) x = if t.right = true then nodeD d (upK ws path k x) else nodeD (upK ws path k x) d := by
  obtain ⟨h1, rfl⟩ := List.getElem?_eq_some_iff.1 ht
  obtain ⟨h2, rfl⟩ := List.getElem?_eq_some_iff.1 hd
  unfold upK
  rw [show ws.length - (k + 1) = ws.length - 1 - k by omega, List.drop_eq_getElem_cons h1, show ws.length - 1 - k + 1 = ws.length - k by omega, List.take_succ_eq_append_getElem h2, List.reverse_append, List.reverse_singleton, List.singleton_append, upD]
theorem upK_all (ws : List Tn) (path : List (List (BitVec 8))) (x : List (BitVec 8)) (h : path.length = ws.length) : upK ws path ws.length x = upD ws path.reverse x := by
  unfold upK
  rw [Nat.sub_self, List.drop_zero, List.take_of_length_le (by omega)]
theorem upK_len (ws : List Tn) (path : List (List (BitVec 8))) (k : Nat) (x : List (BitVec 8)) (hx : x.length = 32) : (upK ws path k x).length = 32 := upD_len _ _ _ hx
end Go.Proofs.YtclhcjiblfokaaaGreatDoor
namespace Go.Proofs.YtclhcjiblfokaaaGreatDoor

/-- what the digest of a pair, of two trees, of a book is of -/
def leafX (k v : List (BitVec 8)) : List (BitVec 8) := 0 :: (fourB k.length ++ (k ++ v))
def nodeX (a b : List (BitVec 8)) : List (BitVec 8) := 1 :: (a ++ b)
def topX (n : Nat) (t : List (BitVec 8)) : List (BitVec 8) := 2 :: (fourB n ++ t)
/-- layers from the top of the tree down to the pair -/
def layD : List Tn → List (List (BitVec 8)) → List (BitVec 8) → List (List (BitVec 8))
  | t :: ts, d :: ds, lf => (if t.right = true then nodeX d (upD ts ds (sha lf)) else nodeX (upD ts ds (sha lf)) d) :: layD ts ds lf
  | _, _, lf => [lf]
theorem layD_nil (ds : List (List (BitVec 8))) (lf : List (BitVec 8)) : layD [] ds lf = [lf] := by rw [layD]; simp
theorem layD_length : ∀ (ts : List Tn) (ds : List (List (BitVec 8))) (lf : List (BitVec 8)), ds.length = ts.length → (layD ts ds lf).length = ts.length + 1
  | [], ds, lf, _ => by rw [layD_nil]; rfl
  | t :: ts, [], lf, h => by simp at h
  | t :: ts, d :: ds, lf, h => by
    rw [layD, List.length_cons, layD_length ts ds lf (by simpa using h)]
    rfl
/-- the lowest k + 1 layers, the pair first -/
def layK (ws : List Tn) (path : List (List (BitVec 8))) (k : Nat) (lf : List (BitVec 8)) : List (List (BitVec 8)) := (layD (ws.drop (ws.length - k)) (path.take k).reverse lf).reverse
theorem layK_zero (ws : List Tn) (path : List (List (BitVec 8))) (lf : List (BitVec 8)) : layK ws path 0 lf = [lf] := by
  unfold layK
  rw [Nat.sub_zero, List.drop_length, layD_nil]
  rfl
theorem layK_succ (ws : List Tn) (path : List (List (BitVec 8))) (k : Nat) (lf : List (BitVec 8)) (t : Tn) (d : List (BitVec 8)) (ht : ws[ws.length - 1 - k]? = some t) (hk : k < ws.length) (hd : path[k]? = some d) :
    layK ws path (k + 1) lf = layK ws path k lf ++ [if t.right = true then nodeX d (upK ws path k (sha lf)) else nodeX (upK ws path k (sha lf)) d] := by
  obtain ⟨h1, rfl⟩ := List.getElem?_eq_some_iff.1 ht
  obtain ⟨h2, rfl⟩ := List.getElem?_eq_some_iff.1 hd
  unfold layK upK
  rw [show ws.length - (k + 1) = ws.length - 1 - k by omega, List.drop_eq_getElem_cons h1, show ws.length - 1 - k + 1 = ws.length - k by omega, List.take_succ_eq_append_getElem h2, List.reverse_append, List.reverse_singleton, List.singleton_append, layD, List.reverse_cons]
theorem layK_all (ws : List Tn) (path : List (List (BitVec 8))) (lf : List (BitVec 8)) (h : path.length = ws.length) : layK ws path ws.length lf = (layD ws path.reverse lf).reverse := by
  unfold layK
  rw [Nat.sub_self, List.drop_zero, List.take_of_length_le (by omega)]
/-- the turns to a proof's place -/
def wayP (p : Prf) : List Tn := wayL p.index.toNat p.size.toNat 0
/-- all layers of a proof, the root's first -/
def layP (p : Prf) : List (List (BitVec 8)) := topX p.size.toNat (upD (wayP p) p.path.reverse (leafD p.key p.val)) :: layD (wayP p) p.path.reverse (leafX p.key p.val)
theorem layP_length (p : Prf) (h : p.path.length = (wayP p).length) : (layP p).length = p.path.length + 2 := by
  unfold layP
  rw [List.length_cons, layD_length _ _ _ (by rw [List.length_reverse]; exact h), h]
theorem topX_len (n : Nat) (t : List (BitVec 8)) : (topX n t).length = 5 + t.length := by unfold topX; simp [fourB]; omega
theorem nodeX_len (k v : List (BitVec 8)) : (nodeX k v).length = 1 + (k.length + v.length) := by unfold nodeX; simp; omega
end Go.Proofs.YtclhcjiblfokaaaGreatDoor
namespace Go.Proofs.YtclhcjiblfokaaaGreatDoor
open Go.RowKit

set_option maxHeartbeats 1000000 in
set_option maxRecDepth 100000 in
theorem len64_small (x : Nat) (w : World) (h : x < 256) : Calls Tryz.prog 204 #[.int .u64 (x : Int)] w fun e w' => e = .returned (.int .i64 (Lib.bitLen x : Int)) ∧ w' = w := by
  have e1 : decide ((4294967296 : Int) ≤ (x : Int)) = false := by simp; omega
  have e2 : decide ((65536 : Int) ≤ (x : Int)) = false := by simp; omega
  have e3 : decide ((256 : Int) ≤ (x : Int)) = false := by simp; omega
  go_enter Tryz.func204, Tryz.ntmps204
  go_wp2
  all_goals (go_ret; refine ⟨congrArg Ending.returned (congrArg (Value.int IntKind.i64) ?_), rfl⟩)
  have hl := Lib.bitLen_le8 ⟨x, h⟩
  have he := Lib.len8_eq ⟨x, h⟩
  unfold Lib.len8 at he
  simp only [Int.toNat_natCast] at he
  have hs : x < Lib.len8tab.size := by rw [show Lib.len8tab.size = 256 from by kernel_rfl]; exact h
  rw [getElem?_pos Lib.len8tab x hs] at he
  simp only at hl he
  have he2 : ((Lib.len8tab[x]'hs).toNat : Int) = (Lib.bitLen x : Int) := he
  rw [he2]
  unfold wrap64
  omega
theorem half_bits : ∀ n : Fin 257, 2 ≤ n.val → 1 ≤ Lib.bitLen (n.val - 1) ∧ Lib.bitLen (n.val - 1) ≤ 8 ∧ halfN n.val = 2 ^ (Lib.bitLen (n.val - 1) - 1) := by decide +kernel
set_option maxHeartbeats 1000000 in
theorem len_small (x : Nat) (w : World) (h : x < 256) : Calls Tryz.prog 202 #[.int .u64 (x : Int)] w fun e w' => e = .returned (.int .i64 (Lib.bitLen x : Int)) ∧ w' = w := by
  have HL := hid (len64_small x w h)
  go_enter Tryz.func202, Tryz.ntmps202
  go_wp2_with fail
  refine HL.out.mono ?_
  rintro e w' ⟨rfl, hw⟩
  obtain rfl := hw.symm
  go_wp2
  go_ret
  exact ⟨rfl, rfl⟩
set_option maxHeartbeats 1000000 in
theorem split_any (n : Nat) (w : World) (h2 : 2 ≤ n) (hn : n ≤ 256) : Calls Tryz.prog 196 #[.int .i64 (n : Int)] w fun e w' => e = .returned (.int .i64 (halfN n : Int)) ∧ w' = w := by
  obtain ⟨h1, h8, hh⟩ := half_bits ⟨n, by omega⟩ h2
  simp only at h1 h8 hh
  obtain ⟨x, hx⟩ : ∃ x, n - 1 = x := ⟨_, rfl⟩
  rw [hx] at h1 h8 hh
  obtain ⟨b, hb⟩ : ∃ b, Lib.bitLen x = b := ⟨_, rfl⟩
  have HL := hid (len_small x w (by omega))
  rw [hb] at h1 h8 hh HL
  have HH := hid hh
  have e1 : (n : Int) - 1 = (x : Int) := by omega
  have e2 : decide ((n : Int) < 2) = false := by simp; omega
  clear hh hb hx
  go_enter Tryz.func196, Tryz.ntmps196
  go_wp2_with fail
  refine HL.out.mono ?_
  rintro e w' ⟨rfl, hw⟩
  obtain rfl := hw.symm
  have hcases : b = 1 ∨ b = 2 ∨ b = 3 ∨ b = 4 ∨ b = 5 ∨ b = 6 ∨ b = 7 ∨ b = 8 := by omega
  rcases hcases with rfl | rfl | rfl | rfl | rfl | rfl | rfl | rfl <;>
    (go_wp2
     go_ret
     exact ⟨by rw [HH.out]; rfl, rfl⟩)
end Go.Proofs.YtclhcjiblfokaaaGreatDoor
namespace Go.Proofs.YtclhcjiblfokaaaGreatDoor
open Go.RowKit

theorem V_ofNat (m : Nat) (h : m < 256) : V (BitVec.ofNat 8 m) = .int .u8 (m : Int) := by
  unfold V b8
  simp
  omega
theorem four_cells (n : Nat) : (fourB n).map V = [.int .u8 ((n : Int) / 16777216 % 256), .int .u8 ((n : Int) / 65536 % 256), .int .u8 ((n : Int) / 256 % 256), .int .u8 ((n : Int) % 256)] := by
  unfold fourB
  simp only [List.map_cons, List.map_nil]
  rw [V_ofNat _ (by omega), V_ofNat _ (by omega), V_ofNat _ (by omega), V_ofNat _ (by omega)]
  simp
end Go.Proofs.YtclhcjiblfokaaaGreatDoor
