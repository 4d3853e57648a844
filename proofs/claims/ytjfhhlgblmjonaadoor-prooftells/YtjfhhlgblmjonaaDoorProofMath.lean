/-
  Plain mathematics of proofs: the way from the root of a tree to a place, what stands on its other sides, what is reckoned from a leaf upwards; where two reckonings meet, what is beneath is the same, or two lists of bytes have one digest. No program is named here.
-/
import Derived.Test.YtjfhhlgblmjonaaDoorBookMath
namespace Go.Proofs.YtjfhhlgblmjonaaDoor

/-- a turn on the way to a place: right, or not; from where on, and how many stand on the other side -/
structure Tn where
  right : Bool
  frm : Nat
  n : Nat
def wayF : Nat → Nat → Nat → Nat → List Tn
  | 0, _, _, _ => []
  | f + 1, i, n, a => if 1 < n then (if i < halfN n then ⟨false, a + halfN n, n - halfN n⟩ :: wayF f i (halfN n) a else ⟨true, a, halfN n⟩ :: wayF f (i - halfN n) (n - halfN n) (a + halfN n)) else []
/-- the way from the root to a place among n -/
def wayL (i n a : Nat) : List Tn := wayF n i n a
theorem wayF_any : ∀ (f f' i n a : Nat), n ≤ f → n ≤ f' → wayF f i n a = wayF f' i n a
  | 0, 0, _, _, _, _, _ => rfl
  | 0, f' + 1, i, n, a, h, _ => by
    rw [wayF, wayF, if_neg (by omega)]
  | f + 1, 0, i, n, a, _, h => by
    rw [wayF, wayF, if_neg (by omega)]
  | f + 1, f' + 1, i, n, a, h, h' => by
    rw [wayF, wayF]
    by_cases hn : 1 < n
    · have hh := halfN_lt n hn
      rw [if_pos hn, if_pos hn, wayF_any f f' i (halfN n) a (by omega) (by omega), wayF_any f f' (i - halfN n) (n - halfN n) (a + halfN n) (by omega) (by omega)]
    · rw [if_neg hn, if_neg hn]
theorem wayL_one (i n a : Nat) (h : ¬ 1 < n) : wayL i n a = [] := by
  unfold wayL
  match n, h with
  | 0, _ => rfl
  | 1, _ => rw [wayF, if_neg (by omega)]
  | n + 2, h => omega
theorem wayL_left (i n a : Nat) (h : 1 < n) (hi : i < halfN n) : wayL i n a = ⟨false, a + halfN n, n - halfN n⟩ :: wayL i (halfN n) a := by
  have hh := halfN_lt n h
  unfold wayL
  obtain ⟨m, rfl⟩ : ∃ m, n = m + 1 := ⟨n - 1, by omega⟩
  rw [wayF, if_pos h, if_pos hi, wayF_any m (halfN (m + 1)) i (halfN (m + 1)) a (by omega) (Nat.le_refl _)]
theorem wayL_right (i n a : Nat) (h : 1 < n) (hi : ¬ i < halfN n) : wayL i n a = ⟨true, a, halfN n⟩ :: wayL (i - halfN n) (n - halfN n) (a + halfN n) := by
  have hh := halfN_lt n h
  unfold wayL
  obtain ⟨m, rfl⟩ : ∃ m, n = m + 1 := ⟨n - 1, by omega⟩
  rw [wayF, if_pos h, if_neg hi, wayF_any m (m + 1 - halfN (m + 1)) (i - halfN (m + 1)) (m + 1 - halfN (m + 1)) (a + halfN (m + 1)) (by omega) (Nat.le_refl _)]
/-- what stands on a turn's other side -/
def sideD (l : List Pr) (t : Tn) : List (BitVec 8) := treeD ((l.drop t.frm).take t.n)
/-- what is reckoned from a leaf upwards: turns and other sides from the root down -/
def upD : List Tn → List (List (BitVec 8)) → List (BitVec 8) → List (BitVec 8)
  | t :: ts, d :: ds, x => if t.right = true then nodeD d (upD ts ds x) else nodeD (upD ts ds x) d
  | _, _, x => x
theorem treeD_len32 (l : List Pr) (h : 0 < l.length) : (treeD l).length = 32 := by
  by_cases h2 : 2 ≤ l.length
  · rw [treeD_more l h2]
    exact sha_length _
  · match l, h, h2 with
    | [p], _, _ => rw [treeD_one]; exact sha_length _
    | _ :: _ :: _, _, h2 => simp at h2
theorem upD_len (ts : List Tn) (ds : List (List (BitVec 8))) (x : List (BitVec 8)) (hx : x.length = 32) : (upD ts ds x).length = 32 := by
  match ts, ds with
  | [], _ => rw [upD]; exact hx; simp
  | _ :: _, [] => rw [upD]; exact hx; simp
  | t :: ts, d :: ds =>
    rw [upD]
    split
    · exact sha_length _
    · exact sha_length _
/-- a book's own sides lead to its tree -/
theorem upD_way (l : List Pr) : ∀ (m : List Pr) (a i : Nat) (p : Pr), m = (l.drop a).take m.length → m[i]? = some p → upD (wayL i m.length a) ((wayL i m.length a).map (sideD l)) (leafD p.key p.val) = treeD m := by
  intro m
  generalize hn : m.length = n
  induction n using Nat.strongRecOn generalizing m with
  | _ n ih =>
    intro a i p hm hp
    have hi : i < n := by rw [← hn]; exact (List.getElem?_eq_some_iff.1 hp).1
    by_cases h1 : 1 < n
    · have hh := halfN_lt n h1
      rw [treeD_more m (by omega), hn]
      by_cases hik : i < halfN n
      · have e1 : m.take (halfN n) = (l.drop a).take (m.take (halfN n)).length := by
          rw [List.length_take, hn, Nat.min_eq_left (by omega)]
          conv => lhs; rw [hm]
          rw [List.take_take, Nat.min_eq_left (by omega)]
        have e2 : m.drop (halfN n) = (l.drop (a + halfN n)).take (n - halfN n) := by
          conv => lhs; rw [hm]
          rw [List.drop_take, List.drop_drop]
        rw [wayL_left i n a h1 hik, List.map_cons, upD, if_neg (by simp)]
        have := ih (halfN n) (by omega) (m.take (halfN n)) (by rw [List.length_take, hn]; omega) a i p (by rw [List.length_take, hn, Nat.min_eq_left (by omega)] at e1; exact e1) (by rw [List.getElem?_take, if_pos hik]; exact hp)
        rw [this]
        unfold sideD
        rw [← e2]
      · have e1 : m.take (halfN n) = (l.drop a).take (halfN n) := by
          conv => lhs; rw [hm]
          rw [List.take_take, Nat.min_eq_left (by omega)]
        have e2 : m.drop (halfN n) = (l.drop (a + halfN n)).take (n - halfN n) := by
          conv => lhs; rw [hm]
          rw [List.drop_take, List.drop_drop]
        rw [wayL_right i n a h1 hik, List.map_cons, upD, if_pos rfl]
        have := ih (n - halfN n) (by omega) (m.drop (halfN n)) (by rw [List.length_drop, hn]) (a + halfN n) (i - halfN n) p e2 (by rw [List.getElem?_drop, show halfN n + (i - halfN n) = i by omega]; exact hp)
        rw [this]
        unfold sideD
        rw [← e1]
    · rw [wayL_one i n a h1, List.map_nil, upD]
      · match m, hn with
        | [q], _ =>
          obtain rfl : i = 0 := by omega
          obtain rfl : q = p := by simpa using hp
          rw [treeD_one]
        | [], hn => simp at hn; omega
        | _ :: _ :: _, hn => simp at hn; omega
      · simp
/-- a proof -/
structure Prf where
  index : Int
  size : Int
  key : List (BitVec 8)
  val : List (BitVec 8)
  path : List (List (BitVec 8))
def Prf.none : Prf := ⟨0, 0, [], [], []⟩
/-- a book's proof at a place -/
def proofAt (l : List Pr) (i : Nat) (p : Pr) : Prf := ⟨(i : Int), (l.length : Int), p.key, p.val, ((wayL i l.length 0).map (sideD l)).reverse⟩
/-- whether a proof shows something of a root -/
def shownB (r : List (BitVec 8)) (p : Prf) : Prop :=
  1 ≤ p.size ∧ p.size ≤ 200 ∧ 0 ≤ p.index ∧ p.index < p.size ∧ p.key.length ≤ 60 ∧ p.val.length ≤ 200 ∧ p.path.length = (wayL p.index.toNat p.size.toNat 0).length ∧ (∀ d ∈ p.path, d.length = 32) ∧
  topD p.size.toNat (upD (wayL p.index.toNat p.size.toNat 0) p.path.reverse (leafD p.key p.val)) = r
/-- the root of a book -/
def rootD (l : List Pr) : List (BitVec 8) := topD l.length (treeD l)
theorem wayL_side (l : List Pr) : ∀ (n i a : Nat), a + n ≤ l.length → ∀ t ∈ wayL i n a, 0 < ((l.drop t.frm).take t.n).length := by
  intro n
  induction n using Nat.strongRecOn with
  | _ n ih =>
    intro i a hl t ht
    by_cases h1 : 1 < n
    · have hh := halfN_lt n h1
      by_cases hik : i < halfN n
      · rw [wayL_left i n a h1 hik] at ht
        rcases List.mem_cons.1 ht with rfl | ht
        · simp
          omega
        · exact ih (halfN n) (by omega) i a (by omega) t ht
      · rw [wayL_right i n a h1 hik] at ht
        rcases List.mem_cons.1 ht with rfl | ht
        · simp
          omega
        · exact ih (n - halfN n) (by omega) (i - halfN n) (a + halfN n) (by omega) t ht
    · rw [wayL_one i n a h1] at ht
      cases ht
/-- WHAT STANDS THERE CAN BE SHOWN -/
theorem shown_at (l : List Pr) (i : Nat) (p : Pr) (hp : l[i]? = some p) (hf : Fits l) (hn : l.length ≤ 200) : shownB (rootD l) (proofAt l i p) := by
  have hi : i < l.length := (List.getElem?_eq_some_iff.1 hp).1
  have hpf := hf p (List.mem_of_getElem? hp)
  refine ⟨by simp [proofAt]; omega, by simp [proofAt]; omega, by simp [proofAt], by simp [proofAt]; omega, hpf.1, hpf.2, by simp [proofAt], ?_, ?_⟩
  · intro d hd
    simp [proofAt] at hd
    obtain ⟨t, ht, rfl⟩ := hd
    exact treeD_len32 _ (wayL_side l l.length i 0 (by omega) t ht)
  · unfold proofAt rootD
    simp only [List.reverse_reverse, Int.toNat_natCast]
    rw [upD_way l l 0 i p (by simp) hp]
/-- a proof says what stands in a book, at its place -/
def soB (l : List Pr) (p : Prf) : Prop := p.size = (l.length : Int) ∧ 0 ≤ p.index ∧ ∃ q, l[p.index.toNat]? = some q ∧ q.key = p.key ∧ q.val = p.val
/-- a gap -/
structure Gp where
  hasL : Bool
  hasR : Bool
  left : Prf
  right : Prf
def Gp.none : Gp := ⟨false, false, Prf.none, Prf.none⟩
/-- whether a gap shows that a key does not stand there -/
def absentB (r : List (BitVec 8)) (k : List (BitVec 8)) (g : Gp) : Prop :=
  if g.hasL = false ∧ g.hasR = false then r = topD 0 [] else
  (g.hasL = true → shownB r g.left ∧ lessB g.left.key k = true) ∧ (g.hasR = true → shownB r g.right ∧ lessB k g.right.key = true) ∧
  (g.hasL = true → g.hasR = true → g.right.size = g.left.size ∧ g.left.index + 1 = g.right.index) ∧ (g.hasL = true → g.hasR = false → g.left.index + 1 = g.left.size) ∧ (g.hasL = false → g.hasR = true → g.right.index = 0)
/-- a book's gap where a key would stand -/
def gapAt (l : List Pr) (i : Nat) : Gp := ⟨decide (0 < i), decide (i < l.length), if 0 < i then (match l[i - 1]? with | some p => proofAt l (i - 1) p | none => Prf.none) else Prf.none, match l[i]? with | some p => proofAt l i p | none => Prf.none⟩
/-- WHAT DOES NOT STAND THERE CAN BE SHOWN -/
theorem absent_at (l : List Pr) (i : Nat) (k : List (BitVec 8)) (hi : i ≤ l.length) (h1 : ∀ j p, j < i → l[j]? = some p → lessB p.key k = true) (h2 : ∀ j p, i ≤ j → l[j]? = some p → lessB k p.key = true) (hf : Fits l) (hn : l.length ≤ 200) :
    absentB (rootD l) k (gapAt l i) := by
  unfold absentB
  split
  · rename_i h
    simp [gapAt] at h
    have h0 : l.length = 0 := by omega
    obtain rfl := List.length_eq_zero_iff.1 h0
    unfold rootD
    rw [treeD_nil]
    rfl
  · refine ⟨fun hl => ?_, fun hr => ?_, fun hl hr => ?_, fun hl hr => ?_, fun hl hr => ?_⟩
    · have hl' : 0 < i := by simpa [gapAt] using hl
      have hp : l[i - 1]? = some l[i - 1] := List.getElem?_eq_getElem (by omega)
      have e : (gapAt l i).left = proofAt l (i - 1) l[i - 1] := by simp only [gapAt, if_pos hl', hp]
      rw [e]
      exact ⟨shown_at l (i - 1) _ hp hf hn, h1 (i - 1) _ (by omega) hp⟩
    · have hr' : i < l.length := by simpa [gapAt] using hr
      have hp : l[i]? = some l[i] := List.getElem?_eq_getElem hr'
      have e : (gapAt l i).right = proofAt l i l[i] := by simp only [gapAt, hp]
      rw [e]
      exact ⟨shown_at l i _ hp hf hn, h2 i _ (Nat.le_refl _) hp⟩
    · have hl' : 0 < i := by simpa [gapAt] using hl
      have hr' : i < l.length := by simpa [gapAt] using hr
      have hp : l[i - 1]? = some l[i - 1] := List.getElem?_eq_getElem (by omega)
      have hq : l[i]? = some l[i] := List.getElem?_eq_getElem hr'
      have e1 : (gapAt l i).left = proofAt l (i - 1) l[i - 1] := by simp only [gapAt, if_pos hl', hp]
      have e2 : (gapAt l i).right = proofAt l i l[i] := by simp only [gapAt, hq]
      rw [e1, e2]
      simp [proofAt]
      omega
    · have hl' : 0 < i := by simpa [gapAt] using hl
      have hr' : ¬ i < l.length := by simpa [gapAt] using hr
      have hp : l[i - 1]? = some l[i - 1] := List.getElem?_eq_getElem (by omega)
      have e1 : (gapAt l i).left = proofAt l (i - 1) l[i - 1] := by simp only [gapAt, if_pos hl', hp]
      rw [e1]
      simp [proofAt]
      omega
    · have hl' : ¬ 0 < i := by simpa [gapAt] using hl
      have hr' : i < l.length := by simpa [gapAt] using hr
      have hq : l[i]? = some l[i] := List.getElem?_eq_getElem hr'
      have e2 : (gapAt l i).right = proofAt l i l[i] := by simp only [gapAt, hq]
      rw [e2]
      simp [proofAt]
      omega
theorem sorted_key {l : List Pr} (hs : Sorted l) {i j : Nat} {p q : Pr} (hp : l[i]? = some p) (hq : l[j]? = some q) (h : lessB p.key q.key = true) : i < j := by
  obtain ⟨hi, rfl⟩ := List.getElem?_eq_some_iff.1 hp
  obtain ⟨hj, rfl⟩ := List.getElem?_eq_some_iff.1 hq
  rcases Nat.lt_trichotomy i j with h1 | h1 | h1
  · exact h1
  · subst h1
    rw [lessB_irrefl] at h
    cases h
  · have := List.pairwise_iff_getElem.1 hs j i hj hi h1
    rw [lessB_asymm _ _ this] at h
    cases h
/-- A PROOF AND A GAP OF ONE KEY say what cannot be -/
theorem both_not (l : List Pr) (hs : Sorted l) (r : List (BitVec 8)) (p : Prf) (g : Gp) (hp : soB l p) (hg : absentB r p.key g) (hl : g.hasL = true → soB l g.left) (hr : g.hasR = true → soB l g.right) (h : g.hasL = true ∨ g.hasR = true) : False := by
  unfold absentB at hg
  rw [if_neg (by rintro ⟨h1, h2⟩; rw [h1, h2] at h; simp at h)] at hg
  obtain ⟨g1, g2, g3, g4, g5⟩ := hg
  obtain ⟨_, p0, q, hq, hk, _⟩ := hp
  have hqi := (List.getElem?_eq_some_iff.1 hq).1
  cases hL : g.hasL with
  | true =>
    obtain ⟨l1, l2, a, ha, hak, _⟩ := hl hL
    have la := sorted_key hs ha hq (by rw [hak, hk]; exact (g1 hL).2)
    cases hR : g.hasR with
    | true =>
      obtain ⟨r1, r2, b, hb, hbk, _⟩ := hr hR
      have lb := sorted_key hs hq hb (by rw [hbk, hk]; exact (g2 hR).2)
      have := (g3 hL hR).2
      omega
    | false =>
      have := g4 hL hR
      omega
  | false =>
    cases hR : g.hasR with
    | true =>
      obtain ⟨r1, r2, b, hb, hbk, _⟩ := hr hR
      have lb := sorted_key hs hq hb (by rw [hbk, hk]; exact (g2 hR).2)
      have := g5 hL hR
      omega
    | false => rw [hL, hR] at h; simp at h
theorem halfGo_pow (k n j : Nat) (hk : k = 2 ^ j) (h : k < n) : ∃ m, halfGo k n = 2 ^ m ∧ 2 ^ m < n ∧ n ≤ 2 ^ (m + 1) := by
  induction hd : n - k using Nat.strongRecOn generalizing k j with
  | _ d ih =>
    have hp : 0 < 2 ^ j := Nat.two_pow_pos j
    have hs : 2 ^ (j + 1) = 2 * 2 ^ j := by rw [Nat.pow_succ, Nat.mul_comm]
    rw [halfGo_eq]
    split
    · rename_i hc
      exact ⟨j, hk, by omega, by omega⟩
    · rename_i hc
      exact ih (n - 2 * k) (by omega) (2 * k) (j + 1) (by omega) (by omega) rfl
/-- A PROOF IS SHORT -/
theorem wayL_short : ∀ (k n i a : Nat), n ≤ 2 ^ k → (wayL i n a).length ≤ k := by
  intro k
  induction k with
  | zero =>
    intro n i a h
    rw [wayL_one i n a (by simp at h; omega)]
    exact Nat.le_refl _
  | succ k ih =>
    intro n i a h
    by_cases h1 : 1 < n
    · obtain ⟨m, hm, hlt, hle⟩ := halfGo_pow 1 n 0 rfl h1
      have hm' : halfN n = 2 ^ m := hm
      have hmk : m ≤ k := by
        have h2 : 2 ^ m < 2 ^ (k + 1) := by omega
        have := (Nat.pow_lt_pow_iff_right (show 1 < 2 by decide)).1 h2
        omega
      have hpk : 2 ^ m ≤ 2 ^ k := Nat.pow_le_pow_right (by decide) hmk
      have hs : 2 ^ (m + 1) = 2 * 2 ^ m := by rw [Nat.pow_succ, Nat.mul_comm]
      by_cases hik : i < halfN n
      · rw [wayL_left i n a h1 hik, List.length_cons]
        have := ih (halfN n) i a (by omega)
        omega
      · rw [wayL_right i n a h1 hik, List.length_cons]
        have := ih (n - halfN n) (i - halfN n) (a + halfN n) (by omega)
        omega
    · rw [wayL_one i n a h1]
      simp
end Go.Proofs.YtjfhhlgblmjonaaDoor
