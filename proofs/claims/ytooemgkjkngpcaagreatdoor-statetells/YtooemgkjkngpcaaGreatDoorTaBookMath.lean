/-
  Plain mathematics of books: bytes in order, pairs by their keys, doings, and what stands under a key; a book knows no past. No program is named here. What a key's place in a book says: what stands under it, what dropping it, and setting it, makes. No program is named here.
  Plain mathematics of proofs: the way from the root of a tree to a place, what stands on its other sides, what is reckoned from a leaf upwards; where two reckonings meet, what is beneath is the same, or two lists of bytes have one digest. No program is named here.
  Proofs and gaps as values: what their cells read as. No function of the program is named here.
  Plain mathematics of what a proof's digests are of: layers from the root down to the pair. Where two proofs of one root part first, two lists of bytes have one digest. No program is named here.
  What math/bits.Len of small numbers, and package book's split, answer.
  What the document's Join and Four answer: bytes one behind the other, in new memory; a number in four bytes.
-/
import Derived.Test.YtooemgkjkngpcaaGreatDoorTaMemB
import Derived.Lib.Walk
import Derived.Lib.BitFns
namespace Go.Proofs.YtooemgkjkngpcaaGreatDoor

/-- bytes in order: byte by byte; one that begins another one is less -/
def lessB : List (BitVec 8) → List (BitVec 8) → Bool
  | [], [] => false
  | [], _ :: _ => true
  | _ :: _, [] => false
  | x :: a, y :: b => if x = y then lessB a b else decide (x.toNat < y.toNat)
theorem lessB_irrefl : ∀ a, lessB a a = false
  | [] => rfl
  | x :: a => by rw [lessB, if_pos rfl]; exact lessB_irrefl a
theorem lessB_trans : ∀ a b c, lessB a b = true → lessB b c = true → lessB a c = true
  | [], [], _, h, _ => by cases h
  | [], _ :: _, [], _, h => by cases h
  | [], _ :: _, _ :: _, _, _ => rfl
  | _ :: _, [], _, h, _ => by cases h
  | _ :: _, _ :: _, [], _, h => by cases h
  | x :: a, y :: b, z :: c, h1, h2 => by
    rw [lessB] at h1 h2 ⊢
    by_cases e1 : x = y
    · subst e1
      rw [if_pos rfl] at h1
      by_cases e2 : x = z
      · rw [if_pos e2] at h2 ⊢
        exact lessB_trans a b c h1 h2
      · rw [if_neg e2] at h2 ⊢
        exact h2
    · rw [if_neg e1] at h1
      by_cases e2 : y = z
      · subst e2
        rw [if_neg e1]
        exact h1
      · rw [if_neg e2] at h2
        have g1 := of_decide_eq_true h1
        have g2 := of_decide_eq_true h2
        have e3 : ¬ x = z := by rintro rfl; omega
        rw [if_neg e3]
        exact decide_eq_true (by omega)
theorem lessB_total : ∀ a b, a ≠ b → lessB a b = false → lessB b a = true
  | [], [], h, _ => absurd rfl h
  | [], _ :: _, _, h => by cases h
  | _ :: _, [], _, _ => rfl
  | x :: a, y :: b, h, h1 => by
    rw [lessB] at h1 ⊢
    by_cases e : x = y
    · subst e
      rw [if_pos rfl] at h1 ⊢
      exact lessB_total a b (fun h' => h (by rw [h'])) h1
    · rw [if_neg e] at h1
      rw [if_neg (fun h' => e h'.symm)]
      have g1 := of_decide_eq_false h1
      refine decide_eq_true ?_
      rcases Nat.lt_or_ge y.toNat x.toNat with h' | h'
      · exact h'
      · exact absurd (BitVec.eq_of_toNat_eq (by omega)) e
theorem lessB_asymm (a b : List (BitVec 8)) (h : lessB a b = true) : lessB b a = false := by
  cases hb : lessB b a with
  | false => rfl
  | true =>
    have := lessB_trans a b a h hb
    rw [lessB_irrefl] at this
    cases this
theorem lessB_ne {a b : List (BitVec 8)} (h : lessB a b = true) : a ≠ b := by
  rintro rfl
  rw [lessB_irrefl] at h
  cases h

/-- a pair of a book -/
structure Pr where
  key : List (BitVec 8)
  val : List (BitVec 8)
/-- a doing with a book -/
structure Dg where
  key : List (BitVec 8)
  val : List (BitVec 8)
  gone : Bool
/-- pairs in the order of their keys -/
def Sorted (l : List Pr) : Prop := l.Pairwise (fun p q => lessB p.key q.key = true)
/-- without a key -/
def dropK (k : List (BitVec 8)) (l : List Pr) : List Pr := l.filter (fun p => decide (p.key ≠ k))
/-- those ahead of a key, and the others -/
def ahead (k : List (BitVec 8)) : List Pr → List Pr
  | [] => []
  | p :: r => if lessB p.key k = true then p :: ahead k r else []
def behind (k : List (BitVec 8)) : List Pr → List Pr
  | [] => []
  | p :: r => if lessB p.key k = true then behind k r else p :: r
/-- a pair comes, in the place of one with its key -/
def setP (p : Pr) (l : List Pr) : List Pr := ahead p.key (dropK p.key l) ++ p :: behind p.key (dropK p.key l)
/-- the key ahead is less -/
def okPrev (prev : Option (List (BitVec 8))) (k : List (BitVec 8)) : Bool := match prev with | none => true | some q => lessB q k
def wrongGo (i : Nat) (prev : Option (List (BitVec 8))) : List Pr → Int × Nat
  | [] => (0, 0)
  | p :: r => if 60 < p.key.length ∨ 200 < p.val.length then (4, i) else
    if okPrev prev p.key = false then (2, i) else wrongGo (i + 1) (some p.key) r
/-- what is wrong with a book, and where -/
def wrongL (l : List Pr) : Int × Nat := if 200 < l.length then (5, 0) else wrongGo 0 none l
def playGo (i : Nat) (out : List Pr) : List Dg → Except (Int × Nat) (List Pr)
  | [] => .ok out
  | d :: r => if 60 < d.key.length ∨ 200 < d.val.length then .error (4, i)
    else if d.gone = true then playGo (i + 1) (dropK d.key out) r
    else if 200 < (setP ⟨d.key, d.val⟩ out).length then .error (5, i)
    else playGo (i + 1) (setP ⟨d.key, d.val⟩ out) r
/-- what doings make -/
def playL (l : List Dg) : Except (Int × Nat) (List Pr) := playGo 0 [] l

theorem ahead_behind (k : List (BitVec 8)) : ∀ l, ahead k l ++ behind k l = l
  | [] => rfl
  | p :: r => by
    unfold ahead behind
    split
    · rw [List.cons_append, ahead_behind k r]
    · rfl
theorem mem_ahead {k : List (BitVec 8)} {p : Pr} : ∀ {l}, p ∈ ahead k l → lessB p.key k = true
  | [], h => by cases h
  | q :: r, h => by
    unfold ahead at h
    split at h
    · rcases List.mem_cons.1 h with rfl | h
      · assumption
      · exact mem_ahead h
    · cases h
theorem sorted_drop (k : List (BitVec 8)) (l : List Pr) (h : Sorted l) : Sorted (dropK k l) := List.Pairwise.filter _ h
theorem mem_dropK {k : List (BitVec 8)} {p : Pr} {l : List Pr} : p ∈ dropK k l ↔ p ∈ l ∧ p.key ≠ k := by simp [dropK]
theorem mem_behind {k : List (BitVec 8)} : ∀ {l : List Pr}, Sorted l → (∀ p ∈ l, p.key ≠ k) → ∀ p ∈ behind k l, lessB k p.key = true
  | [], _, _, p, h => by cases h
  | q :: r, hs, hk, p, h => by
    have hs' := List.pairwise_cons.1 hs
    unfold behind at h
    split at h
    · exact mem_behind hs'.2 (fun p hp => hk p (List.mem_cons_of_mem _ hp)) p h
    · rename_i hq
      have hq' : lessB k q.key = true := lessB_total q.key k (hk q (by simp)) (by simpa using hq)
      rcases List.mem_cons.1 h with rfl | h
      · exact hq'
      · exact lessB_trans _ _ _ hq' (hs'.1 p h)
theorem sorted_set (p : Pr) (l : List Pr) (h : Sorted l) : Sorted (setP p l) := by
  have hd := sorted_drop p.key l h
  have hab := ahead_behind p.key (dropK p.key l)
  have hk : ∀ q ∈ dropK p.key l, q.key ≠ p.key := fun q hq => (mem_dropK.1 hq).2
  have hb := mem_behind hd hk
  unfold setP
  rw [← hab] at hd
  obtain ⟨h1, h2, h3⟩ := List.pairwise_append.1 hd
  refine List.pairwise_append.2 ⟨h1, List.pairwise_cons.2 ⟨fun q hq => hb q hq, h2⟩, ?_⟩
  intro a ha b hb'
  rcases List.mem_cons.1 hb' with rfl | hb'
  · exact mem_ahead ha
  · exact h3 a ha b hb'

/-- what one doing makes of a book, if it may -/
def doOne (d : Dg) (l : List Pr) : List Pr := if d.gone = true then dropK d.key l else setP ⟨d.key, d.val⟩ l
theorem sorted_do (d : Dg) (l : List Pr) (h : Sorted l) : Sorted (doOne d l) := by
  unfold doOne; split
  · exact sorted_drop _ _ h
  · exact sorted_set _ _ h
/-- what may be in a book -/
def Fits (l : List Pr) : Prop := ∀ p ∈ l, p.key.length ≤ 60 ∧ p.val.length ≤ 200
theorem fits_drop (k : List (BitVec 8)) (l : List Pr) (h : Fits l) : Fits (dropK k l) := fun p hp => h p (mem_dropK.1 hp).1
theorem fits_set (p : Pr) (l : List Pr) (h : Fits l) (hp : p.key.length ≤ 60 ∧ p.val.length ≤ 200) : Fits (setP p l) := by
  intro q hq
  unfold setP at hq
  have hd := fits_drop p.key l h
  rw [← ahead_behind p.key (dropK p.key l)] at hd
  rcases List.mem_append.1 hq with hq | hq
  · exact hd q (List.mem_append_left _ hq)
  · rcases List.mem_cons.1 hq with rfl | hq
    · exact hp
    · exact hd q (List.mem_append_right _ hq)
theorem length_set (p : Pr) (l : List Pr) : (setP p l).length = (dropK p.key l).length + 1 := by
  unfold setP
  have := congrArg List.length (ahead_behind p.key (dropK p.key l))
  rw [List.length_append] at this
  rw [List.length_append, List.length_cons]
  omega
theorem length_drop_le (k : List (BitVec 8)) (l : List Pr) : (dropK k l).length ≤ l.length := List.length_filter_le _ _
/-- what doings make is a book -/
theorem playGo_book : ∀ (l : List Dg) (i : Nat) (out x : List Pr), playGo i out l = .ok x → Sorted out → Fits out → out.length ≤ 200 → Sorted x ∧ Fits x ∧ x.length ≤ 200 := by
  intro l
  induction l with
  | nil => intro i out x h hs hf hn; simp [playGo] at h; subst h; exact ⟨hs, hf, hn⟩
  | cons d r ih =>
    intro i out x h hs hf hn
    rw [playGo] at h
    split at h
    · cases h
    · split at h
      · exact ih _ _ _ h (sorted_drop _ _ hs) (fits_drop _ _ hf) (Nat.le_trans (length_drop_le _ _) hn)
      · split at h
        · cases h
        · exact ih _ _ _ h (sorted_set _ _ hs) (fits_set _ _ hf (by simp; omega)) (by omega)
theorem playL_book (l : List Dg) (x : List Pr) (h : playL l = .ok x) : Sorted x ∧ Fits x ∧ x.length ≤ 200 :=
  playGo_book l 0 [] x h List.Pairwise.nil (fun _ hp => by cases hp) (by simp)
theorem wrongGo_book : ∀ (l : List Pr) (i : Nat) (prev : Option (List (BitVec 8))), Sorted l → Fits l → (∀ k, prev = some k → ∀ p ∈ l, lessB k p.key = true) → wrongGo i prev l = (0, 0) := by
  intro l
  induction l with
  | nil => intro i prev _ _ _; rfl
  | cons p r ih =>
    intro i prev hs hf hp
    have hs' := List.pairwise_cons.1 hs
    have hf' := hf p (by simp)
    rw [wrongGo, if_neg (by omega), if_neg]
    · exact ih _ _ hs'.2 (fun q hq => hf q (by simp [hq])) (fun k hk q hq => by cases hk; exact hs'.1 q hq)
    · cases prev with
      | none => simp [okPrev]
      | some k => simp [okPrev, hp k rfl p (by simp)]
/-- a book is not wrong -/
theorem wrongL_book (l : List Pr) (hs : Sorted l) (hf : Fits l) (hn : l.length ≤ 200) : wrongL l = (0, 0) := by
  unfold wrongL
  rw [if_neg (by omega), wrongGo_book l 0 none hs hf (fun k hk => by cases hk)]
/-- what is not wrong is a book -/
theorem wrongGo_ok : ∀ (l : List Pr) (i : Nat) (prev : Option (List (BitVec 8))) (j : Nat), wrongGo i prev l = (0, j) → Sorted l ∧ Fits l ∧ (∀ k, prev = some k → ∀ p ∈ l, lessB k p.key = true) := by
  intro l
  induction l with
  | nil => intro i prev j _; exact ⟨List.Pairwise.nil, (fun _ hp => by cases hp), (fun _ _ _ hp => by cases hp)⟩
  | cons p r ih =>
    intro i prev j h
    rw [wrongGo] at h
    split at h
    · simp at h
    · split at h
      · simp at h
      · rename_i h1 h2
        obtain ⟨g1, g2, g3⟩ := ih _ _ _ h
        have g4 := g3 p.key rfl
        refine ⟨List.pairwise_cons.2 ⟨g4, g1⟩, ?_, ?_⟩
        · intro q hq
          rcases List.mem_cons.1 hq with rfl | hq
          · omega
          · exact g2 q hq
        · rintro k rfl q hq
          have hkp : lessB k p.key = true := by simpa [okPrev] using h2
          rcases List.mem_cons.1 hq with rfl | hq
          · exact hkp
          · exact lessB_trans _ _ _ hkp (g4 q hq)
/-- doings from a book on: one doing at a time -/
theorem playGo_cons (d : Dg) (r : List Dg) (i : Nat) (out : List Pr) : playGo i out (d :: r) =
    if 60 < d.key.length ∨ 200 < d.val.length then .error (4, i) else if d.gone = false ∧ 200 < (doOne d out).length then .error (5, i) else playGo (i + 1) (doOne d out) r := by
  rw [playGo]
  split
  · rfl
  · unfold doOne
    cases hg : d.gone with
    | true => simp
    | false => simp

/-- a number in four bytes, the high one first -/
def fourB (n : Nat) : List (BitVec 8) := [BitVec.ofNat 8 (n / 16777216 % 256), BitVec.ofNat 8 (n / 65536 % 256), BitVec.ofNat 8 (n / 256 % 256), BitVec.ofNat 8 (n % 256)]
def leafD (k v : List (BitVec 8)) : List (BitVec 8) := sha (0 :: (fourB k.length ++ (k ++ v)))
def nodeD (a b : List (BitVec 8)) : List (BitVec 8) := sha (1 :: (a ++ b))
def topD (n : Nat) (t : List (BitVec 8)) : List (BitVec 8) := sha (2 :: (fourB n ++ t))
/-- the greatest power of two below n, from k on, in so many steps at most -/
def halfF : Nat → Nat → Nat → Nat
  | 0, k, _ => k
  | f + 1, k, n => if n ≤ 2 * k ∨ k = 0 then k else halfF f (2 * k) n
def halfGo (k n : Nat) : Nat := halfF (n - k) k n
theorem halfF_stop (f : Nat) {k n : Nat} (h : n ≤ 2 * k ∨ k = 0) : halfF f k n = k := by
  cases f with
  | zero => rfl
  | succ f => rw [halfF, if_pos h]
theorem halfF_any : ∀ (f f' k n : Nat), n - k ≤ f → n - k ≤ f' → halfF f k n = halfF f' k n := by
  intro f
  induction f with
  | zero => intro f' k n h _; rw [halfF_stop 0 (.inl (by omega)), halfF_stop f' (.inl (by omega))]
  | succ f ih =>
    intro f' k n h h'
    by_cases hs : n ≤ 2 * k ∨ k = 0
    · rw [halfF_stop _ hs, halfF_stop _ hs]
    · cases f' with
      | zero => omega
      | succ f' => rw [halfF, halfF, if_neg hs, if_neg hs, ih f' (2 * k) n (by omega) (by omega)]
theorem halfGo_eq (k n : Nat) : halfGo k n = if n ≤ 2 * k ∨ k = 0 then k else halfGo (2 * k) n := by
  unfold halfGo
  split
  · rename_i h
    exact halfF_stop _ h
  · rename_i h
    obtain ⟨m, hm⟩ : ∃ m, n - k = m + 1 := ⟨n - k - 1, by omega⟩
    rw [hm, halfF, if_neg h]
    exact halfF_any _ _ _ _ (by omega) (Nat.le_refl _)
def halfN (n : Nat) : Nat := halfGo 1 n
theorem halfGo_lt (k n : Nat) (hk : 0 < k) (h : k < n) : 0 < halfGo k n ∧ halfGo k n < n := by
  induction hd : n - k using Nat.strongRecOn generalizing k with
  | _ d ih =>
    rw [halfGo_eq]
    split
    · exact ⟨hk, h⟩
    · exact ih (n - 2 * k) (by omega) (2 * k) (by omega) (by omega) rfl
theorem halfN_lt (n : Nat) (h : 2 ≤ n) : 0 < halfN n ∧ halfN n < n := halfGo_lt 1 n (by omega) (by omega)
/-- the tree of pairs, of so many halvings at most -/
def treeF : Nat → List Pr → List (BitVec 8)
  | 0, [] => []
  | 0, p :: _ => leafD p.key p.val
  | _ + 1, [] => []
  | f + 1, p :: r => if 2 ≤ (p :: r).length then nodeD (treeF f ((p :: r).take (halfN (p :: r).length))) (treeF f ((p :: r).drop (halfN (p :: r).length))) else leafD p.key p.val
/-- the tree of pairs -/
def treeD (l : List Pr) : List (BitVec 8) := treeF l.length l
theorem treeF_one (f : Nat) (p : Pr) : treeF f [p] = leafD p.key p.val := by
  cases f with
  | zero => rfl
  | succ f => rw [treeF, if_neg (by simp)]
theorem treeF_nil (f : Nat) : treeF f [] = [] := by cases f <;> rfl
theorem treeF_any : ∀ (f f' : Nat) (l : List Pr), l.length ≤ f → l.length ≤ f' → treeF f l = treeF f' l := by
  intro f
  induction f with
  | zero =>
    intro f' l h _
    obtain rfl := List.length_eq_zero_iff.1 (show l.length = 0 by omega)
    rw [treeF_nil, treeF_nil]
  | succ f ih =>
    intro f' l h h'
    match l, h, h' with
    | [], _, _ => rw [treeF_nil, treeF_nil]
    | [p], _, _ => rw [treeF_one, treeF_one]
    | p :: q :: r, h, h' =>
      cases f' with
      | zero => simp at h'
      | succ f' =>
        have hl := halfN_lt (p :: q :: r).length (by simp)
        rw [treeF, treeF, if_pos (by simp), if_pos (by simp), ih f' ((p :: q :: r).take (halfN (p :: q :: r).length)) (by rw [List.length_take]; omega) (by rw [List.length_take]; omega),
          ih f' ((p :: q :: r).drop (halfN (p :: q :: r).length)) (by rw [List.length_drop]; omega) (by rw [List.length_drop]; omega)]
theorem treeD_nil : treeD [] = [] := treeF_nil _
theorem treeD_one (p : Pr) : treeD [p] = leafD p.key p.val := treeF_one _ p
theorem treeD_more (l : List Pr) (h : 2 ≤ l.length) : treeD l = nodeD (treeD (l.take (halfN l.length))) (treeD (l.drop (halfN l.length))) := by
  match l, h with
  | p :: q :: r, h =>
    have hl := halfN_lt (p :: q :: r).length (by simp)
    unfold treeD
    conv => lhs; rw [show (p :: q :: r).length = (q :: r).length + 1 from rfl, treeF]
    rw [if_pos (by simp), treeF_any (q :: r).length ((p :: q :: r).take (halfN (p :: q :: r).length)).length _ (by rw [List.length_take]; simp at hl ⊢; omega) (Nat.le_refl _),
      treeF_any (q :: r).length ((p :: q :: r).drop (halfN (p :: q :: r).length)).length _ (by rw [List.length_drop]; simp at hl ⊢; omega) (Nat.le_refl _)]
end Go.Proofs.YtooemgkjkngpcaaGreatDoor
namespace Go.Proofs.YtooemgkjkngpcaaGreatDoor

/-- where a key stands, or would; whether it does -/
def At (k : List (BitVec 8)) (l : List Pr) (i : Nat) (fd : Bool) : Prop :=
  i ≤ l.length ∧ (∀ j p, j < i → l[j]? = some p → lessB p.key k = true) ∧ (∀ j p, i ≤ j → l[j]? = some p → lessB p.key k = false) ∧ (fd = true ↔ ∃ p, l[i]? = some p ∧ p.key = k)
theorem sorted_lt {l : List Pr} (h : Sorted l) {i j : Nat} {p q : Pr} (hij : i < j) (hp : l[i]? = some p) (hq : l[j]? = some q) : lessB p.key q.key = true := by
  obtain ⟨hi, rfl⟩ := List.getElem?_eq_some_iff.1 hp
  obtain ⟨hj, rfl⟩ := List.getElem?_eq_some_iff.1 hq
  exact List.pairwise_iff_getElem.1 h i j hi hj hij
theorem At.found {k : List (BitVec 8)} {l : List Pr} {i : Nat} (h : At k l i true) : ∃ p, l[i]? = some p ∧ p.key = k := h.2.2.2.1 rfl
theorem At.not_found {k : List (BitVec 8)} {l : List Pr} {i : Nat} (h : At k l i false) (p : Pr) (hp : l[i]? = some p) : p.key ≠ k := fun e => by
  have := h.2.2.2.2 ⟨p, hp, e⟩
  cases this
/-- every other pair has another key -/
theorem At.others {k : List (BitVec 8)} {l : List Pr} {i : Nat} {fd : Bool} (h : At k l i fd) (hs : Sorted l) (j : Nat) (p : Pr) (hp : l[j]? = some p) (hne : j ≠ i) : p.key ≠ k := by
  rcases Nat.lt_or_gt_of_ne hne with hlt | hgt
  · exact lessB_ne (h.2.1 j p hlt hp)
  · rintro rfl
    obtain ⟨hj, _⟩ := List.getElem?_eq_some_iff.1 hp
    have hi : l[i]? = some (l[i]'(by omega)) := List.getElem?_eq_getElem _
    have h1 := sorted_lt hs hgt hi hp
    rw [h.2.2.1 i _ (Nat.le_refl _) hi] at h1
    cases h1
theorem filter_all {α : Type} (f : α → Bool) (l : List α) (h : ∀ (j : Nat) (p : α), l[j]? = some p → f p = true) : l.filter f = l :=
  List.filter_eq_self.2 fun p hp => by
    obtain ⟨j, hj, rfl⟩ := List.getElem_of_mem hp
    exact h j _ (List.getElem?_eq_getElem hj)
theorem At.split {k : List (BitVec 8)} {l : List Pr} {i : Nat} (h : At k l i true) : ∃ p, l[i]? = some p ∧ p.key = k ∧ l = l.take i ++ p :: l.drop (i + 1) := by
  obtain ⟨p, hp, hk⟩ := h.found
  obtain ⟨hi, he⟩ := List.getElem?_eq_some_iff.1 hp
  refine ⟨p, hp, hk, ?_⟩
  rw [← he, ← List.drop_eq_getElem_cons hi, List.take_append_drop]
theorem drop_get_some {l : List Pr} {n j : Nat} {p : Pr} (h : (l.drop n)[j]? = some p) : l[n + j]? = some p := by rwa [List.getElem?_drop] at h
theorem take_get_some {l : List Pr} {n j : Nat} {p : Pr} (h : (l.take n)[j]? = some p) : j < n ∧ l[j]? = some p := by
  rw [List.getElem?_take] at h
  split at h
  · exact ⟨by assumption, h⟩
  · cases h
theorem At.drop_found {k : List (BitVec 8)} {l : List Pr} {i : Nat} (h : At k l i true) (hs : Sorted l) : dropK k l = l.take i ++ l.drop (i + 1) := by
  obtain ⟨p, hp, hk, he⟩ := h.split
  have e : dropK k l = dropK k (l.take i ++ p :: l.drop (i + 1)) := by rw [← he]
  rw [e]
  unfold dropK
  rw [List.filter_append, List.filter_cons, if_neg (by simp [hk])]
  rw [filter_all _ _ fun j q hq => ?_, filter_all _ _ fun j q hq => ?_]
  · have := drop_get_some hq
    exact decide_eq_true (h.others hs _ q this (by omega))
  · have := take_get_some hq
    exact decide_eq_true (h.others hs _ q this.2 (by omega))
theorem At.drop_not {k : List (BitVec 8)} {l : List Pr} {i : Nat} (h : At k l i false) (hs : Sorted l) : dropK k l = l := by
  unfold dropK
  refine filter_all _ _ fun j q hq => decide_eq_true ?_
  by_cases e : j = i
  · subst e
    exact h.not_found q hq
  · exact h.others hs j q hq e
theorem ahead_of (k : List (BitVec 8)) : ∀ (a b : List Pr), (∀ (j : Nat) p, a[j]? = some p → lessB p.key k = true) → (∀ p, b[0]? = some p → lessB p.key k = false) → ahead k (a ++ b) = a ∧ behind k (a ++ b) = b
  | [], [], _, _ => ⟨rfl, rfl⟩
  | [], q :: r, _, hb => by
    have := hb q rfl
    rw [List.nil_append, ahead, behind, if_neg (by simp [this]), if_neg (by simp [this])]
    exact ⟨rfl, rfl⟩
  | p :: a, b, ha, hb => by
    have h0 := ha 0 p rfl
    have ih := ahead_of k a b (fun j q hq => ha (j + 1) q (by simpa using hq)) hb
    rw [List.cons_append, ahead, behind, if_pos h0, if_pos h0, ih.1, ih.2]
    exact ⟨rfl, rfl⟩
theorem At.set_found {k : List (BitVec 8)} {l : List Pr} {i : Nat} (h : At k l i true) (hs : Sorted l) (v : List (BitVec 8)) : setP ⟨k, v⟩ l = l.take i ++ ⟨k, v⟩ :: l.drop (i + 1) := by
  unfold setP
  rw [show (⟨k, v⟩ : Pr).key = k from rfl, h.drop_found hs]
  obtain ⟨h1, h2⟩ := ahead_of k (l.take i) (l.drop (i + 1)) (fun j p hp => h.2.1 j p (take_get_some hp).1 (take_get_some hp).2) (fun p hp => h.2.2.1 (i + 1 + 0) p (by omega) (drop_get_some hp))
  rw [h1, h2]
theorem At.set_not {k : List (BitVec 8)} {l : List Pr} {i : Nat} (h : At k l i false) (hs : Sorted l) (v : List (BitVec 8)) : setP ⟨k, v⟩ l = l.take i ++ ⟨k, v⟩ :: l.drop i := by
  unfold setP
  rw [show (⟨k, v⟩ : Pr).key = k from rfl, h.drop_not hs]
  obtain ⟨h1, h2⟩ := ahead_of k (l.take i) (l.drop i) (fun j p hp => h.2.1 j p (take_get_some hp).1 (take_get_some hp).2) (fun p hp => h.2.2.1 (i + 0) p (by omega) (drop_get_some hp))
  rw [List.take_append_drop] at h1 h2
  rw [h1, h2]
end Go.Proofs.YtooemgkjkngpcaaGreatDoor
namespace Go.Proofs.YtooemgkjkngpcaaGreatDoor

end Go.Proofs.YtooemgkjkngpcaaGreatDoor
namespace Go.Proofs.YtooemgkjkngpcaaGreatDoor
open Go.RowKit

theorem Lists.mono {w : World} {N M : Nat} {sv : Value} {ls : List (List (BitVec 8))} (h : Lists w N sv ls) (hN : N ≤ M) : Lists w M sv ls := by
  rcases h with h | h | ⟨b, off, cap, h1, h2, h3⟩
  · exact .inl h
  · exact .inr (.inl h)
  · refine .inr (.inr ⟨b, off, cap, h1, h2, fun i hi => ?_⟩)
    obtain ⟨hb, x, hx, hbx⟩ := h3 i hi
    exact ⟨Nat.lt_of_lt_of_le hb hN, x, hx, hbx.mono hN⟩
end Go.Proofs.YtooemgkjkngpcaaGreatDoor
namespace Go.Proofs.YtooemgkjkngpcaaGreatDoor

end Go.Proofs.YtooemgkjkngpcaaGreatDoor
namespace Go.Proofs.YtooemgkjkngpcaaGreatDoor
open Go.RowKit

set_option maxHeartbeats 1000000 in
set_option maxRecDepth 100000 in
theorem len64_small (x : Nat) (w : World) (h : x < 256) : Calls Tryz.prog 173 #[.int .u64 (x : Int)] w fun e w' => e = .returned (.int .i64 (Lib.bitLen x : Int)) ∧ w' = w := by
  have e1 : decide ((4294967296 : Int) ≤ (x : Int)) = false := by simp; omega
  have e2 : decide ((65536 : Int) ≤ (x : Int)) = false := by simp; omega
  have e3 : decide ((256 : Int) ≤ (x : Int)) = false := by simp; omega
  go_enter Tryz.func173, Tryz.ntmps173
  go_wp2
  all_goals (go_ret; refine ⟨congrArg Ending.returned (congrArg (Value.int IntKind.i64) ?_), rfl⟩)
  have hl := Lib.bitLen_le8 ⟨x, h⟩
  have he := Lib.len8_eq ⟨x, h⟩
  unfold Lib.len8 at he
  simp only [Int.toNat_natCast] at he
  have hs : x < Lib.len8tab.size := by rw [show Lib.len8tab.size = 256 from by kernel_rfl]; exact h
  rw [getElem?_pos Lib.len8tab x hs] at he
  simp only at hl he
  have he2 : ((Lib.len8tab[x]'hs).toNat : Int) = (Lib.bitLen x : Int) := he
  rw [he2]
  unfold wrap64
  omega
theorem half_bits : ∀ n : Fin 257, 2 ≤ n.val → 1 ≤ Lib.bitLen (n.val - 1) ∧ Lib.bitLen (n.val - 1) ≤ 8 ∧ halfN n.val = 2 ^ (Lib.bitLen (n.val - 1) - 1) := by decide +kernel
set_option maxHeartbeats 1000000 in
theorem len_small (x : Nat) (w : World) (h : x < 256) : Calls Tryz.prog 154 #[.int .u64 (x : Int)] w fun e w' => e = .returned (.int .i64 (Lib.bitLen x : Int)) ∧ w' = w := by
  have HL := hid (len64_small x w h)
  go_enter Tryz.func154, Tryz.ntmps154
  go_wp2_with fail
  refine HL.out.mono ?_
  rintro e w' ⟨rfl, hw⟩
  obtain rfl := hw.symm
  go_wp2
  go_ret
  exact ⟨rfl, rfl⟩
set_option maxHeartbeats 1000000 in
theorem split_any (n : Nat) (w : World) (h2 : 2 ≤ n) (hn : n ≤ 256) : Calls Tryz.prog 124 #[.int .i64 (n : Int)] w fun e w' => e = .returned (.int .i64 (halfN n : Int)) ∧ w' = w := by
  obtain ⟨h1, h8, hh⟩ := half_bits ⟨n, by omega⟩ h2
  simp only at h1 h8 hh
  obtain ⟨x, hx⟩ : ∃ x, n - 1 = x := ⟨_, rfl⟩
  rw [hx] at h1 h8 hh
  obtain ⟨b, hb⟩ : ∃ b, Lib.bitLen x = b := ⟨_, rfl⟩
  have HL := hid (len_small x w (by omega))
  rw [hb] at h1 h8 hh HL
  have HH := hid hh
  have e1 : (n : Int) - 1 = (x : Int) := by omega
  have e2 : decide ((n : Int) < 2) = false := by simp; omega
  clear hh hb hx
  go_enter Tryz.func124, Tryz.ntmps124
  go_wp2_with fail
  refine HL.out.mono ?_
  rintro e w' ⟨rfl, hw⟩
  obtain rfl := hw.symm
  have hcases : b = 1 ∨ b = 2 ∨ b = 3 ∨ b = 4 ∨ b = 5 ∨ b = 6 ∨ b = 7 ∨ b = 8 := by omega
  rcases hcases with rfl | rfl | rfl | rfl | rfl | rfl | rfl | rfl <;>
    (go_wp2
     go_ret
     exact ⟨by rw [HH.out]; rfl, rfl⟩)
end Go.Proofs.YtooemgkjkngpcaaGreatDoor
namespace Go.Proofs.YtooemgkjkngpcaaGreatDoor
open Go.RowKit

set_option maxRecDepth 100000 in
set_option maxHeartbeats 1000000 in
theorem refJoin_any (ls : List (List (BitVec 8))) (sv : Value) (N : Nat) (w : World) (hN : N ≤ w.heap.size) (hb : Lists w N sv ls) (hlen : ls.flatten.length ≤ 1000000) (hn : ls.length ≤ 1000000) :
    Calls Tryz.prog 127 #[sv] w fun e w' => ∃ v, e = .returned v ∧ OwnB w' w.heap.size v ls.flatten ∧ Below w.heap.size w w' := by
  obtain ⟨oa, ca, rfl, hca⟩ := hb.shape
  have HB := hid hb
  clear hb
  generalize hnn : ls.length = n at *
  have HN := hid hnn
  clear hnn
  go_enter Tryz.func127, Tryz.ntmps127
  go_wp2_with fail
  go_loopw [3, 8] (fun y i wr => ∃ k : Nat, k ≤ n ∧ i = .int .i64 (k : Int) ∧ Hid (OwnB wr w.heap.size y (ls.take k).flatten ∧ Below w.heap.size w wr)) (fun _ i _ => n - (intOf i).toNat)
  case atStart => exact ⟨0, by omega, rfl, OwnB.nil _ _, Below.refl _ _⟩
  case round =>
    obtain ⟨k, hk, rfl, HR⟩ := hrel
    by_cases hlt : k < n
    · have h1 : Lists w N (.slice oa ls.length ca) ls := by rw [HN.out]; exact HB.out
      obtain ⟨b, o, rfl, hc⟩ := h1.some (by rw [HN.out]; omega)
      obtain ⟨hbN, x, hx, hbx⟩ := hc k (by rw [HN.out]; exact hlt)
      obtain ⟨o1, c1, rfl, hc1⟩ := hbx.shape
      have f0 := (HR.out.2.cell (p := ⟨b, o + k, none⟩) (show b < w.heap.size by omega)).trans hx
      have HT := hid (flatten_take_succ ls k (by rw [HN.out]; exact hlt))
      have HL := hid (show (ls.take k).flatten.length + (ls.getD k []).length ≤ 140737488355328 by
        have h2 := flatten_take_le ls (k + 1)
        rw [HT.out, List.length_append] at h2
        omega)
      have HBX := hid (hbx.below (HR.out.2.mono hN))
      have HSZ := hid (show w.heap.size ≤ wr.heap.size from HR.out.2.size)
      have hlt' : (k : Int) < (n : Int) := by omega
      clear h1 hc hx hbx
      go_wp2_with (at_builtin; refine wpList_append_keep rfl (.tmp 12) (.tmp 13) rfl w.heap.size _ (ls.take k).flatten rfl HR.out.1 _ (ls.getD k []) rfl HBX.out HL.out HSZ.out ?_; intro v' w1 hown1 hbe1 hke1)
      go_roundw
      case rel => exact ⟨k + 1, by omega, by go_num, by rw [HT.out]; exact hown1, HR.out.2.trans hbe1⟩
      case measure => simp [intOf]; omega
    · have hge : decide ((k : Int) < (n : Int)) = false := by simp; omega
      have HT := hid (show (ls.take k).flatten = ls.flatten by rw [List.take_of_length_le (by rw [HN.out]; omega)])
      go_wp2
      go_ret
      exact ⟨_, rfl, by rw [← HT.out]; exact HR.out.1, HR.out.2⟩
theorem V_ofNat (m : Nat) (h : m < 256) : V (BitVec.ofNat 8 m) = .int .u8 (m : Int) := by
  unfold V b8
  simp
  omega
theorem four_cells (n : Nat) : (fourB n).map V = [.int .u8 ((n : Int) / 16777216 % 256), .int .u8 ((n : Int) / 65536 % 256), .int .u8 ((n : Int) / 256 % 256), .int .u8 ((n : Int) % 256)] := by
  unfold fourB
  simp only [List.map_cons, List.map_nil]
  rw [V_ofNat _ (by omega), V_ofNat _ (by omega), V_ofNat _ (by omega), V_ofNat _ (by omega)]
  simp
set_option maxRecDepth 100000 in
set_option maxHeartbeats 1000000 in
theorem refFour_any (n : Nat) (w : World) (hn : n < 1000000) : Calls Tryz.prog 128 #[.int .i64 (n : Int)] w fun e w' =>
    e = .returned (.slice (some ⟨w.heap.size, 0, none⟩) 4 4) ∧ w' = w.alloc (.cells ((fourB n).map V).toArray 5) := by
  go_enter Tryz.func128, Tryz.ntmps128
  go_wp2
  go_ret
  refine ⟨rfl, ?_⟩
  rw [four_cells]
end Go.Proofs.YtooemgkjkngpcaaGreatDoor
