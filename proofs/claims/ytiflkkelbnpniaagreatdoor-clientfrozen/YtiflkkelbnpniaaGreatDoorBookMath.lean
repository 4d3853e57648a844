/-
  Plain mathematics of books: bytes in order, pairs by their keys, doings, and what stands under a key; a book knows no past. No program is named here. What a key's place in a book says: what stands under it, what dropping it, and setting it, makes. No program is named here.
  Plain mathematics of proofs: the way from the root of a tree to a place, what stands on its other sides, what is reckoned from a leaf upwards; where two reckonings meet, what is beneath is the same, or two lists of bytes have one digest. No program is named here.
  Proofs and gaps as values: what their cells read as. No function of the program is named here.
  Plain mathematics of what a proof's digests are of: layers from the root down to the pair. Where two proofs of one root part first, two lists of bytes have one digest. No program is named here.
  What math/bits.Len of small numbers, and package book's split, answer.
  What the document's Join and Four answer: bytes one behind the other, in new memory; a number in four bytes.
-/
import Derived.Test.YtiflkkelbnpniaaGreatDoorMemB
import Derived.Lib.Walk
import Derived.Lib.BitFns
namespace Go.Proofs.YtiflkkelbnpniaaGreatDoor

/-- bytes in order: byte by byte; one that begins another one is less -/
def lessB : List (BitVec 8) → List (BitVec 8) → Bool
  | [], [] => false
  | [], _ :: _ => true
  | _ :: _, [] => false
  | x :: a, y :: b => if x = y then lessB a b else decide (x.toNat < y.toNat)
theorem lessB_irrefl : ∀ a, lessB a a = false
  | [] => rfl
  | x :: a => by rw [lessB, if_pos rfl]; exact lessB_irrefl a
theorem lessB_trans : ∀ a b c, lessB a b = true → lessB b c = true → lessB a c = true
  | [], [], _, h, _ => by cases h
  | [], _ :: _, [], _, h => by cases h
  | [], _ :: _, _ :: _, _, _ => rfl
  | _ :: _, [], _, h, _ => by cases h
  | _ :: _, _ :: _, [], _, h => by cases h
  | x :: a, y :: b, z :: c, h1, h2 => by
    rw [lessB] at h1 h2 ⊢
    by_cases e1 : x = y
    · subst e1
      rw [if_pos rfl] at h1
      by_cases e2 : x = z
      · rw [if_pos e2] at h2 ⊢
        exact lessB_trans a b c h1 h2
      · rw [if_neg e2] at h2 ⊢
        exact h2
    · rw [if_neg e1] at h1
      by_cases e2 : y = z
      · subst e2
        rw [if_neg e1]
        exact h1
      · rw [if_neg e2] at h2
        have g1 := of_decide_eq_true h1
        have g2 := of_decide_eq_true h2
        have e3 : ¬ x = z := by rintro rfl; omega
        rw [if_neg e3]
        exact decide_eq_true (by omega)
theorem lessB_total : ∀ a b, a ≠ b → lessB a b = false → lessB b a = true
  | [], [], h, _ => absurd rfl h
  | [], _ :: _, _, h => by cases h
  | _ :: _, [], _, _ => rfl
  | x :: a, y :: b, h, h1 => by
    rw [lessB] at h1 ⊢
    by_cases e : x = y
    · subst e
      rw [if_pos rfl] at h1 ⊢
      exact lessB_total a b (fun h' => h (by rw [h'])) h1
    · rw [if_neg e] at h1
      rw [if_neg (fun h' => e h'.symm)]
      have g1 := of_decide_eq_false h1
      refine decide_eq_true ?_
      rcases Nat.lt_or_ge y.toNat x.toNat with h' | h'
      · exact h'
      · exact absurd (BitVec.eq_of_toNat_eq (by omega)) e
theorem lessB_asymm (a b : List (BitVec 8)) (h : lessB a b = true) : lessB b a = false := by
  cases hb : lessB b a with
  | false => rfl
  | true =>
    have := lessB_trans a b a h hb
    rw [lessB_irrefl] at this
    cases this
theorem lessB_ne {a b : List (BitVec 8)} (h : lessB a b = true) : a ≠ b := by
  rintro rfl
  rw [lessB_irrefl] at h
  cases h

/-- a pair of a book -/
structure Pr where
  key : List (BitVec 8)
  val : List (BitVec 8)
/-- a doing with a book -/
structure Dg where
  key : List (BitVec 8)
  val : List (BitVec 8)
  gone : Bool
/-- pairs in the order of their keys -/
def Sorted (l : List Pr) : Prop := l.Pairwise (fun p q => lessB p.key q.key = true)
/-- what stands under a key -/
def getL (k : List (BitVec 8)) : List Pr → Option (List (BitVec 8))
  | [] => none
  | p :: r => if p.key = k then some p.val else getL k r
/-- without a key -/
def dropK (k : List (BitVec 8)) (l : List Pr) : List Pr := l.filter (fun p => decide (p.key ≠ k))
/-- those ahead of a key, and the others -/
def ahead (k : List (BitVec 8)) : List Pr → List Pr
  | [] => []
  | p :: r => if lessB p.key k = true then p :: ahead k r else []
def behind (k : List (BitVec 8)) : List Pr → List Pr
  | [] => []
  | p :: r => if lessB p.key k = true then behind k r else p :: r
/-- a pair comes, in the place of one with its key -/
def setP (p : Pr) (l : List Pr) : List Pr := ahead p.key (dropK p.key l) ++ p :: behind p.key (dropK p.key l)
/-- too much -/
def tooMuch (k v : List (BitVec 8)) : Prop := 60 < k.length ∨ 200 < v.length
/-- the key ahead is less -/
def okPrev (prev : Option (List (BitVec 8))) (k : List (BitVec 8)) : Bool := match prev with | none => true | some q => lessB q k
def wrongGo (i : Nat) (prev : Option (List (BitVec 8))) : List Pr → Int × Nat
  | [] => (0, 0)
  | p :: r => if 60 < p.key.length ∨ 200 < p.val.length then (4, i) else
    if okPrev prev p.key = false then (2, i) else wrongGo (i + 1) (some p.key) r
/-- what is wrong with a book, and where -/
def wrongL (l : List Pr) : Int × Nat := if 200 < l.length then (5, 0) else wrongGo 0 none l
def playGo (i : Nat) (out : List Pr) : List Dg → Except (Int × Nat) (List Pr)
  | [] => .ok out
  | d :: r => if 60 < d.key.length ∨ 200 < d.val.length then .error (4, i)
    else if d.gone = true then playGo (i + 1) (dropK d.key out) r
    else if 200 < (setP ⟨d.key, d.val⟩ out).length then .error (5, i)
    else playGo (i + 1) (setP ⟨d.key, d.val⟩ out) r
/-- what doings make -/
def playL (l : List Dg) : Except (Int × Nat) (List Pr) := playGo 0 [] l

theorem ahead_behind (k : List (BitVec 8)) : ∀ l, ahead k l ++ behind k l = l
  | [] => rfl
  | p :: r => by
    unfold ahead behind
    split
    · rw [List.cons_append, ahead_behind k r]
    · rfl
theorem mem_ahead {k : List (BitVec 8)} {p : Pr} : ∀ {l}, p ∈ ahead k l → lessB p.key k = true
  | [], h => by cases h
  | q :: r, h => by
    unfold ahead at h
    split at h
    · rcases List.mem_cons.1 h with rfl | h
      · assumption
      · exact mem_ahead h
    · cases h
theorem sorted_drop (k : List (BitVec 8)) (l : List Pr) (h : Sorted l) : Sorted (dropK k l) := List.Pairwise.filter _ h
theorem mem_dropK {k : List (BitVec 8)} {p : Pr} {l : List Pr} : p ∈ dropK k l ↔ p ∈ l ∧ p.key ≠ k := by simp [dropK]
theorem mem_behind {k : List (BitVec 8)} : ∀ {l : List Pr}, Sorted l → (∀ p ∈ l, p.key ≠ k) → ∀ p ∈ behind k l, lessB k p.key = true
  | [], _, _, p, h => by cases h
  | q :: r, hs, hk, p, h => by
    have hs' := List.pairwise_cons.1 hs
    unfold behind at h
    split at h
    · exact mem_behind hs'.2 (fun p hp => hk p (List.mem_cons_of_mem _ hp)) p h
    · rename_i hq
      have hq' : lessB k q.key = true := lessB_total q.key k (hk q (by simp)) (by simpa using hq)
      rcases List.mem_cons.1 h with rfl | h
      · exact hq'
      · exact lessB_trans _ _ _ hq' (hs'.1 p h)
theorem sorted_set (p : Pr) (l : List Pr) (h : Sorted l) : Sorted (setP p l) := by
  have hd := sorted_drop p.key l h
  have hab := ahead_behind p.key (dropK p.key l)
  have hk : ∀ q ∈ dropK p.key l, q.key ≠ p.key := fun q hq => (mem_dropK.1 hq).2
  have hb := mem_behind hd hk
  unfold setP
  rw [← hab] at hd
  obtain ⟨h1, h2, h3⟩ := List.pairwise_append.1 hd
  refine List.pairwise_append.2 ⟨h1, List.pairwise_cons.2 ⟨fun q hq => hb q hq, h2⟩, ?_⟩
  intro a ha b hb'
  rcases List.mem_cons.1 hb' with rfl | hb'
  · exact mem_ahead ha
  · exact h3 a ha b hb'
theorem getL_none {k : List (BitVec 8)} : ∀ {l : List Pr}, (∀ p ∈ l, p.key ≠ k) → getL k l = none
  | [], _ => rfl
  | p :: r, h => by
    rw [getL, if_neg (h p (by simp))]
    exact getL_none (fun q hq => h q (by simp [hq]))
theorem getL_append (k : List (BitVec 8)) : ∀ (l m : List Pr), getL k (l ++ m) = (getL k l).or (getL k m)
  | [], m => by simp [getL]
  | p :: r, m => by
    rw [List.cons_append, getL, getL]
    split
    · rfl
    · exact getL_append k r m
theorem getL_drop_same (k : List (BitVec 8)) (l : List Pr) : getL k (dropK k l) = none := getL_none fun _ hp => (mem_dropK.1 hp).2
theorem getL_drop_other (k k' : List (BitVec 8)) (h : k' ≠ k) : ∀ l : List Pr, getL k' (dropK k l) = getL k' l
  | [] => rfl
  | p :: r => by
    have ih := getL_drop_other k k' h r
    unfold dropK at ih ⊢
    rw [List.filter_cons]
    split
    · rw [getL, getL, ih]
    · rename_i hp
      have hp' : p.key = k := by simpa using hp
      rw [ih, getL, if_neg (by rw [hp']; exact fun e => h e.symm)]
theorem getL_set_same (p : Pr) (l : List Pr) : getL p.key (setP p l) = some p.val := by
  unfold setP
  rw [getL_append, getL_none (fun q hq => ?_), Option.none_or, getL, if_pos rfl]
  exact lessB_ne (mem_ahead hq)
theorem getL_set_other (p : Pr) (k : List (BitVec 8)) (h : k ≠ p.key) (l : List Pr) : getL k (setP p l) = getL k l := by
  rw [← getL_drop_other p.key k h l]
  conv => rhs; rw [← ahead_behind p.key (dropK p.key l)]
  unfold setP
  rw [getL_append, getL_append, getL, if_neg (fun e => h e.symm)]
theorem getL_head {p : Pr} {r : List Pr} : getL p.key (p :: r) = some p.val := by rw [getL, if_pos rfl]
theorem getL_mem {k v : List (BitVec 8)} : ∀ {l : List Pr}, getL k l = some v → ∃ p ∈ l, p.key = k
  | [], h => by cases h
  | p :: r, h => by
    rw [getL] at h
    split at h
    · exact ⟨p, by simp, by assumption⟩
    · obtain ⟨q, hq, e⟩ := getL_mem h
      exact ⟨q, by simp [hq], e⟩
/-- books in which the same stands under each key are the same -/
theorem sorted_ext : ∀ (l m : List Pr), Sorted l → Sorted m → (∀ k, getL k l = getL k m) → l = m
  | [], [], _, _, _ => rfl
  | [], q :: m, _, _, h => by have := h q.key; rw [getL_head] at this; cases this
  | p :: l, [], _, _, h => by have := h p.key; rw [getL_head] at this; cases this
  | p :: l, q :: m, hl, hm, h => by
    have hl' := List.pairwise_cons.1 hl
    have hm' := List.pairwise_cons.1 hm
    have hk : p.key = q.key := by
      by_cases e : p.key = q.key
      · exact e
      · exfalso
        have h1 := h p.key
        rw [getL_head, getL, if_neg (fun e' => e e'.symm)] at h1
        obtain ⟨a, ha, ea⟩ := getL_mem h1.symm
        have h2 := h q.key
        rw [getL_head, getL, if_neg e] at h2
        obtain ⟨b, hb, eb⟩ := getL_mem h2
        have g1 := hm'.1 a ha
        have g2 := hl'.1 b hb
        rw [ea] at g1
        rw [eb] at g2
        have := lessB_asymm _ _ g1
        rw [g2] at this
        cases this
    have hv : p.val = q.val := by
      have h1 := h p.key
      rw [getL_head, hk, getL_head] at h1
      simpa using h1
    have ht : l = m := by
      refine sorted_ext l m hl'.2 hm'.2 (fun k => ?_)
      by_cases e : k = p.key
      · subst e
        rw [getL_none (fun a ha e' => lessB_ne (hl'.1 a ha) e'.symm), getL_none (fun a ha e' => lessB_ne (hm'.1 a ha) (by rw [e', hk]))]
      · have h1 := h k
        rw [getL, if_neg (fun e' => e e'.symm), getL, if_neg (fun e' => e (by rw [hk, e']))] at h1
        exact h1
    rw [ht]
    congr 1
    obtain ⟨pk, pv⟩ := p
    obtain ⟨qk, qv⟩ := q
    simp at hk hv
    rw [hk, hv]

/-- what one doing makes of a book, if it may -/
def doOne (d : Dg) (l : List Pr) : List Pr := if d.gone = true then dropK d.key l else setP ⟨d.key, d.val⟩ l
theorem sorted_do (d : Dg) (l : List Pr) (h : Sorted l) : Sorted (doOne d l) := by
  unfold doOne; split
  · exact sorted_drop _ _ h
  · exact sorted_set _ _ h
theorem get_do_same (d : Dg) (l : List Pr) : getL d.key (doOne d l) = if d.gone = true then none else some d.val := by
  unfold doOne; split
  · exact getL_drop_same _ _
  · exact getL_set_same ⟨d.key, d.val⟩ l
theorem get_do_other (d : Dg) (k : List (BitVec 8)) (h : k ≠ d.key) (l : List Pr) : getL k (doOne d l) = getL k l := by
  unfold doOne; split
  · exact getL_drop_other _ _ h _
  · exact getL_set_other ⟨d.key, d.val⟩ k h l
/-- doings of different keys know no order -/
theorem do_comm (a b : Dg) (h : a.key ≠ b.key) (l : List Pr) (hl : Sorted l) : doOne a (doOne b l) = doOne b (doOne a l) := by
  refine sorted_ext _ _ (sorted_do _ _ (sorted_do _ _ hl)) (sorted_do _ _ (sorted_do _ _ hl)) (fun k => ?_)
  by_cases ea : k = a.key
  · subst ea
    rw [get_do_same, get_do_other b a.key h, get_do_same]
  · rw [get_do_other a k ea]
    by_cases eb : k = b.key
    · subst eb
      rw [get_do_same, get_do_same]
    · rw [get_do_other b k eb, get_do_other b k eb, get_do_other a k ea]
/-- what may be in a book -/
def Fits (l : List Pr) : Prop := ∀ p ∈ l, p.key.length ≤ 60 ∧ p.val.length ≤ 200
theorem fits_drop (k : List (BitVec 8)) (l : List Pr) (h : Fits l) : Fits (dropK k l) := fun p hp => h p (mem_dropK.1 hp).1
theorem fits_set (p : Pr) (l : List Pr) (h : Fits l) (hp : p.key.length ≤ 60 ∧ p.val.length ≤ 200) : Fits (setP p l) := by
  intro q hq
  unfold setP at hq
  have hd := fits_drop p.key l h
  rw [← ahead_behind p.key (dropK p.key l)] at hd
  rcases List.mem_append.1 hq with hq | hq
  · exact hd q (List.mem_append_left _ hq)
  · rcases List.mem_cons.1 hq with rfl | hq
    · exact hp
    · exact hd q (List.mem_append_right _ hq)
theorem length_set (p : Pr) (l : List Pr) : (setP p l).length = (dropK p.key l).length + 1 := by
  unfold setP
  have := congrArg List.length (ahead_behind p.key (dropK p.key l))
  rw [List.length_append] at this
  rw [List.length_append, List.length_cons]
  omega
theorem length_drop_le (k : List (BitVec 8)) (l : List Pr) : (dropK k l).length ≤ l.length := List.length_filter_le _ _
/-- what doings make is a book -/
theorem playGo_book : ∀ (l : List Dg) (i : Nat) (out x : List Pr), playGo i out l = .ok x → Sorted out → Fits out → out.length ≤ 200 → Sorted x ∧ Fits x ∧ x.length ≤ 200 := by
  intro l
  induction l with
  | nil => intro i out x h hs hf hn; simp [playGo] at h; subst h; exact ⟨hs, hf, hn⟩
  | cons d r ih =>
    intro i out x h hs hf hn
    rw [playGo] at h
    split at h
    · cases h
    · split at h
      · exact ih _ _ _ h (sorted_drop _ _ hs) (fits_drop _ _ hf) (Nat.le_trans (length_drop_le _ _) hn)
      · split at h
        · cases h
        · exact ih _ _ _ h (sorted_set _ _ hs) (fits_set _ _ hf (by simp; omega)) (by omega)
theorem playL_book (l : List Dg) (x : List Pr) (h : playL l = .ok x) : Sorted x ∧ Fits x ∧ x.length ≤ 200 :=
  playGo_book l 0 [] x h List.Pairwise.nil (fun _ hp => by cases hp) (by simp)
theorem wrongGo_book : ∀ (l : List Pr) (i : Nat) (prev : Option (List (BitVec 8))), Sorted l → Fits l → (∀ k, prev = some k → ∀ p ∈ l, lessB k p.key = true) → wrongGo i prev l = (0, 0) := by
  intro l
  induction l with
  | nil => intro i prev _ _ _; rfl
  | cons p r ih =>
    intro i prev hs hf hp
    have hs' := List.pairwise_cons.1 hs
    have hf' := hf p (by simp)
    rw [wrongGo, if_neg (by omega), if_neg]
    · exact ih _ _ hs'.2 (fun q hq => hf q (by simp [hq])) (fun k hk q hq => by cases hk; exact hs'.1 q hq)
    · cases prev with
      | none => simp [okPrev]
      | some k => simp [okPrev, hp k rfl p (by simp)]
/-- a book is not wrong -/
theorem wrongL_book (l : List Pr) (hs : Sorted l) (hf : Fits l) (hn : l.length ≤ 200) : wrongL l = (0, 0) := by
  unfold wrongL
  rw [if_neg (by omega), wrongGo_book l 0 none hs hf (fun k hk => by cases hk)]
/-- what is not wrong is a book -/
theorem wrongGo_ok : ∀ (l : List Pr) (i : Nat) (prev : Option (List (BitVec 8))) (j : Nat), wrongGo i prev l = (0, j) → Sorted l ∧ Fits l ∧ (∀ k, prev = some k → ∀ p ∈ l, lessB k p.key = true) := by
  intro l
  induction l with
  | nil => intro i prev j _; exact ⟨List.Pairwise.nil, (fun _ hp => by cases hp), (fun _ _ _ hp => by cases hp)⟩
  | cons p r ih =>
    intro i prev j h
    rw [wrongGo] at h
    split at h
    · simp at h
    · split at h
      · simp at h
      · rename_i h1 h2
        obtain ⟨g1, g2, g3⟩ := ih _ _ _ h
        have g4 := g3 p.key rfl
        refine ⟨List.pairwise_cons.2 ⟨g4, g1⟩, ?_, ?_⟩
        · intro q hq
          rcases List.mem_cons.1 hq with rfl | hq
          · omega
          · exact g2 q hq
        · rintro k rfl q hq
          have hkp : lessB k p.key = true := by simpa [okPrev] using h2
          rcases List.mem_cons.1 hq with rfl | hq
          · exact hkp
          · exact lessB_trans _ _ _ hkp (g4 q hq)
/-- doings from a book on: one doing at a time -/
theorem playGo_cons (d : Dg) (r : List Dg) (i : Nat) (out : List Pr) : playGo i out (d :: r) =
    if 60 < d.key.length ∨ 200 < d.val.length then .error (4, i) else if d.gone = false ∧ 200 < (doOne d out).length then .error (5, i) else playGo (i + 1) (doOne d out) r := by
  rw [playGo]
  split
  · rfl
  · unfold doOne
    cases hg : d.gone with
    | true => simp
    | false => simp
theorem playGo_append : ∀ (l m : List Dg) (i : Nat) (out : List Pr), playGo i out (l ++ m) = match playGo i out l with | .error e => .error e | .ok x => playGo (i + l.length) x m := by
  intro l
  induction l with
  | nil => intro m i out; rfl
  | cons d r ih =>
    intro m i out
    rw [List.cons_append, playGo_cons, playGo_cons]
    split
    · rfl
    · split
      · rfl
      · rw [ih]
        simp only [List.length_cons]
        rw [show i + 1 + r.length = i + (r.length + 1) by omega]
/-- what comes in front of all others -/
theorem set_front (p : Pr) (l : List Pr) (h : ∀ q ∈ l, lessB p.key q.key = true) : setP p l = p :: l := by
  have hd : dropK p.key l = l := by
    unfold dropK
    rw [List.filter_eq_self]
    intro q hq
    exact decide_eq_true (fun e => lessB_ne (h q hq) e.symm)
  unfold setP
  rw [hd]
  cases l with
  | nil => rfl
  | cons q r =>
    have hq : ¬ lessB q.key p.key = true := by rw [lessB_asymm _ _ (h q (by simp))]; simp
    rw [ahead, behind, if_neg hq, if_neg hq]
    rfl
/-- a book's own pairs as doings, from the last one on -/
def back (x : List Pr) : List Dg := (x.map fun p => (⟨p.key, p.val, false⟩ : Dg)).reverse
theorem play_back : ∀ (x : List Pr) (i : Nat), Sorted x → Fits x → x.length ≤ 200 → playGo i [] (back x) = .ok x := by
  intro x
  induction x with
  | nil => intro i _ _ _; rfl
  | cons p r ih =>
    intro i hs hf hn
    have hs' := List.pairwise_cons.1 hs
    have hp := hf p (by simp)
    have e : back (p :: r) = back r ++ [⟨p.key, p.val, false⟩] := by simp [back]
    rw [List.length_cons] at hn
    rw [e, playGo_append, ih i hs'.2 (fun q hq => hf q (by simp [hq])) (by omega)]
    simp only
    have hset : doOne ⟨p.key, p.val, false⟩ r = p :: r := by
      unfold doOne
      rw [if_neg (by simp)]
      exact set_front p r hs'.1
    rw [playGo_cons, if_neg (by simp; omega), hset, if_neg (by simp; omega), playGo]
theorem play_snoc (l : List Dg) (d : Dg) (a b : List Pr) (h1 : playL l = .ok a) (h2 : playL (l ++ [d]) = .ok b) : b = doOne d a := by
  unfold playL at h1 h2
  rw [playGo_append, h1] at h2
  simp only at h2
  rw [playGo_cons] at h2
  split at h2
  · cases h2
  · split at h2
    · cases h2
    · simpa [playGo] using h2.symm
theorem play_two (l : List Dg) (a b : Dg) (x : List Pr) (h : playL (l ++ [a, b]) = .ok x) : ∃ z, playL l = .ok z ∧ x = doOne b (doOne a z) := by
  have e : l ++ [a, b] = (l ++ [a]) ++ [b] := by simp
  rw [e] at h
  have h' := h
  unfold playL at h'
  rw [playGo_append] at h'
  split at h'
  · cases h'
  · rename_i y hy
    have hy' := hy
    rw [playGo_append] at hy'
    split at hy'
    · cases hy'
    · rename_i z hz
      have h1 : playL l = .ok z := hz
      have h2 : playL (l ++ [a]) = .ok y := hy
      refine ⟨z, h1, ?_⟩
      rw [play_snoc _ b y x h2 h, play_snoc l a z y h1 h2]
/-- a book knows no past -/
theorem play_past (l : List Dg) (a b : Dg) (x y : List Pr) (h1 : playL (l ++ [a, b]) = .ok x) (h2 : playL (l ++ [b, a]) = .ok y) (hk : a.key ≠ b.key) : x = y := by
  obtain ⟨z, hz, rfl⟩ := play_two l a b x h1
  obtain ⟨z', hz', rfl⟩ := play_two l b a y h2
  rw [hz] at hz'
  obtain rfl : z = z' := by simpa using hz'
  exact do_comm b a (fun e => hk e.symm) z (playL_book l z hz).1

/-- a number in four bytes, the high one first -/
def fourB (n : Nat) : List (BitVec 8) := [BitVec.ofNat 8 (n / 16777216 % 256), BitVec.ofNat 8 (n / 65536 % 256), BitVec.ofNat 8 (n / 256 % 256), BitVec.ofNat 8 (n % 256)]
def leafD (k v : List (BitVec 8)) : List (BitVec 8) := sha (0 :: (fourB k.length ++ (k ++ v)))
def nodeD (a b : List (BitVec 8)) : List (BitVec 8) := sha (1 :: (a ++ b))
def topD (n : Nat) (t : List (BitVec 8)) : List (BitVec 8) := sha (2 :: (fourB n ++ t))
/-- the greatest power of two below n, from k on, in so many steps at most -/
def halfF : Nat → Nat → Nat → Nat
  | 0, k, _ => k
  | f + 1, k, n => if n ≤ 2 * k ∨ k = 0 then k else halfF f (2 * k) n
def halfGo (k n : Nat) : Nat := halfF (n - k) k n
theorem halfF_stop (f : Nat) {k n : Nat} (h : n ≤ 2 * k ∨ k = 0) : halfF f k n = k := by
  cases f with
  | zero => rfl
  | succ f => rw [halfF, if_pos h]
theorem halfF_any : ∀ (f f' k n : Nat), n - k ≤ f → n - k ≤ f' → halfF f k n = halfF f' k n := by
  intro f
  induction f with
  | zero => intro f' k n h _; rw [halfF_stop 0 (.inl (by omega)), halfF_stop f' (.inl (by omega))]
  | succ f ih =>
    intro f' k n h h'
    by_cases hs : n ≤ 2 * k ∨ k = 0
    · rw [halfF_stop _ hs, halfF_stop _ hs]
    · cases f' with
      | zero => omega
      | succ f' => rw [halfF, halfF, if_neg hs, if_neg hs, ih f' (2 * k) n (by omega) (by omega)]
theorem halfGo_eq (k n : Nat) : halfGo k n = if n ≤ 2 * k ∨ k = 0 then k else halfGo (2 * k) n := by
  unfold halfGo
  split
  · rename_i h
    exact halfF_stop _ h
  · rename_i h
    obtain ⟨m, hm⟩ : ∃ m, n - k = m + 1 := ⟨n - k - 1, by omega⟩
    rw [hm, halfF, if_neg h]
    exact halfF_any _ _ _ _ (by omega) (Nat.le_refl _)
def halfN (n : Nat) : Nat := halfGo 1 n
theorem halfGo_lt (k n : Nat) (hk : 0 < k) (h : k < n) : 0 < halfGo k n ∧ halfGo k n < n := by
  induction hd : n - k using Nat.strongRecOn generalizing k with
  | _ d ih =>
    rw [halfGo_eq]
    split
    · exact ⟨hk, h⟩
    · exact ih (n - 2 * k) (by omega) (2 * k) (by omega) (by omega) rfl
theorem halfN_lt (n : Nat) (h : 2 ≤ n) : 0 < halfN n ∧ halfN n < n := halfGo_lt 1 n (by omega) (by omega)
/-- the tree of pairs, of so many halvings at most -/
def treeF : Nat → List Pr → List (BitVec 8)
  | 0, [] => []
  | 0, p :: _ => leafD p.key p.val
  | _ + 1, [] => []
  | f + 1, p :: r => if 2 ≤ (p :: r).length then nodeD (treeF f ((p :: r).take (halfN (p :: r).length))) (treeF f ((p :: r).drop (halfN (p :: r).length))) else leafD p.key p.val
/-- the tree of pairs -/
def treeD (l : List Pr) : List (BitVec 8) := treeF l.length l
theorem treeF_one (f : Nat) (p : Pr) : treeF f [p] = leafD p.key p.val := by
  cases f with
  | zero => rfl
  | succ f => rw [treeF, if_neg (by simp)]
theorem treeF_nil (f : Nat) : treeF f [] = [] := by cases f <;> rfl
theorem treeF_any : ∀ (f f' : Nat) (l : List Pr), l.length ≤ f → l.length ≤ f' → treeF f l = treeF f' l := by
  intro f
  induction f with
  | zero =>
    intro f' l h _
    obtain rfl := List.length_eq_zero_iff.1 (show l.length = 0 by omega)
    rw [treeF_nil, treeF_nil]
  | succ f ih =>
    intro f' l h h'
    match l, h, h' with
    | [], _, _ => rw [treeF_nil, treeF_nil]
    | [p], _, _ => rw [treeF_one, treeF_one]
    | p :: q :: r, h, h' =>
      cases f' with
      | zero => simp at h'
      | succ f' =>
        have hl := halfN_lt (p :: q :: r).length (by simp)
        rw [treeF, treeF, if_pos (by simp), if_pos (by simp), ih f' ((p :: q :: r).take (halfN (p :: q :: r).length)) (by rw [List.length_take]; omega) (by rw [List.length_take]; omega),
          ih f' ((p :: q :: r).drop (halfN (p :: q :: r).length)) (by rw [List.length_drop]; omega) (by rw [List.length_drop]; omega)]
theorem treeD_nil : treeD [] = [] := treeF_nil _
theorem treeD_one (p : Pr) : treeD [p] = leafD p.key p.val := treeF_one _ p
theorem treeD_more (l : List Pr) (h : 2 ≤ l.length) : treeD l = nodeD (treeD (l.take (halfN l.length))) (treeD (l.drop (halfN l.length))) := by
  match l, h with
  | p :: q :: r, h =>
    have hl := halfN_lt (p :: q :: r).length (by simp)
    unfold treeD
    conv => lhs; rw [show (p :: q :: r).length = (q :: r).length + 1 from rfl, treeF]
    rw [if_pos (by simp), treeF_any (q :: r).length ((p :: q :: r).take (halfN (p :: q :: r).length)).length _ (by rw [List.length_take]; simp at hl ⊢; omega) (Nat.le_refl _),
      treeF_any (q :: r).length ((p :: q :: r).drop (halfN (p :: q :: r).length)).length _ (by rw [List.length_drop]; simp at hl ⊢; omega) (Nat.le_refl _)]
end Go.Proofs.YtiflkkelbnpniaaGreatDoor
namespace Go.Proofs.YtiflkkelbnpniaaGreatDoor

/-- where a key stands, or would; whether it does -/
def At (k : List (BitVec 8)) (l : List Pr) (i : Nat) (fd : Bool) : Prop :=
  i ≤ l.length ∧ (∀ j p, j < i → l[j]? = some p → lessB p.key k = true) ∧ (∀ j p, i ≤ j → l[j]? = some p → lessB p.key k = false) ∧ (fd = true ↔ ∃ p, l[i]? = some p ∧ p.key = k)
theorem sorted_lt {l : List Pr} (h : Sorted l) {i j : Nat} {p q : Pr} (hij : i < j) (hp : l[i]? = some p) (hq : l[j]? = some q) : lessB p.key q.key = true := by
  obtain ⟨hi, rfl⟩ := List.getElem?_eq_some_iff.1 hp
  obtain ⟨hj, rfl⟩ := List.getElem?_eq_some_iff.1 hq
  exact List.pairwise_iff_getElem.1 h i j hi hj hij
theorem At.found {k : List (BitVec 8)} {l : List Pr} {i : Nat} (h : At k l i true) : ∃ p, l[i]? = some p ∧ p.key = k := h.2.2.2.1 rfl
theorem At.not_found {k : List (BitVec 8)} {l : List Pr} {i : Nat} (h : At k l i false) (p : Pr) (hp : l[i]? = some p) : p.key ≠ k := fun e => by
  have := h.2.2.2.2 ⟨p, hp, e⟩
  cases this
/-- every other pair has another key -/
theorem At.others {k : List (BitVec 8)} {l : List Pr} {i : Nat} {fd : Bool} (h : At k l i fd) (hs : Sorted l) (j : Nat) (p : Pr) (hp : l[j]? = some p) (hne : j ≠ i) : p.key ≠ k := by
  rcases Nat.lt_or_gt_of_ne hne with hlt | hgt
  · exact lessB_ne (h.2.1 j p hlt hp)
  · rintro rfl
    obtain ⟨hj, _⟩ := List.getElem?_eq_some_iff.1 hp
    have hi : l[i]? = some (l[i]'(by omega)) := List.getElem?_eq_getElem _
    have h1 := sorted_lt hs hgt hi hp
    rw [h.2.2.1 i _ (Nat.le_refl _) hi] at h1
    cases h1
theorem filter_all {α : Type} (f : α → Bool) (l : List α) (h : ∀ (j : Nat) (p : α), l[j]? = some p → f p = true) : l.filter f = l :=
  List.filter_eq_self.2 fun p hp => by
    obtain ⟨j, hj, rfl⟩ := List.getElem_of_mem hp
    exact h j _ (List.getElem?_eq_getElem hj)
theorem At.split {k : List (BitVec 8)} {l : List Pr} {i : Nat} (h : At k l i true) : ∃ p, l[i]? = some p ∧ p.key = k ∧ l = l.take i ++ p :: l.drop (i + 1) := by
  obtain ⟨p, hp, hk⟩ := h.found
  obtain ⟨hi, he⟩ := List.getElem?_eq_some_iff.1 hp
  refine ⟨p, hp, hk, ?_⟩
  rw [← he, ← List.drop_eq_getElem_cons hi, List.take_append_drop]
theorem drop_get_some {l : List Pr} {n j : Nat} {p : Pr} (h : (l.drop n)[j]? = some p) : l[n + j]? = some p := by rwa [List.getElem?_drop] at h
theorem take_get_some {l : List Pr} {n j : Nat} {p : Pr} (h : (l.take n)[j]? = some p) : j < n ∧ l[j]? = some p := by
  rw [List.getElem?_take] at h
  split at h
  · exact ⟨by assumption, h⟩
  · cases h
theorem At.drop_found {k : List (BitVec 8)} {l : List Pr} {i : Nat} (h : At k l i true) (hs : Sorted l) : dropK k l = l.take i ++ l.drop (i + 1) := by
  obtain ⟨p, hp, hk, he⟩ := h.split
  have e : dropK k l = dropK k (l.take i ++ p :: l.drop (i + 1)) := by rw [← he]
  rw [e]
  unfold dropK
  rw [List.filter_append, List.filter_cons, if_neg (by simp [hk])]
  rw [filter_all _ _ fun j q hq => ?_, filter_all _ _ fun j q hq => ?_]
  · have := drop_get_some hq
    exact decide_eq_true (h.others hs _ q this (by omega))
  · have := take_get_some hq
    exact decide_eq_true (h.others hs _ q this.2 (by omega))
theorem At.drop_not {k : List (BitVec 8)} {l : List Pr} {i : Nat} (h : At k l i false) (hs : Sorted l) : dropK k l = l := by
  unfold dropK
  refine filter_all _ _ fun j q hq => decide_eq_true ?_
  by_cases e : j = i
  · subst e
    exact h.not_found q hq
  · exact h.others hs j q hq e
theorem ahead_of (k : List (BitVec 8)) : ∀ (a b : List Pr), (∀ (j : Nat) p, a[j]? = some p → lessB p.key k = true) → (∀ p, b[0]? = some p → lessB p.key k = false) → ahead k (a ++ b) = a ∧ behind k (a ++ b) = b
  | [], [], _, _ => ⟨rfl, rfl⟩
  | [], q :: r, _, hb => by
    have := hb q rfl
    rw [List.nil_append, ahead, behind, if_neg (by simp [this]), if_neg (by simp [this])]
    exact ⟨rfl, rfl⟩
  | p :: a, b, ha, hb => by
    have h0 := ha 0 p rfl
    have ih := ahead_of k a b (fun j q hq => ha (j + 1) q (by simpa using hq)) hb
    rw [List.cons_append, ahead, behind, if_pos h0, if_pos h0, ih.1, ih.2]
    exact ⟨rfl, rfl⟩
theorem At.set_found {k : List (BitVec 8)} {l : List Pr} {i : Nat} (h : At k l i true) (hs : Sorted l) (v : List (BitVec 8)) : setP ⟨k, v⟩ l = l.take i ++ ⟨k, v⟩ :: l.drop (i + 1) := by
  unfold setP
  rw [show (⟨k, v⟩ : Pr).key = k from rfl, h.drop_found hs]
  obtain ⟨h1, h2⟩ := ahead_of k (l.take i) (l.drop (i + 1)) (fun j p hp => h.2.1 j p (take_get_some hp).1 (take_get_some hp).2) (fun p hp => h.2.2.1 (i + 1 + 0) p (by omega) (drop_get_some hp))
  rw [h1, h2]
theorem At.set_not {k : List (BitVec 8)} {l : List Pr} {i : Nat} (h : At k l i false) (hs : Sorted l) (v : List (BitVec 8)) : setP ⟨k, v⟩ l = l.take i ++ ⟨k, v⟩ :: l.drop i := by
  unfold setP
  rw [show (⟨k, v⟩ : Pr).key = k from rfl, h.drop_not hs]
  obtain ⟨h1, h2⟩ := ahead_of k (l.take i) (l.drop i) (fun j p hp => h.2.1 j p (take_get_some hp).1 (take_get_some hp).2) (fun p hp => h.2.2.1 (i + 0) p (by omega) (drop_get_some hp))
  rw [List.take_append_drop] at h1 h2
  rw [h1, h2]
theorem At.get_found {k : List (BitVec 8)} {l : List Pr} {i : Nat} (h : At k l i true) (hs : Sorted l) : ∃ p, l[i]? = some p ∧ getL k l = some p.val := by
  obtain ⟨p, hp, hk, he⟩ := h.split
  refine ⟨p, hp, ?_⟩
  have e : getL k l = getL k (l.take i ++ p :: l.drop (i + 1)) := by rw [← he]
  rw [e, getL_append, getL_none, Option.none_or, getL, if_pos hk]
  intro q hq
  obtain ⟨j, hj, rfl⟩ := List.getElem_of_mem hq
  have := take_get_some (List.getElem?_eq_getElem hj)
  exact h.others hs j _ this.2 (by omega)
theorem At.get_not {k : List (BitVec 8)} {l : List Pr} {i : Nat} (h : At k l i false) (hs : Sorted l) : getL k l = none := by
  refine getL_none fun q hq => ?_
  obtain ⟨j, hj, rfl⟩ := List.getElem_of_mem hq
  have hp : l[j]? = some l[j] := List.getElem?_eq_getElem hj
  by_cases e : j = i
  · subst e
    exact h.not_found _ hp
  · exact h.others hs j _ hp e
end Go.Proofs.YtiflkkelbnpniaaGreatDoor
namespace Go.Proofs.YtiflkkelbnpniaaGreatDoor

/-- a turn on the way to a place: right, or not; from where on, and how many stand on the other side -/
structure Tn where
  right : Bool
  frm : Nat
  n : Nat
def wayF : Nat → Nat → Nat → Nat → List Tn
  | 0, _, _, _ => []
  | f + 1, i, n, a => if 1 < n then (if i < halfN n then ⟨false, a + halfN n, n - halfN n⟩ :: wayF f i (halfN n) a else ⟨true, a, halfN n⟩ :: wayF f (i - halfN n) (n - halfN n) (a + halfN n)) else []
/-- the way from the root to a place among n -/
def wayL (i n a : Nat) : List Tn := wayF n i n a
theorem wayF_any : ∀ (f f' i n a : Nat), n ≤ f → n ≤ f' → wayF f i n a = wayF f' i n a
  | 0, 0, _, _, _, _, _ => rfl
  | 0, f' + 1, i, n, a, h, _ => by
    rw [wayF, wayF, if_neg (by omega)]
  | f + 1, 0, i, n, a, _, h => by
    rw [wayF, wayF, if_neg (by omega)]
  | f + 1, f' + 1, i, n, a, h, h' => by
    rw [wayF, wayF]
    by_cases hn : 1 < n
    · have hh := halfN_lt n hn
      rw [if_pos hn, if_pos hn, wayF_any f f' i (halfN n) a (by omega) (by omega), wayF_any f f' (i - halfN n) (n - halfN n) (a + halfN n) (by omega) (by omega)]
    · rw [if_neg hn, if_neg hn]
theorem wayL_one (i n a : Nat) (h : ¬ 1 < n) : wayL i n a = [] := by
  unfold wayL
  match n, h with
  | 0, _ => rfl
  | 1, _ => rw [wayF, if_neg (by omega)]
  | n + 2, h => omega
theorem wayL_left (i n a : Nat) (h : 1 < n) (hi : i < halfN n) : wayL i n a = ⟨false, a + halfN n, n - halfN n⟩ :: wayL i (halfN n) a := by
  have hh := halfN_lt n h
  unfold wayL
  obtain ⟨m, rfl⟩ : ∃ m, n = m + 1 := ⟨n - 1, by omega⟩
  rw [wayF, if_pos h, if_pos hi, wayF_any m (halfN (m + 1)) i (halfN (m + 1)) a (by omega) (Nat.le_refl _)]
theorem wayL_right (i n a : Nat) (h : 1 < n) (hi : ¬ i < halfN n) : wayL i n a = ⟨true, a, halfN n⟩ :: wayL (i - halfN n) (n - halfN n) (a + halfN n) := by
  have hh := halfN_lt n h
  unfold wayL
  obtain ⟨m, rfl⟩ : ∃ m, n = m + 1 := ⟨n - 1, by omega⟩
  rw [wayF, if_pos h, if_neg hi, wayF_any m (m + 1 - halfN (m + 1)) (i - halfN (m + 1)) (m + 1 - halfN (m + 1)) (a + halfN (m + 1)) (by omega) (Nat.le_refl _)]
/-- what stands on a turn's other side -/
def sideD (l : List Pr) (t : Tn) : List (BitVec 8) := treeD ((l.drop t.frm).take t.n)
/-- what is reckoned from a leaf upwards: turns and other sides from the root down -/
def upD : List Tn → List (List (BitVec 8)) → List (BitVec 8) → List (BitVec 8)
  | t :: ts, d :: ds, x => if t.right = true then nodeD d (upD ts ds x) else nodeD (upD ts ds x) d
  | _, _, x => x
theorem treeD_len32 (l : List Pr) (h : 0 < l.length) : (treeD l).length = 32 := by
  by_cases h2 : 2 ≤ l.length
  · rw [treeD_more l h2]
    exact sha_length _
  · match l, h, h2 with
    | [p], _, _ => rw [treeD_one]; exact sha_length _
    | _ :: _ :: _, _, h2 => simp at h2
theorem upD_len (ts : List Tn) (ds : List (List (BitVec 8))) (x : List (BitVec 8)) (hx : x.length = 32) : (upD ts ds x).length = 32 := by
  match ts, ds with
  | [], _ => rw [upD]; exact hx; simp
  | _ :: _, [] => rw [upD]; exact hx; simp
  | t :: ts, d :: ds =>
    rw [upD]
    split
    · exact sha_length _
    · exact sha_length _
/-- a book's own sides lead to its tree -/
theorem upD_way (l : List Pr) : ∀ (m : List Pr) (a i : Nat) (p : Pr), m = (l.drop a).take m.length → m[i]? = some p → upD (wayL i m.length a) ((wayL i m.length a).map (sideD l)) (leafD p.key p.val) = treeD m := by
  intro m
  generalize hn : m.length = n
  induction n using Nat.strongRecOn generalizing m with
  | _ n ih =>
    intro a i p hm hp
    have hi : i < n := by rw [← hn]; exact (List.getElem?_eq_some_iff.1 hp).1
    by_cases h1 : 1 < n
    · have hh := halfN_lt n h1
      rw [treeD_more m (by omega), hn]
      by_cases hik : i < halfN n
      · have e1 : m.take (halfN n) = (l.drop a).take (m.take (halfN n)).length := by
          rw [List.length_take, hn, Nat.min_eq_left (by omega)]
          conv => lhs; rw [hm]
          rw [List.take_take, Nat.min_eq_left (by omega)]
        have e2 : m.drop (halfN n) = (l.drop (a + halfN n)).take (n - halfN n) := by
          conv => lhs; rw [hm]
          rw [List.drop_take, List.drop_drop]
        rw [wayL_left i n a h1 hik, List.map_cons, upD, if_neg (by simp)]
        have := ih (halfN n) (by omega) (m.take (halfN n)) (by rw [List.length_take, hn]; omega) a i p (by rw [List.length_take, hn, Nat.min_eq_left (by omega)] at e1; exact e1) (by rw [List.getElem?_take, if_pos hik]; exact hp)
        rw [this]
        unfold sideD
        rw [← e2]
      · have e1 : m.take (halfN n) = (l.drop a).take (halfN n) := by
          conv => lhs; rw [hm]
          rw [List.take_take, Nat.min_eq_left (by omega)]
        have e2 : m.drop (halfN n) = (l.drop (a + halfN n)).take (n - halfN n) := by
          conv => lhs; rw [hm]
          rw [List.drop_take, List.drop_drop]
        rw [wayL_right i n a h1 hik, List.map_cons, upD, if_pos rfl]
        have := ih (n - halfN n) (by omega) (m.drop (halfN n)) (by rw [List.length_drop, hn]) (a + halfN n) (i - halfN n) p e2 (by rw [List.getElem?_drop, show halfN n + (i - halfN n) = i by omega]; exact hp)
        rw [this]
        unfold sideD
        rw [← e1]
    · rw [wayL_one i n a h1, List.map_nil, upD]
      · match m, hn with
        | [q], _ =>
          obtain rfl : i = 0 := by omega
          obtain rfl : q = p := by simpa using hp
          rw [treeD_one]
        | [], hn => simp at hn; omega
        | _ :: _ :: _, hn => simp at hn; omega
      · simp
/-- a proof -/
structure Prf where
  index : Int
  size : Int
  key : List (BitVec 8)
  val : List (BitVec 8)
  path : List (List (BitVec 8))
def Prf.none : Prf := ⟨0, 0, [], [], []⟩
/-- a book's proof at a place -/
def proofAt (l : List Pr) (i : Nat) (p : Pr) : Prf := ⟨(i : Int), (l.length : Int), p.key, p.val, ((wayL i l.length 0).map (sideD l)).reverse⟩
/-- whether a proof shows something of a root -/
def shownB (r : List (BitVec 8)) (p : Prf) : Prop :=
  1 ≤ p.size ∧ p.size ≤ 200 ∧ 0 ≤ p.index ∧ p.index < p.size ∧ p.key.length ≤ 60 ∧ p.val.length ≤ 200 ∧ p.path.length = (wayL p.index.toNat p.size.toNat 0).length ∧ (∀ d ∈ p.path, d.length = 32) ∧
  topD p.size.toNat (upD (wayL p.index.toNat p.size.toNat 0) p.path.reverse (leafD p.key p.val)) = r
/-- the root of a book -/
def rootD (l : List Pr) : List (BitVec 8) := topD l.length (treeD l)
theorem wayL_side (l : List Pr) : ∀ (n i a : Nat), a + n ≤ l.length → ∀ t ∈ wayL i n a, 0 < ((l.drop t.frm).take t.n).length := by
  intro n
  induction n using Nat.strongRecOn with
  | _ n ih =>
    intro i a hl t ht
    by_cases h1 : 1 < n
    · have hh := halfN_lt n h1
      by_cases hik : i < halfN n
      · rw [wayL_left i n a h1 hik] at ht
        rcases List.mem_cons.1 ht with rfl | ht
        · simp
          omega
        · exact ih (halfN n) (by omega) i a (by omega) t ht
      · rw [wayL_right i n a h1 hik] at ht
        rcases List.mem_cons.1 ht with rfl | ht
        · simp
          omega
        · exact ih (n - halfN n) (by omega) (i - halfN n) (a + halfN n) (by omega) t ht
    · rw [wayL_one i n a h1] at ht
      cases ht
/-- WHAT STANDS THERE CAN BE SHOWN -/
theorem shown_at (l : List Pr) (i : Nat) (p : Pr) (hp : l[i]? = some p) (hf : Fits l) (hn : l.length ≤ 200) : shownB (rootD l) (proofAt l i p) := by
  have hi : i < l.length := (List.getElem?_eq_some_iff.1 hp).1
  have hpf := hf p (List.mem_of_getElem? hp)
  refine ⟨by simp [proofAt]; omega, by simp [proofAt]; omega, by simp [proofAt], by simp [proofAt]; omega, hpf.1, hpf.2, by simp [proofAt], ?_, ?_⟩
  · intro d hd
    simp [proofAt] at hd
    obtain ⟨t, ht, rfl⟩ := hd
    exact treeD_len32 _ (wayL_side l l.length i 0 (by omega) t ht)
  · unfold proofAt rootD
    simp only [List.reverse_reverse, Int.toNat_natCast]
    rw [upD_way l l 0 i p (by simp) hp]
/-- a proof says what stands in a book, at its place -/
def soB (l : List Pr) (p : Prf) : Prop := p.size = (l.length : Int) ∧ 0 ≤ p.index ∧ ∃ q, l[p.index.toNat]? = some q ∧ q.key = p.key ∧ q.val = p.val
/-- a gap -/
structure Gp where
  hasL : Bool
  hasR : Bool
  left : Prf
  right : Prf
def Gp.none : Gp := ⟨false, false, Prf.none, Prf.none⟩
/-- whether a gap shows that a key does not stand there -/
def absentB (r : List (BitVec 8)) (k : List (BitVec 8)) (g : Gp) : Prop :=
  if g.hasL = false ∧ g.hasR = false then r = topD 0 [] else
  (g.hasL = true → shownB r g.left ∧ lessB g.left.key k = true) ∧ (g.hasR = true → shownB r g.right ∧ lessB k g.right.key = true) ∧
  (g.hasL = true → g.hasR = true → g.right.size = g.left.size ∧ g.left.index + 1 = g.right.index) ∧ (g.hasL = true → g.hasR = false → g.left.index + 1 = g.left.size) ∧ (g.hasL = false → g.hasR = true → g.right.index = 0)
/-- a book's gap where a key would stand -/
def gapAt (l : List Pr) (i : Nat) : Gp := ⟨decide (0 < i), decide (i < l.length), if 0 < i then (match l[i - 1]? with | some p => proofAt l (i - 1) p | none => Prf.none) else Prf.none, match l[i]? with | some p => proofAt l i p | none => Prf.none⟩
/-- WHAT DOES NOT STAND THERE CAN BE SHOWN -/
theorem absent_at (l : List Pr) (i : Nat) (k : List (BitVec 8)) (hi : i ≤ l.length) (h1 : ∀ j p, j < i → l[j]? = some p → lessB p.key k = true) (h2 : ∀ j p, i ≤ j → l[j]? = some p → lessB k p.key = true) (hf : Fits l) (hn : l.length ≤ 200) :
    absentB (rootD l) k (gapAt l i) := by
  unfold absentB
  split
  · rename_i h
    simp [gapAt] at h
    have h0 : l.length = 0 := by omega
    obtain rfl := List.length_eq_zero_iff.1 h0
    unfold rootD
    rw [treeD_nil]
    rfl
  · refine ⟨fun hl => ?_, fun hr => ?_, fun hl hr => ?_, fun hl hr => ?_, fun hl hr => ?_⟩
    · have hl' : 0 < i := by simpa [gapAt] using hl
      have hp : l[i - 1]? = some l[i - 1] := List.getElem?_eq_getElem (by omega)
      have e : (gapAt l i).left = proofAt l (i - 1) l[i - 1] := by simp only [gapAt, if_pos hl', hp]
      rw [e]
      exact ⟨shown_at l (i - 1) _ hp hf hn, h1 (i - 1) _ (by omega) hp⟩
    · have hr' : i < l.length := by simpa [gapAt] using hr
      have hp : l[i]? = some l[i] := List.getElem?_eq_getElem hr'
      have e : (gapAt l i).right = proofAt l i l[i] := by simp only [gapAt, hp]
      rw [e]
      exact ⟨shown_at l i _ hp hf hn, h2 i _ (Nat.le_refl _) hp⟩
    · have hl' : 0 < i := by simpa [gapAt] using hl
      have hr' : i < l.length := by simpa [gapAt] using hr
      have hp : l[i - 1]? = some l[i - 1] := List.getElem?_eq_getElem (by omega)
      have hq : l[i]? = some l[i] := List.getElem?_eq_getElem hr'
      have e1 : (gapAt l i).left = proofAt l (i - 1) l[i - 1] := by simp only [gapAt, if_pos hl', hp]
      have e2 : (gapAt l i).right = proofAt l i l[i] := by simp only [gapAt, hq]
      rw [e1, e2]
      simp [proofAt]
      omega
    · have hl' : 0 < i := by simpa [gapAt] using hl
      have hr' : ¬ i < l.length := by simpa [gapAt] using hr
      have hp : l[i - 1]? = some l[i - 1] := List.getElem?_eq_getElem (by omega)
      have e1 : (gapAt l i).left = proofAt l (i - 1) l[i - 1] := by simp only [gapAt, if_pos hl', hp]
      rw [e1]
      simp [proofAt]
      omega
    · have hl' : ¬ 0 < i := by simpa [gapAt] using hl
      have hr' : i < l.length := by simpa [gapAt] using hr
      have hq : l[i]? = some l[i] := List.getElem?_eq_getElem hr'
      have e2 : (gapAt l i).right = proofAt l i l[i] := by simp only [gapAt, hq]
      rw [e2]
      simp [proofAt]
      omega
theorem sorted_key {l : List Pr} (hs : Sorted l) {i j : Nat} {p q : Pr} (hp : l[i]? = some p) (hq : l[j]? = some q) (h : lessB p.key q.key = true) : i < j := by
  obtain ⟨hi, rfl⟩ := List.getElem?_eq_some_iff.1 hp
  obtain ⟨hj, rfl⟩ := List.getElem?_eq_some_iff.1 hq
  rcases Nat.lt_trichotomy i j with h1 | h1 | h1
  · exact h1
  · subst h1
    rw [lessB_irrefl] at h
    cases h
  · have := List.pairwise_iff_getElem.1 hs j i hj hi h1
    rw [lessB_asymm _ _ this] at h
    cases h
/-- A PROOF AND A GAP OF ONE KEY say what cannot be -/
theorem both_not (l : List Pr) (hs : Sorted l) (r : List (BitVec 8)) (p : Prf) (g : Gp) (hp : soB l p) (hg : absentB r p.key g) (hl : g.hasL = true → soB l g.left) (hr : g.hasR = true → soB l g.right) (h : g.hasL = true ∨ g.hasR = true) : False := by
  unfold absentB at hg
  rw [if_neg (by rintro ⟨h1, h2⟩; rw [h1, h2] at h; simp at h)] at hg
  obtain ⟨g1, g2, g3, g4, g5⟩ := hg
  obtain ⟨_, p0, q, hq, hk, _⟩ := hp
  have hqi := (List.getElem?_eq_some_iff.1 hq).1
  cases hL : g.hasL with
  | true =>
    obtain ⟨l1, l2, a, ha, hak, _⟩ := hl hL
    have la := sorted_key hs ha hq (by rw [hak, hk]; exact (g1 hL).2)
    cases hR : g.hasR with
    | true =>
      obtain ⟨r1, r2, b, hb, hbk, _⟩ := hr hR
      have lb := sorted_key hs hq hb (by rw [hbk, hk]; exact (g2 hR).2)
      have := (g3 hL hR).2
      omega
    | false =>
      have := g4 hL hR
      omega
  | false =>
    cases hR : g.hasR with
    | true =>
      obtain ⟨r1, r2, b, hb, hbk, _⟩ := hr hR
      have lb := sorted_key hs hq hb (by rw [hbk, hk]; exact (g2 hR).2)
      have := g5 hL hR
      omega
    | false => rw [hL, hR] at h; simp at h
theorem halfGo_pow (k n j : Nat) (hk : k = 2 ^ j) (h : k < n) : ∃ m, halfGo k n = 2 ^ m ∧ 2 ^ m < n ∧ n ≤ 2 ^ (m + 1) := by
  induction hd : n - k using Nat.strongRecOn generalizing k j with
  | _ d ih =>
    have hp : 0 < 2 ^ j := Nat.two_pow_pos j
    have hs : 2 ^ (j + 1) = 2 * 2 ^ j := by rw [Nat.pow_succ, Nat.mul_comm]
    rw [halfGo_eq]
    split
    · rename_i hc
      exact ⟨j, hk, by omega, by omega⟩
    · rename_i hc
      exact ih (n - 2 * k) (by omega) (2 * k) (j + 1) (by omega) (by omega) rfl
/-- A PROOF IS SHORT -/
theorem wayL_short : ∀ (k n i a : Nat), n ≤ 2 ^ k → (wayL i n a).length ≤ k := by
  intro k
  induction k with
  | zero =>
    intro n i a h
    rw [wayL_one i n a (by simp at h; omega)]
    exact Nat.le_refl _
  | succ k ih =>
    intro n i a h
    by_cases h1 : 1 < n
    · obtain ⟨m, hm, hlt, hle⟩ := halfGo_pow 1 n 0 rfl h1
      have hm' : halfN n = 2 ^ m := hm
      have hmk : m ≤ k := by
        have h2 : 2 ^ m < 2 ^ (k + 1) := by omega
        have := (Nat.pow_lt_pow_iff_right (show 1 < 2 by decide)).1 h2
        omega
      have hpk : 2 ^ m ≤ 2 ^ k := Nat.pow_le_pow_right (by decide) hmk
      have hs : 2 ^ (m + 1) = 2 * 2 ^ m := by rw [Nat.pow_succ, Nat.mul_comm]
      by_cases hik : i < halfN n
      · rw [wayL_left i n a h1 hik, List.length_cons]
        have := ih (halfN n) i a (by omega)
        omega
      · rw [wayL_right i n a h1 hik, List.length_cons]
        have := ih (n - halfN n) (i - halfN n) (a + halfN n) (by omega)
        omega
    · rw [wayL_one i n a h1]
      simp
end Go.Proofs.YtiflkkelbnpniaaGreatDoor
namespace Go.Proofs.YtiflkkelbnpniaaGreatDoor
open Go.RowKit

/-- a call answers whether something is so -/
def Tells (P : Prop) (e : Ending) : Prop := ∃ bb, e = .returned (.bool bb) ∧ (bb = true ↔ P)
theorem Tells.yes {P : Prop} (h : P) : Tells P (.returned (.bool true)) := ⟨true, rfl, fun _ => h, fun _ => rfl⟩
theorem Tells.no {P : Prop} (h : ¬ P) : Tells P (.returned (.bool false)) := ⟨false, rfl, (fun e => absurd e (by decide)), fun e => absurd e h⟩
theorem Lists.mono {w : World} {N M : Nat} {sv : Value} {ls : List (List (BitVec 8))} (h : Lists w N sv ls) (hN : N ≤ M) : Lists w M sv ls := by
  rcases h with h | h | ⟨b, off, cap, h1, h2, h3⟩
  · exact .inl h
  · exact .inr (.inl h)
  · refine .inr (.inr ⟨b, off, cap, h1, h2, fun i hi => ?_⟩)
    obtain ⟨hb, x, hx, hbx⟩ := h3 i hi
    exact ⟨Nat.lt_of_lt_of_le hb hN, x, hx, hbx.mono hN⟩
/-- v reads as the proof p, in blocks below N -/
def PrfV (w : World) (N : Nat) (v : Value) (p : Prf) : Prop := ∃ kv vv pv, v = .agg #[.int .i64 p.index, .int .i64 p.size, kv, vv, pv] ∧ Bytes w N kv p.key ∧ Bytes w N vv p.val ∧ Lists w N pv p.path
theorem PrfV.below {w w' : World} {N : Nat} {v : Value} {p : Prf} (h : PrfV w N v p) (hg : Below N w w') : PrfV w' N v p := by
  obtain ⟨kv, vv, pv, rfl, h1, h2, h3⟩ := h
  exact ⟨kv, vv, pv, rfl, h1.below hg, h2.below hg, h3.below hg⟩
theorem PrfV.mono {w : World} {N M : Nat} {v : Value} {p : Prf} (h : PrfV w N v p) (hN : N ≤ M) : PrfV w M v p := by
  obtain ⟨kv, vv, pv, rfl, h1, h2, h3⟩ := h
  exact ⟨kv, vv, pv, rfl, h1.mono hN, h2.mono hN, h3.mono hN⟩
/-- as many bytes as the reach lets -/
def Prf.fits (p : Prf) : Prop := p.key.length ≤ 140737488351232 ∧ p.val.length ≤ 140737488351232 ∧ p.path.length < 2305843009213693952 ∧ ∀ d ∈ p.path, d.length ≤ 140737488351232
/-- v reads as the gap g -/
def GpV (w : World) (N : Nat) (v : Value) (g : Gp) : Prop := ∃ k1 v1 p1 k2 v2 p2, v = .agg #[.bool g.hasL, .bool g.hasR, .int .i64 g.left.index, .int .i64 g.left.size, k1, v1, p1, .int .i64 g.right.index, .int .i64 g.right.size, k2, v2, p2] ∧
  Bytes w N k1 g.left.key ∧ Bytes w N v1 g.left.val ∧ Lists w N p1 g.left.path ∧ Bytes w N k2 g.right.key ∧ Bytes w N v2 g.right.val ∧ Lists w N p2 g.right.path
theorem GpV.below {w w' : World} {N : Nat} {v : Value} {g : Gp} (h : GpV w N v g) (hg : Below N w w') : GpV w' N v g := by
  obtain ⟨k1, v1, p1, k2, v2, p2, rfl, h1, h2, h3, h4, h5, h6⟩ := h
  exact ⟨k1, v1, p1, k2, v2, p2, rfl, h1.below hg, h2.below hg, h3.below hg, h4.below hg, h5.below hg, h6.below hg⟩
theorem GpV.mono {w : World} {N M : Nat} {v : Value} {g : Gp} (h : GpV w N v g) (hN : N ≤ M) : GpV w M v g := by
  obtain ⟨k1, v1, p1, k2, v2, p2, rfl, h1, h2, h3, h4, h5, h6⟩ := h
  exact ⟨k1, v1, p1, k2, v2, p2, rfl, h1.mono hN, h2.mono hN, h3.mono hN, h4.mono hN, h5.mono hN, h6.mono hN⟩
def Gp.fits (g : Gp) : Prop := g.left.fits ∧ g.right.fits
/-- what is reckoned from the lowest k sides -/
def upK (ws : List Tn) (path : List (List (BitVec 8))) (k : Nat) (x : List (BitVec 8)) : List (BitVec 8) := upD (ws.drop (ws.length - k)) (path.take k).reverse x
theorem upK_zero (ws : List Tn) (path : List (List (BitVec 8))) (x : List (BitVec 8)) : upK ws path 0 x = x := by
  unfold upK
  rw [Nat.sub_zero, List.drop_length, List.take_zero, List.reverse_nil, upD]
  simp
theorem upK_succ (ws : List Tn) (path : List (List (BitVec 8))) (k : Nat) (x : List (BitVec 8)) (t : Tn) (d : List (BitVec 8)) (ht : ws[ws.length - 1 - k]? = some t) (hk : k < ws.length) (hd : path[k]? = some d) :
    upK ws path (k + 1) x = if t.right = true then nodeD d (upK ws path k x) else nodeD (upK ws path k x) d := by
  obtain ⟨h1, rfl⟩ := List.getElem?_eq_some_iff.1 ht
  obtain ⟨h2, rfl⟩ := List.getElem?_eq_some_iff.1 hd
  unfold upK
  rw [show ws.length - (k + 1) = ws.length - 1 - k by omega, List.drop_eq_getElem_cons h1, show ws.length - 1 - k + 1 = ws.length - k by omega, List.take_succ_eq_append_getElem h2, List.reverse_append, List.reverse_singleton, List.singleton_append, upD]
theorem upK_all (ws : List Tn) (path : List (List (BitVec 8))) (x : List (BitVec 8)) (h : path.length = ws.length) : upK ws path ws.length x = upD ws path.reverse x := by
  unfold upK
  rw [Nat.sub_self, List.drop_zero, List.take_of_length_le (by omega)]
theorem upK_len (ws : List Tn) (path : List (List (BitVec 8))) (k : Nat) (x : List (BitVec 8)) (hx : x.length = 32) : (upK ws path k x).length = 32 := upD_len _ _ _ hx
end Go.Proofs.YtiflkkelbnpniaaGreatDoor
namespace Go.Proofs.YtiflkkelbnpniaaGreatDoor

/-- what the digest of a pair, of two trees, of a book is of -/
def leafX (k v : List (BitVec 8)) : List (BitVec 8) := 0 :: (fourB k.length ++ (k ++ v))
def nodeX (a b : List (BitVec 8)) : List (BitVec 8) := 1 :: (a ++ b)
def topX (n : Nat) (t : List (BitVec 8)) : List (BitVec 8) := 2 :: (fourB n ++ t)
/-- layers from the top of the tree down to the pair -/
def layD : List Tn → List (List (BitVec 8)) → List (BitVec 8) → List (List (BitVec 8))
  | t :: ts, d :: ds, lf => (if t.right = true then nodeX d (upD ts ds (sha lf)) else nodeX (upD ts ds (sha lf)) d) :: layD ts ds lf
  | _, _, lf => [lf]
theorem layD_nil (ds : List (List (BitVec 8))) (lf : List (BitVec 8)) : layD [] ds lf = [lf] := by rw [layD]; simp
theorem layD_head (ts : List Tn) (ds : List (List (BitVec 8))) (lf : List (BitVec 8)) : ∃ x r, layD ts ds lf = x :: r ∧ sha x = upD ts ds (sha lf) := by
  match ts, ds with
  | [], ds => exact ⟨lf, [], layD_nil ds lf, by rw [upD]; simp⟩
  | t :: ts, [] => exact ⟨lf, [], by rw [layD]; simp, by rw [upD]; simp⟩
  | t :: ts, d :: ds =>
    refine ⟨_, _, by rw [layD], ?_⟩
    rw [upD]
    split <;> rfl
theorem layD_length : ∀ (ts : List Tn) (ds : List (List (BitVec 8))) (lf : List (BitVec 8)), ds.length = ts.length → (layD ts ds lf).length = ts.length + 1
  | [], ds, lf, _ => by rw [layD_nil]; rfl
  | t :: ts, [], lf, h => by simp at h
  | t :: ts, d :: ds, lf, h => by
    rw [layD, List.length_cons, layD_length ts ds lf (by simpa using h)]
    rfl
theorem layD_last : ∀ (ts : List Tn) (ds : List (List (BitVec 8))) (lf : List (BitVec 8)), ds.length = ts.length → (layD ts ds lf)[ts.length]? = some lf
  | [], ds, lf, _ => by rw [layD_nil]; rfl
  | t :: ts, [], lf, h => by simp at h
  | t :: ts, d :: ds, lf, h => by
    rw [layD, List.length_cons, List.getElem?_cons_succ]
    exact layD_last ts ds lf (by simpa using h)
theorem nodeX_inj {a b c d : List (BitVec 8)} (h : nodeX a b = nodeX c d) (hl : a.length = c.length) : a = c ∧ b = d := by
  unfold nodeX at h
  exact List.append_inj (List.cons.inj h).2 hl
theorem topX_inj {n : Nat} {a c : List (BitVec 8)} (h : topX n a = topX n c) : a = c := by
  unfold topX at h
  exact (List.append_inj (List.cons.inj h).2 rfl).2
/-- where two ways up part first, two lists of bytes have one digest -/
theorem layD_clash : ∀ (ts : List Tn) (d1 d2 : List (List (BitVec 8))) (l1 l2 : List (BitVec 8)), d1.length = ts.length → d2.length = ts.length → (∀ d ∈ d1, d.length = 32) → (∀ d ∈ d2, d.length = 32) → upD ts d1 (sha l1) = upD ts d2 (sha l2) →
    ∀ (i : Nat) (a b : List (BitVec 8)), (∀ j, j < i → (layD ts d1 l1)[j]? = (layD ts d2 l2)[j]?) → (layD ts d1 l1)[i]? = some a → (layD ts d2 l2)[i]? = some b → sha a = sha b
  | ts, d1, d2, l1, l2, h1, h2, k1, k2, hu, 0, a, b, _, ha, hb => by
    obtain ⟨x, r, hx, hsx⟩ := layD_head ts d1 l1
    obtain ⟨y, s, hy, hsy⟩ := layD_head ts d2 l2
    rw [hx] at ha
    rw [hy] at hb
    obtain rfl : x = a := by simpa using ha
    obtain rfl : y = b := by simpa using hb
    rw [hsx, hsy, hu]
  | [], d1, d2, l1, l2, h1, h2, k1, k2, hu, i + 1, a, b, _, ha, hb => by
    rw [layD_nil] at ha
    simp at ha
  | t :: ts, [], d2, l1, l2, h1, _, _, _, _, i + 1, a, b, _, _, _ => by simp at h1
  | t :: ts, x :: d1, [], l1, l2, _, h2, _, _, _, i + 1, a, b, _, _, _ => by simp at h2
  | t :: ts, x :: d1, y :: d2, l1, l2, h1, h2, k1, k2, hu, i + 1, a, b, hj, ha, hb => by
    have h0 := hj 0 (by omega)
    rw [layD, layD] at h0
    have h0' := Option.some.inj h0
    have hx : x.length = 32 := k1 x (by simp)
    have hy : y.length = 32 := k2 y (by simp)
    have ux := upD_len ts d1 (sha l1) (sha_length _)
    have uy := upD_len ts d2 (sha l2) (sha_length _)
    have hup : upD ts d1 (sha l1) = upD ts d2 (sha l2) := by
      split at h0'
      · exact (nodeX_inj h0' (by omega)).2
      · exact (nodeX_inj h0' (by omega)).1
    refine layD_clash ts d1 d2 l1 l2 (by simpa using h1) (by simpa using h2) (fun d hd => k1 d (by simp [hd])) (fun d hd => k2 d (by simp [hd])) hup i a b (fun j hji => ?_) ?_ ?_
    · have := hj (j + 1) (by omega)
      rw [layD, layD] at this
      simpa using this
    · rw [layD] at ha
      simpa using ha
    · rw [layD] at hb
      simpa using hb
/-- the lowest k + 1 layers, the pair first -/
def layK (ws : List Tn) (path : List (List (BitVec 8))) (k : Nat) (lf : List (BitVec 8)) : List (List (BitVec 8)) := (layD (ws.drop (ws.length - k)) (path.take k).reverse lf).reverse
theorem layK_zero (ws : List Tn) (path : List (List (BitVec 8))) (lf : List (BitVec 8)) : layK ws path 0 lf = [lf] := by
  unfold layK
  rw [Nat.sub_zero, List.drop_length, layD_nil]
  rfl
theorem layK_succ (ws : List Tn) (path : List (List (BitVec 8))) (k : Nat) (lf : List (BitVec 8)) (t : Tn) (d : List (BitVec 8)) (ht : ws[ws.length - 1 - k]? = some t) (hk : k < ws.length) (hd : path[k]? = some d) :
    layK ws path (k + 1) lf = layK ws path k lf ++ [if t.right = true then nodeX d (upK ws path k (sha lf)) else nodeX (upK ws path k (sha lf)) d] := by
  obtain ⟨h1, rfl⟩ := List.getElem?_eq_some_iff.1 ht
  obtain ⟨h2, rfl⟩ := List.getElem?_eq_some_iff.1 hd
  unfold layK upK
  rw [show ws.length - (k + 1) = ws.length - 1 - k by omega, List.drop_eq_getElem_cons h1, show ws.length - 1 - k + 1 = ws.length - k by omega, List.take_succ_eq_append_getElem h2, List.reverse_append, List.reverse_singleton, List.singleton_append, layD, List.reverse_cons]
theorem layK_all (ws : List Tn) (path : List (List (BitVec 8))) (lf : List (BitVec 8)) (h : path.length = ws.length) : layK ws path ws.length lf = (layD ws path.reverse lf).reverse := by
  unfold layK
  rw [Nat.sub_self, List.drop_zero, List.take_of_length_le (by omega)]
/-- the turns to a proof's place -/
def wayP (p : Prf) : List Tn := wayL p.index.toNat p.size.toNat 0
/-- all layers of a proof, the root's first -/
def layP (p : Prf) : List (List (BitVec 8)) := topX p.size.toNat (upD (wayP p) p.path.reverse (leafD p.key p.val)) :: layD (wayP p) p.path.reverse (leafX p.key p.val)
theorem layP_length (p : Prf) (h : p.path.length = (wayP p).length) : (layP p).length = p.path.length + 2 := by
  unfold layP
  rw [List.length_cons, layD_length _ _ _ (by rw [List.length_reverse]; exact h), h]
theorem layP_last (p : Prf) (h : p.path.length = (wayP p).length) : (layP p)[(wayP p).length + 1]? = some (leafX p.key p.val) := by
  unfold layP
  rw [List.getElem?_cons_succ]
  exact layD_last _ _ _ (by rw [List.length_reverse]; exact h)
theorem layP_clash {r : List (BitVec 8)} {p q : Prf} (hp : shownB r p) (hq : shownB r q) (hi : p.index = q.index) (hs : p.size = q.size) (i : Nat) (a b : List (BitVec 8)) (hj : ∀ j, j < i → (layP p)[j]? = (layP q)[j]?) (ha : (layP p)[i]? = some a) (hb : (layP q)[i]? = some b) : sha a = sha b := by
  obtain ⟨_, _, _, _, _, _, p7, p8, p9⟩ := hp
  obtain ⟨_, _, _, _, _, _, q7, q8, q9⟩ := hq
  have hw : wayP q = wayP p := by unfold wayP; rw [hi, hs]
  cases i with
  | zero =>
    have e1 : topX p.size.toNat (upD (wayP p) p.path.reverse (leafD p.key p.val)) = a := by simpa [layP] using ha
    have e2 : topX q.size.toNat (upD (wayP q) q.path.reverse (leafD q.key q.val)) = b := by simpa [layP] using hb
    rw [← e1, ← e2]
    exact p9.trans q9.symm
  | succ i =>
    have h0 := hj 0 (by omega)
    unfold layP at h0 ha hb
    rw [List.getElem?_cons_zero, List.getElem?_cons_zero, hw, ← hs] at h0
    rw [List.getElem?_cons_succ] at ha hb
    rw [hw] at hb
    refine layD_clash (wayP p) p.path.reverse q.path.reverse (leafX p.key p.val) (leafX q.key q.val) (by rw [List.length_reverse]; exact p7) (by rw [List.length_reverse, ← hw]; exact q7) (fun d hd => p8 d (by simpa using hd)) (fun d hd => q8 d (by simpa using hd)) (topX_inj (Option.some.inj h0)) i a b (fun j hji => ?_) ha hb
    have := hj (j + 1) (by omega)
    unfold layP at this
    rw [List.getElem?_cons_succ, List.getElem?_cons_succ, hw] at this
    exact this
theorem fourB_small {n m : Nat} (hn : n ≤ 200) (hm : m ≤ 200) (h : fourB n = fourB m) : n = m := by
  unfold fourB at h
  have h4 : BitVec.ofNat 8 (n % 256) = BitVec.ofNat 8 (m % 256) := by
    simp only [List.cons.injEq] at h
    exact h.2.2.2.1
  have := congrArg BitVec.toNat h4
  rw [BitVec.toNat_ofNat, BitVec.toNat_ofNat] at this
  omega
theorem leafX_inj {k v k' v' : List (BitVec 8)} (hk : k.length ≤ 60) (hk' : k'.length ≤ 60) (h : leafX k v = leafX k' v') : k = k' ∧ v = v' := by
  unfold leafX at h
  obtain ⟨h1, h2⟩ := List.append_inj (List.cons.inj h).2 rfl
  have := fourB_small (by omega) (by omega) h1
  exact List.append_inj h2 this
theorem topX_unlike {n m : Nat} {a b : List (BitVec 8)} (hn : n ≤ 200) (hm : m ≤ 200) (hne : n ≠ m) : topX n a ≠ topX m b := fun h => by
  unfold topX at h
  obtain ⟨h1, _⟩ := List.append_inj (List.cons.inj h).2 rfl
  exact hne (fourB_small hn hm h1)
/-- two proofs of one place with the same layers say the same -/
theorem layP_same {r : List (BitVec 8)} {p q : Prf} (hp : shownB r p) (hq : shownB r q) (hi : p.index = q.index) (hs : p.size = q.size) (h : ∀ j, j < (layP p).length → (layP p)[j]? = (layP q)[j]?) : p.key = q.key ∧ p.val = q.val := by
  obtain ⟨_, _, _, _, p5, _, p7, p8, p9⟩ := hp
  obtain ⟨_, _, _, _, q5, _, q7, q8, q9⟩ := hq
  have hw : wayP q = wayP p := by unfold wayP; rw [hi, hs]
  have h1 := h ((wayP p).length + 1) (by rw [layP_length p p7]; rw [show p.path.length = (wayP p).length from p7]; omega)
  rw [layP_last p p7] at h1
  have h2 := layP_last q q7
  rw [hw] at h2
  rw [h2] at h1
  exact leafX_inj (by omega) (by omega) (Option.some.inj h1)
theorem layD_small : ∀ (ts : List Tn) (ds : List (List (BitVec 8))) (lf : List (BitVec 8)), (∀ d ∈ ds, d.length = 32) → lf.length ≤ 1000 → ∀ a ∈ layD ts ds lf, a.length ≤ 1000
  | [], ds, lf, _, hl, a, ha => by rw [layD_nil] at ha; obtain rfl : a = lf := by simpa using ha
                                   exact hl
  | t :: ts, [], lf, _, hl, a, ha => by
    rw [layD] at ha
    · obtain rfl : a = lf := by simpa using ha
      exact hl
    · simp
  | t :: ts, d :: ds, lf, h, hl, a, ha => by
    rw [layD] at ha
    have hd : d.length = 32 := h d (by simp)
    have hu := upD_len ts ds (sha lf) (sha_length _)
    rcases List.mem_cons.1 ha with rfl | ha
    · split <;> (unfold nodeX; rw [List.length_cons, List.length_append]; omega)
    · exact layD_small ts ds lf (fun d hd => h d (by simp [hd])) hl a ha
theorem topX_len (n : Nat) (t : List (BitVec 8)) : (topX n t).length = 5 + t.length := by unfold topX; simp [fourB]; omega
theorem leafX_len (k v : List (BitVec 8)) : (leafX k v).length = 5 + (k.length + v.length) := by unfold leafX; simp [fourB]; omega
theorem nodeX_len (k v : List (BitVec 8)) : (nodeX k v).length = 1 + (k.length + v.length) := by unfold nodeX; simp; omega
theorem layP_small {r : List (BitVec 8)} {p : Prf} (hp : shownB r p) : ∀ a ∈ layP p, a.length ≤ 1000 := by
  obtain ⟨_, _, _, _, p5, p6, p7, p8, p9⟩ := hp
  intro a ha
  unfold layP at ha
  rcases List.mem_cons.1 ha with rfl | ha
  · rw [topX_len]
    have := upD_len (wayP p) p.path.reverse (leafD p.key p.val) (by unfold leafD; exact sha_length _)
    omega
  · exact layD_small _ _ _ (fun d hd => p8 d (by simpa using hd)) (by rw [leafX_len]; omega) a ha
end Go.Proofs.YtiflkkelbnpniaaGreatDoor
namespace Go.Proofs.YtiflkkelbnpniaaGreatDoor
open Go.RowKit

set_option maxHeartbeats 1000000 in
set_option maxRecDepth 100000 in
theorem len64_small (x : Nat) (w : World) (h : x < 256) : Calls Tryz.prog 162 #[.int .u64 (x : Int)] w fun e w' => e = .returned (.int .i64 (Lib.bitLen x : Int)) ∧ w' = w := by
  have e1 : decide ((4294967296 : Int) ≤ (x : Int)) = false := by simp; omega
  have e2 : decide ((65536 : Int) ≤ (x : Int)) = false := by simp; omega
  have e3 : decide ((256 : Int) ≤ (x : Int)) = false := by simp; omega
  go_enter Tryz.func162, Tryz.ntmps162
  go_wp2
  all_goals (go_ret; refine ⟨congrArg Ending.returned (congrArg (Value.int IntKind.i64) ?_), rfl⟩)
  have hl := Lib.bitLen_le8 ⟨x, h⟩
  have he := Lib.len8_eq ⟨x, h⟩
  unfold Lib.len8 at he
  simp only [Int.toNat_natCast] at he
  have hs : x < Lib.len8tab.size := by rw [show Lib.len8tab.size = 256 from by kernel_rfl]; exact h
  rw [getElem?_pos Lib.len8tab x hs] at he
  simp only at hl he
  have he2 : ((Lib.len8tab[x]'hs).toNat : Int) = (Lib.bitLen x : Int) := he
  rw [he2]
  unfold wrap64
  omega
theorem half_bits : ∀ n : Fin 257, 2 ≤ n.val → 1 ≤ Lib.bitLen (n.val - 1) ∧ Lib.bitLen (n.val - 1) ≤ 8 ∧ halfN n.val = 2 ^ (Lib.bitLen (n.val - 1) - 1) := by decide +kernel
set_option maxHeartbeats 1000000 in
theorem len_small (x : Nat) (w : World) (h : x < 256) : Calls Tryz.prog 158 #[.int .u64 (x : Int)] w fun e w' => e = .returned (.int .i64 (Lib.bitLen x : Int)) ∧ w' = w := by
  have HL := hid (len64_small x w h)
  go_enter Tryz.func158, Tryz.ntmps158
  go_wp2_with fail
  refine HL.out.mono ?_
  rintro e w' ⟨rfl, hw⟩
  obtain rfl := hw.symm
  go_wp2
  go_ret
  exact ⟨rfl, rfl⟩
set_option maxHeartbeats 1000000 in
theorem split_any (n : Nat) (w : World) (h2 : 2 ≤ n) (hn : n ≤ 256) : Calls Tryz.prog 151 #[.int .i64 (n : Int)] w fun e w' => e = .returned (.int .i64 (halfN n : Int)) ∧ w' = w := by
  obtain ⟨h1, h8, hh⟩ := half_bits ⟨n, by omega⟩ h2
  simp only at h1 h8 hh
  obtain ⟨x, hx⟩ : ∃ x, n - 1 = x := ⟨_, rfl⟩
  rw [hx] at h1 h8 hh
  obtain ⟨b, hb⟩ : ∃ b, Lib.bitLen x = b := ⟨_, rfl⟩
  have HL := hid (len_small x w (by omega))
  rw [hb] at h1 h8 hh HL
  have HH := hid hh
  have e1 : (n : Int) - 1 = (x : Int) := by omega
  have e2 : decide ((n : Int) < 2) = false := by simp; omega
  clear hh hb hx
  go_enter Tryz.func151, Tryz.ntmps151
  go_wp2_with fail
  refine HL.out.mono ?_
  rintro e w' ⟨rfl, hw⟩
  obtain rfl := hw.symm
  have hcases : b = 1 ∨ b = 2 ∨ b = 3 ∨ b = 4 ∨ b = 5 ∨ b = 6 ∨ b = 7 ∨ b = 8 := by omega
  rcases hcases with rfl | rfl | rfl | rfl | rfl | rfl | rfl | rfl <;>
    (go_wp2
     go_ret
     exact ⟨by rw [HH.out]; rfl, rfl⟩)
end Go.Proofs.YtiflkkelbnpniaaGreatDoor
namespace Go.Proofs.YtiflkkelbnpniaaGreatDoor
open Go.RowKit

theorem V_ofNat (m : Nat) (h : m < 256) : V (BitVec.ofNat 8 m) = .int .u8 (m : Int) := by
  unfold V b8
  simp
  omega
theorem four_cells (n : Nat) : (fourB n).map V = [.int .u8 ((n : Int) / 16777216 % 256), .int .u8 ((n : Int) / 65536 % 256), .int .u8 ((n : Int) / 256 % 256), .int .u8 ((n : Int) % 256)] := by
  unfold fourB
  simp only [List.map_cons, List.map_nil]
  rw [V_ofNat _ (by omega), V_ofNat _ (by omega), V_ofNat _ (by omega), V_ofNat _ (by omega)]
  simp
end Go.Proofs.YtiflkkelbnpniaaGreatDoor
