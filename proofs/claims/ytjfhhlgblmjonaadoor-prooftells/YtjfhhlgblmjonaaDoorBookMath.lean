/-
  Plain mathematics of books: bytes in order, pairs by their keys, doings, and what stands under a key; a book knows no past. No program is named here.
  What a key's place in a book says: what stands under it, what dropping it, and setting it, makes. No program is named here.
-/
import Derived.Test.YtjfhhlgblmjonaaDoorShaMath
namespace Go.Proofs.YtjfhhlgblmjonaaDoor

/-- bytes in order: byte by byte; one that begins another one is less -/
def lessB : List (BitVec 8) → List (BitVec 8) → Bool
  | [], [] => false
  | [], _ :: _ => true
  | _ :: _, [] => false
  | x :: a, y :: b => if x = y then lessB a b else decide (x.toNat < y.toNat)
theorem lessB_irrefl : ∀ a, lessB a a = false
  | [] => rfl
  | x :: a => by rw [lessB, if_pos rfl]; exact lessB_irrefl a
theorem lessB_trans : ∀ a b c, lessB a b = true → lessB b c = true → lessB a c = true
  | [], [], _, h, _ => by cases h
  | [], _ :: _, [], _, h => by cases h
  | [], _ :: _, _ :: _, _, _ => rfl
  | _ :: _, [], _, h, _ => by cases h
  | _ :: _, _ :: _, [], _, h => by cases h
  | x :: a, y :: b, z :: c, h1, h2 => by
    rw [lessB] at h1 h2 ⊢
    by_cases e1 : x = y
    · subst e1
      rw [if_pos rfl] at h1
      by_cases e2 : x = z
      · rw [if_pos e2] at h2 ⊢
        exact lessB_trans a b c h1 h2
      · rw [if_neg e2] at h2 ⊢
        exact h2
    · rw [if_neg e1] at h1
      by_cases e2 : y = z
      · subst e2
        rw [if_neg e1]
        exact h1
      · rw [if_neg e2] at h2
        have g1 := of_decide_eq_true h1
        have g2 := of_decide_eq_true h2
        have e3 : ¬ x = z := by rintro rfl; omega
        rw [if_neg e3]
        exact decide_eq_true (by omega)
theorem lessB_total : ∀ a b, a ≠ b → lessB a b = false → lessB b a = true
  | [], [], h, _ => absurd rfl h
  | [], _ :: _, _, h => by cases h
  | _ :: _, [], _, _ => rfl
  | x :: a, y :: b, h, h1 => by
    rw [lessB] at h1 ⊢
    by_cases e : x = y
    · subst e
      rw [if_pos rfl] at h1 ⊢
      exact lessB_total a b (fun h' => h (by rw [h'])) h1
    · rw [if_neg e] at h1
      rw [if_neg (fun h' => e h'.symm)]
      have g1 := of_decide_eq_false h1
      refine decide_eq_true ?_
      rcases Nat.lt_or_ge y.toNat x.toNat with h' | h'
      · exact h'
      · exact absurd (BitVec.eq_of_toNat_eq (by omega)) e
theorem lessB_asymm (a b : List (BitVec 8)) (h : lessB a b = true) : lessB b a = false := by
  cases hb : lessB b a with
  | false => rfl
  | true =>
    have := lessB_trans a b a h hb
    rw [lessB_irrefl] at this
    cases this
theorem lessB_ne {a b : List (BitVec 8)} (h : lessB a b = true) : a ≠ b := by
  rintro rfl
  rw [lessB_irrefl] at h
  cases h

/-- a pair of a book -/
structure Pr where
  key : List (BitVec 8)
  val : List (BitVec 8)
/-- a doing with a book -/
structure Dg where
  key : List (BitVec 8)
  val : List (BitVec 8)
  gone : Bool
/-- pairs in the order of their keys -/
def Sorted (l : List Pr) : Prop := l.Pairwise (fun p q => lessB p.key q.key = true)
/-- what stands under a key -/
def getL (k : List (BitVec 8)) : List Pr → Option (List (BitVec 8))
  | [] => none
  | p :: r => if p.key = k then some p.val else getL k r
/-- without a key -/
def dropK (k : List (BitVec 8)) (l : List Pr) : List Pr := l.filter (fun p => decide (p.key ≠ k))
/-- those ahead of a key, and the others -/
def ahead (k : List (BitVec 8)) : List Pr → List Pr
  | [] => []
  | p :: r => if lessB p.key k = true then p :: ahead k r else []
def behind (k : List (BitVec 8)) : List Pr → List Pr
  | [] => []
  | p :: r => if lessB p.key k = true then behind k r else p :: r
/-- a pair comes, in the place of one with its key -/
def setP (p : Pr) (l : List Pr) : List Pr := ahead p.key (dropK p.key l) ++ p :: behind p.key (dropK p.key l)
/-- too much -/
def tooMuch (k v : List (BitVec 8)) : Prop := 60 < k.length ∨ 200 < v.length
/-- the key ahead is less -/
def okPrev (prev : Option (List (BitVec 8))) (k : List (BitVec 8)) : Bool := match prev with | none => true | some q => lessB q k
def wrongGo (i : Nat) (prev : Option (List (BitVec 8))) : List Pr → Int × Nat
  | [] => (0, 0)
  | p :: r => if 60 < p.key.length ∨ 200 < p.val.length then (4, i) else
    if okPrev prev p.key = false then (2, i) else wrongGo (i + 1) (some p.key) r
/-- what is wrong with a book, and where -/
def wrongL (l : List Pr) : Int × Nat := if 200 < l.length then (5, 0) else wrongGo 0 none l
def playGo (i : Nat) (out : List Pr) : List Dg → Except (Int × Nat) (List Pr)
  | [] => .ok out
  | d :: r => if 60 < d.key.length ∨ 200 < d.val.length then .error (4, i)
    else if d.gone = true then playGo (i + 1) (dropK d.key out) r
    else if 200 < (setP ⟨d.key, d.val⟩ out).length then .error (5, i)
    else playGo (i + 1) (setP ⟨d.key, d.val⟩ out) r
/-- what doings make -/
def playL (l : List Dg) : Except (Int × Nat) (List Pr) := playGo 0 [] l

theorem ahead_behind (k : List (BitVec 8)) : ∀ l, ahead k l ++ behind k l = l
  | [] => rfl
  | p :: r => by
    unfold ahead behind
    split
    · rw [List.cons_append, ahead_behind k r]
    · rfl
theorem mem_ahead {k : List (BitVec 8)} {p : Pr} : ∀ {l}, p ∈ ahead k l → lessB p.key k = true
  | [], h => by cases h
  | q :: r, h => by
    unfold ahead at h
    split at h
    · rcases List.mem_cons.1 h with rfl | h
      · assumption
      · exact mem_ahead h
    · cases h
theorem sorted_drop (k : List (BitVec 8)) (l : List Pr) (h : Sorted l) : Sorted (dropK k l) := List.Pairwise.filter _ h
theorem mem_dropK {k : List (BitVec 8)} {p : Pr} {l : List Pr} : p ∈ dropK k l ↔ p ∈ l ∧ p.key ≠ k := by simp [dropK]
theorem mem_behind {k : List (BitVec 8)} : ∀ {l : List Pr}, Sorted l → (∀ p ∈ l, p.key ≠ k) → ∀ p ∈ behind k l, lessB k p.key = true
  | [], _, _, p, h => by cases h
  | q :: r, hs, hk, p, h => by
    have hs' := List.pairwise_cons.1 hs
    unfold behind at h
    split at h
    · exact mem_behind hs'.2 (fun p hp => hk p (List.mem_cons_of_mem _ hp)) p h
    · rename_i hq
      have hq' : lessB k q.key = true := lessB_total q.key k (hk q (by simp)) (by simpa using hq)
      rcases List.mem_cons.1 h with rfl | h
      · exact hq'
      · exact lessB_trans _ _ _ hq' (hs'.1 p h)
theorem sorted_set (p : Pr) (l : List Pr) (h : Sorted l) : Sorted (setP p l) := by
  have hd := sorted_drop p.key l h
  have hab := ahead_behind p.key (dropK p.key l)
  have hk : ∀ q ∈ dropK p.key l, q.key ≠ p.key := fun q hq => (mem_dropK.1 hq).2
  have hb := mem_behind hd hk
  unfold setP
  rw [← hab] at hd
  obtain ⟨h1, h2, h3⟩ := List.pairwise_append.1 hd
  refine List.pairwise_append.2 ⟨h1, List.pairwise_cons.2 ⟨fun q hq => hb q hq, h2⟩, ?_⟩
  intro a ha b hb'
  rcases List.mem_cons.1 hb' with rfl | hb'
  · exact mem_ahead ha
  · exact h3 a ha b hb'
theorem getL_none {k : List (BitVec 8)} : ∀ {l : List Pr}, (∀ p ∈ l, p.key ≠ k) → getL k l = none
  | [], _ => rfl
  | p :: r, h => by
    rw [getL, if_neg (h p (by simp))]
    exact getL_none (fun q hq => h q (by simp [hq]))
theorem getL_append (k : List (BitVec 8)) : ∀ (l m : List Pr), getL k (l ++ m) = (getL k l).or (getL k m)
  | [], m => by simp [getL]
  | p :: r, m => by
    rw [List.cons_append, getL, getL]
    split
    · rfl
    · exact getL_append k r m
theorem getL_drop_same (k : List (BitVec 8)) (l : List Pr) : getL k (dropK k l) = none := getL_none fun _ hp => (mem_dropK.1 hp).2
theorem getL_drop_other (k k' : List (BitVec 8)) (h : k' ≠ k) : ∀ l : List Pr, getL k' (dropK k l) = getL k' l
  | [] => rfl
  | p :: r => by
    have ih := getL_drop_other k k' h r
    unfold dropK at ih ⊢
    rw [List.filter_cons]
    split
    · rw [getL, getL, ih]
    · rename_i hp
      have hp' : p.key = k := by simpa using hp
      rw [ih, getL, if_neg (by rw [hp']; exact fun e => h e.symm)]
theorem getL_set_same (p : Pr) (l : List Pr) : getL p.key (setP p l) = some p.val := by
  unfold setP
  rw [getL_append, getL_none (fun q hq => ?_), Option.none_or, getL, if_pos rfl]
  exact lessB_ne (mem_ahead hq)
theorem getL_set_other (p : Pr) (k : List (BitVec 8)) (h : k ≠ p.key) (l : List Pr) : getL k (setP p l) = getL k l := by
  rw [← getL_drop_other p.key k h l]
  conv => rhs; rw [← ahead_behind p.key (dropK p.key l)]
  unfold setP
  rw [getL_append, getL_append, getL, if_neg (fun e => h e.symm)]
theorem getL_head {p : Pr} {r : List Pr} : getL p.key (p :: r) = some p.val := by rw [getL, if_pos rfl]
theorem getL_mem {k v : List (BitVec 8)} : ∀ {l : List Pr}, getL k l = some v → ∃ p ∈ l, p.key = k
  | [], h => by cases h
  | p :: r, h => by
    rw [getL] at h
    split at h
    · exact ⟨p, by simp, by assumption⟩
    · obtain ⟨q, hq, e⟩ := getL_mem h
      exact ⟨q, by simp [hq], e⟩
/-- books in which the same stands under each key are the same -/
theorem sorted_ext : ∀ (l m : List Pr), Sorted l → Sorted m → (∀ k, getL k l = getL k m) → l = m
  | [], [], _, _, _ => rfl
  | [], q :: m, _, _, h => by have := h q.key; rw [getL_head] at this; cases this
  | p :: l, [], _, _, h => by have := h p.key; rw [getL_head] at this; cases this
  | p :: l, q :: m, hl, hm, h => by
    have hl' := List.pairwise_cons.1 hl
    have hm' := List.pairwise_cons.1 hm
    have hk : p.key = q.key := by
      by_cases e : p.key = q.key
      · exact e
      · exfalso
        have h1 := h p.key
        rw [getL_head, getL, if_neg (fun e' => e e'.symm)] at h1
        obtain ⟨a, ha, ea⟩ := getL_mem h1.symm
        have h2 := h q.key
        rw [getL_head, getL, if_neg e] at h2
        obtain ⟨b, hb, eb⟩ := getL_mem h2
        have g1 := hm'.1 a ha
        have g2 := hl'.1 b hb
        rw [ea] at g1
        rw [eb] at g2
        have := lessB_asymm _ _ g1
        rw [g2] at this
        cases this
    have hv : p.val = q.val := by
      have h1 := h p.key
      rw [getL_head, hk, getL_head] at h1
      simpa using h1
    have ht : l = m := by
      refine sorted_ext l m hl'.2 hm'.2 (fun k => ?_)
      by_cases e : k = p.key
      · subst e
        rw [getL_none (fun a ha e' => lessB_ne (hl'.1 a ha) e'.symm), getL_none (fun a ha e' => lessB_ne (hm'.1 a ha) (by rw [e', hk]))]
      · have h1 := h k
        rw [getL, if_neg (fun e' => e e'.symm), getL, if_neg (fun e' => e (by rw [hk, e']))] at h1
        exact h1
    rw [ht]
    congr 1
    obtain ⟨pk, pv⟩ := p
    obtain ⟨qk, qv⟩ := q
    simp at hk hv
    rw [hk, hv]

/-- what one doing makes of a book, if it may -/
def doOne (d : Dg) (l : List Pr) : List Pr := if d.gone = true then dropK d.key l else setP ⟨d.key, d.val⟩ l
theorem sorted_do (d : Dg) (l : List Pr) (h : Sorted l) : Sorted (doOne d l) := by
  unfold doOne; split
  · exact sorted_drop _ _ h
  · exact sorted_set _ _ h
theorem get_do_same (d : Dg) (l : List Pr) : getL d.key (doOne d l) = if d.gone = true then none else some d.val := by
  unfold doOne; split
  · exact getL_drop_same _ _
  · exact getL_set_same ⟨d.key, d.val⟩ l
theorem get_do_other (d : Dg) (k : List (BitVec 8)) (h : k ≠ d.key) (l : List Pr) : getL k (doOne d l) = getL k l := by
  unfold doOne; split
  · exact getL_drop_other _ _ h _
  · exact getL_set_other ⟨d.key, d.val⟩ k h l
/-- doings of different keys know no order -/
theorem do_comm (a b : Dg) (h : a.key ≠ b.key) (l : List Pr) (hl : Sorted l) : doOne a (doOne b l) = doOne b (doOne a l) := by
  refine sorted_ext _ _ (sorted_do _ _ (sorted_do _ _ hl)) (sorted_do _ _ (sorted_do _ _ hl)) (fun k => ?_)
  by_cases ea : k = a.key
  · subst ea
    rw [get_do_same, get_do_other b a.key h, get_do_same]
  · rw [get_do_other a k ea]
    by_cases eb : k = b.key
    · subst eb
      rw [get_do_same, get_do_same]
    · rw [get_do_other b k eb, get_do_other b k eb, get_do_other a k ea]
/-- what may be in a book -/
def Fits (l : List Pr) : Prop := ∀ p ∈ l, p.key.length ≤ 60 ∧ p.val.length ≤ 200
theorem fits_drop (k : List (BitVec 8)) (l : List Pr) (h : Fits l) : Fits (dropK k l) := fun p hp => h p (mem_dropK.1 hp).1
theorem fits_set (p : Pr) (l : List Pr) (h : Fits l) (hp : p.key.length ≤ 60 ∧ p.val.length ≤ 200) : Fits (setP p l) := by
  intro q hq
  unfold setP at hq
  have hd := fits_drop p.key l h
  rw [← ahead_behind p.key (dropK p.key l)] at hd
  rcases List.mem_append.1 hq with hq | hq
  · exact hd q (List.mem_append_left _ hq)
  · rcases List.mem_cons.1 hq with rfl | hq
    · exact hp
    · exact hd q (List.mem_append_right _ hq)
theorem length_set (p : Pr) (l : List Pr) : (setP p l).length = (dropK p.key l).length + 1 := by
  unfold setP
  have := congrArg List.length (ahead_behind p.key (dropK p.key l))
  rw [List.length_append] at this
  rw [List.length_append, List.length_cons]
  omega
theorem length_drop_le (k : List (BitVec 8)) (l : List Pr) : (dropK k l).length ≤ l.length := List.length_filter_le _ _
/-- what doings make is a book -/
theorem playGo_book : ∀ (l : List Dg) (i : Nat) (out x : List Pr), playGo i out l = .ok x → Sorted out → Fits out → out.length ≤ 200 → Sorted x ∧ Fits x ∧ x.length ≤ 200 := by
  intro l
  induction l with
  | nil => intro i out x h hs hf hn; simp [playGo] at h; subst h; exact ⟨hs, hf, hn⟩
  | cons d r ih =>
    intro i out x h hs hf hn
    rw [playGo] at h
    split at h
    · cases h
    · split at h
      · exact ih _ _ _ h (sorted_drop _ _ hs) (fits_drop _ _ hf) (Nat.le_trans (length_drop_le _ _) hn)
      · split at h
        · cases h
        · exact ih _ _ _ h (sorted_set _ _ hs) (fits_set _ _ hf (by simp; omega)) (by omega)
theorem playL_book (l : List Dg) (x : List Pr) (h : playL l = .ok x) : Sorted x ∧ Fits x ∧ x.length ≤ 200 :=
  playGo_book l 0 [] x h List.Pairwise.nil (fun _ hp => by cases hp) (by simp)
theorem wrongGo_book : ∀ (l : List Pr) (i : Nat) (prev : Option (List (BitVec 8))), Sorted l → Fits l → (∀ k, prev = some k → ∀ p ∈ l, lessB k p.key = true) → wrongGo i prev l = (0, 0) := by
  intro l
  induction l with
  | nil => intro i prev _ _ _; rfl
  | cons p r ih =>
    intro i prev hs hf hp
    have hs' := List.pairwise_cons.1 hs
    have hf' := hf p (by simp)
    rw [wrongGo, if_neg (by omega), if_neg]
    · exact ih _ _ hs'.2 (fun q hq => hf q (by simp [hq])) (fun k hk q hq => by cases hk; exact hs'.1 q hq)
    · cases prev with
      | none => simp [okPrev]
      | some k => simp [okPrev, hp k rfl p (by simp)]
/-- a book is not wrong -/
theorem wrongL_book (l : List Pr) (hs : Sorted l) (hf : Fits l) (hn : l.length ≤ 200) : wrongL l = (0, 0) := by
  unfold wrongL
  rw [if_neg (by omega), wrongGo_book l 0 none hs hf (fun k hk => by cases hk)]
/-- what is not wrong is a book -/
theorem wrongGo_ok : ∀ (l : List Pr) (i : Nat) (prev : Option (List (BitVec 8))) (j : Nat), wrongGo i prev l = (0, j) → Sorted l ∧ Fits l ∧ (∀ k, prev = some k → ∀ p ∈ l, lessB k p.key = true) := by
  intro l
  induction l with
  | nil => intro i prev j _; exact ⟨List.Pairwise.nil, (fun _ hp => by cases hp), (fun _ _ _ hp => by cases hp)⟩
  | cons p r ih =>
    intro i prev j h
    rw [wrongGo] at h
    split at h
    · simp at h
    · split at h
      · simp at h
      · rename_i h1 h2
        obtain ⟨g1, g2, g3⟩ := ih _ _ _ h
        have g4 := g3 p.key rfl
        refine ⟨List.pairwise_cons.2 ⟨g4, g1⟩, ?_, ?_⟩
        · intro q hq
          rcases List.mem_cons.1 hq with rfl | hq
          · omega
          · exact g2 q hq
        · rintro k rfl q hq
          have hkp : lessB k p.key = true := by simpa [okPrev] using h2
          rcases List.mem_cons.1 hq with rfl | hq
          · exact hkp
          · exact lessB_trans _ _ _ hkp (g4 q hq)
/-- doings from a book on: one doing at a time -/
theorem playGo_cons (d : Dg) (r : List Dg) (i : Nat) (out : List Pr) : playGo i out (d :: r) =
    if 60 < d.key.length ∨ 200 < d.val.length then .error (4, i) else if d.gone = false ∧ 200 < (doOne d out).length then .error (5, i) else playGo (i + 1) (doOne d out) r := by
  rw [playGo]
  split
  · rfl
  · unfold doOne
    cases hg : d.gone with
    | true => simp
    | false => simp
theorem playGo_append : ∀ (l m : List Dg) (i : Nat) (out : List Pr), playGo i out (l ++ m) = match playGo i out l with | .error e => .error e | .ok x => playGo (i + l.length) x m := by
  intro l
  induction l with
  | nil => intro m i out; rfl
  | cons d r ih =>
    intro m i out
    rw [List.cons_append, playGo_cons, playGo_cons]
    split
    · rfl
    · split
      · rfl
      · rw [ih]
        simp only [List.length_cons]
        rw [show i + 1 + r.length = i + (r.length + 1) by omega]
/-- what comes in front of all others -/
theorem set_front (p : Pr) (l : List Pr) (h : ∀ q ∈ l, lessB p.key q.key = true) : setP p l = p :: l := by
  have hd : dropK p.key l = l := by
    unfold dropK
    rw [List.filter_eq_self]
    intro q hq
    exact decide_eq_true (fun e => lessB_ne (h q hq) e.symm)
  unfold setP
  rw [hd]
  cases l with
  | nil => rfl
  | cons q r =>
    have hq : ¬ lessB q.key p.key = true := by rw [lessB_asymm _ _ (h q (by simp))]; simp
    rw [ahead, behind, if_neg hq, if_neg hq]
    rfl
/-- a book's own pairs as doings, from the last one on -/
def back (x : List Pr) : List Dg := (x.map fun p => (⟨p.key, p.val, false⟩ : Dg)).reverse
theorem play_back : ∀ (x : List Pr) (i : Nat), Sorted x → Fits x → x.length ≤ 200 → playGo i [] (back x) = .ok x := by
  intro x
  induction x with
  | nil => intro i _ _ _; rfl
  | cons p r ih =>
    intro i hs hf hn
    have hs' := List.pairwise_cons.1 hs
    have hp := hf p (by simp)
    have e : back (p :: r) = back r ++ [⟨p.key, p.val, false⟩] := by simp [back]
    rw [List.length_cons] at hn
    rw [e, playGo_append, ih i hs'.2 (fun q hq => hf q (by simp [hq])) (by omega)]
    simp only
    have hset : doOne ⟨p.key, p.val, false⟩ r = p :: r := by
      unfold doOne
      rw [if_neg (by simp)]
      exact set_front p r hs'.1
    rw [playGo_cons, if_neg (by simp; omega), hset, if_neg (by simp; omega), playGo]
theorem play_snoc (l : List Dg) (d : Dg) (a b : List Pr) (h1 : playL l = .ok a) (h2 : playL (l ++ [d]) = .ok b) : b = doOne d a := by
  unfold playL at h1 h2
  rw [playGo_append, h1] at h2
  simp only at h2
  rw [playGo_cons] at h2
  split at h2
  · cases h2
  · split at h2
    · cases h2
    · simpa [playGo] using h2.symm
theorem play_two (l : List Dg) (a b : Dg) (x : List Pr) (h : playL (l ++ [a, b]) = .ok x) : ∃ z, playL l = .ok z ∧ x = doOne b (doOne a z) := by
  have e : l ++ [a, b] = (l ++ [a]) ++ [b] := by simp
  rw [e] at h
  have h' := h
  unfold playL at h'
  rw [playGo_append] at h'
  split at h'
  · cases h'
  · rename_i y hy
    have hy' := hy
    rw [playGo_append] at hy'
    split at hy'
    · cases hy'
    · rename_i z hz
      have h1 : playL l = .ok z := hz
      have h2 : playL (l ++ [a]) = .ok y := hy
      refine ⟨z, h1, ?_⟩
      rw [play_snoc _ b y x h2 h, play_snoc l a z y h1 h2]
/-- a book knows no past -/
theorem play_past (l : List Dg) (a b : Dg) (x y : List Pr) (h1 : playL (l ++ [a, b]) = .ok x) (h2 : playL (l ++ [b, a]) = .ok y) (hk : a.key ≠ b.key) : x = y := by
  obtain ⟨z, hz, rfl⟩ := play_two l a b x h1
  obtain ⟨z', hz', rfl⟩ := play_two l b a y h2
  rw [hz] at hz'
  obtain rfl : z = z' := by simpa using hz'
  exact do_comm b a (fun e => hk e.symm) z (playL_book l z hz).1

/-- a number in four bytes, the high one first -/
def fourB (n : Nat) : List (BitVec 8) := [BitVec.ofNat 8 (n / 16777216 % 256), BitVec.ofNat 8 (n / 65536 % 256), BitVec.ofNat 8 (n / 256 % 256), BitVec.ofNat 8 (n % 256)]
def leafD (k v : List (BitVec 8)) : List (BitVec 8) := sha (0 :: (fourB k.length ++ (k ++ v)))
def nodeD (a b : List (BitVec 8)) : List (BitVec 8) := sha (1 :: (a ++ b))
def topD (n : Nat) (t : List (BitVec 8)) : List (BitVec 8) := sha (2 :: (fourB n ++ t))
/-- the greatest power of two below n, from k on, in so many steps at most -/
def halfF : Nat → Nat → Nat → Nat
  | 0, k, _ => k
  | f + 1, k, n => if n ≤ 2 * k ∨ k = 0 then k else halfF f (2 * k) n
def halfGo (k n : Nat) : Nat := halfF (n - k) k n
theorem halfF_stop (f : Nat) {k n : Nat} (h : n ≤ 2 * k ∨ k = 0) : halfF f k n = k := by
  cases f with
  | zero => rfl
  | succ f => rw [halfF, if_pos h]
theorem halfF_any : ∀ (f f' k n : Nat), n - k ≤ f → n - k ≤ f' → halfF f k n = halfF f' k n := by
  intro f
  induction f with
  | zero => intro f' k n h _; rw [halfF_stop 0 (.inl (by omega)), halfF_stop f' (.inl (by omega))]
  | succ f ih =>
    intro f' k n h h'
    by_cases hs : n ≤ 2 * k ∨ k = 0
    · rw [halfF_stop _ hs, halfF_stop _ hs]
    · cases f' with
      | zero => omega
      | succ f' => rw [halfF, halfF, if_neg hs, if_neg hs, ih f' (2 * k) n (by omega) (by omega)]
theorem halfGo_eq (k n : Nat) : halfGo k n = if n ≤ 2 * k ∨ k = 0 then k else halfGo (2 * k) n := by
  unfold halfGo
  split
  · rename_i h
    exact halfF_stop _ h
  · rename_i h
    obtain ⟨m, hm⟩ : ∃ m, n - k = m + 1 := ⟨n - k - 1, by omega⟩
    rw [hm, halfF, if_neg h]
    exact halfF_any _ _ _ _ (by omega) (Nat.le_refl _)
def halfN (n : Nat) : Nat := halfGo 1 n
theorem halfGo_lt (k n : Nat) (hk : 0 < k) (h : k < n) : 0 < halfGo k n ∧ halfGo k n < n := by
  induction hd : n - k using Nat.strongRecOn generalizing k with
  | _ d ih =>
    rw [halfGo_eq]
    split
    · exact ⟨hk, h⟩
    · exact ih (n - 2 * k) (by omega) (2 * k) (by omega) (by omega) rfl
theorem halfN_lt (n : Nat) (h : 2 ≤ n) : 0 < halfN n ∧ halfN n < n := halfGo_lt 1 n (by omega) (by omega)
/-- the tree of pairs, of so many halvings at most -/
def treeF : Nat → List Pr → List (BitVec 8)
  | 0, [] => []
  | 0, p :: _ => leafD p.key p.val
  | _ + 1, [] => []
  | f + 1, p :: r => if 2 ≤ (p :: r).length then nodeD (treeF f ((p :: r).take (halfN (p :: r).length))) (treeF f ((p :: r).drop (halfN (p :: r).length))) else leafD p.key p.val
/-- the tree of pairs -/
def treeD (l : List Pr) : List (BitVec 8) := treeF l.length l
theorem treeF_one (f : Nat) (p : Pr) : treeF f [p] = leafD p.key p.val := by
  cases f with
  | zero => rfl
  | succ f => rw [treeF, if_neg (by simp)]
theorem treeF_nil (f : Nat) : treeF f [] = [] := by cases f <;> rfl
theorem treeF_any : ∀ (f f' : Nat) (l : List Pr), l.length ≤ f → l.length ≤ f' → treeF f l = treeF f' l := by
  intro f
  induction f with
  | zero =>
    intro f' l h _
    obtain rfl := List.length_eq_zero_iff.1 (show l.length = 0 by omega)
    rw [treeF_nil, treeF_nil]
  | succ f ih =>
    intro f' l h h'
    match l, h, h' with
    | [], _, _ => rw [treeF_nil, treeF_nil]
    | [p], _, _ => rw [treeF_one, treeF_one]
    | p :: q :: r, h, h' =>
      cases f' with
      | zero => simp at h'
      | succ f' =>
        have hl := halfN_lt (p :: q :: r).length (by simp)
        rw [treeF, treeF, if_pos (by simp), if_pos (by simp), ih f' ((p :: q :: r).take (halfN (p :: q :: r).length)) (by rw [List.length_take]; omega) (by rw [List.length_take]; omega),
          ih f' ((p :: q :: r).drop (halfN (p :: q :: r).length)) (by rw [List.length_drop]; omega) (by rw [List.length_drop]; omega)]
theorem treeD_nil : treeD [] = [] := treeF_nil _
theorem treeD_one (p : Pr) : treeD [p] = leafD p.key p.val := treeF_one _ p
theorem treeD_more (l : List Pr) (h : 2 ≤ l.length) : treeD l = nodeD (treeD (l.take (halfN l.length))) (treeD (l.drop (halfN l.length))) := by
  match l, h with
  | p :: q :: r, h =>
    have hl := halfN_lt (p :: q :: r).length (by simp)
    unfold treeD
    conv => lhs; rw [show (p :: q :: r).length = (q :: r).length + 1 from rfl, treeF]
    rw [if_pos (by simp), treeF_any (q :: r).length ((p :: q :: r).take (halfN (p :: q :: r).length)).length _ (by rw [List.length_take]; simp at hl ⊢; omega) (Nat.le_refl _),
      treeF_any (q :: r).length ((p :: q :: r).drop (halfN (p :: q :: r).length)).length _ (by rw [List.length_drop]; simp at hl ⊢; omega) (Nat.le_refl _)]
end Go.Proofs.YtjfhhlgblmjonaaDoor
namespace Go.Proofs.YtjfhhlgblmjonaaDoor

/-- where a key stands, or would; whether it does -/
def At (k : List (BitVec 8)) (l : List Pr) (i : Nat) (fd : Bool) : Prop :=
  i ≤ l.length ∧ (∀ j p, j < i → l[j]? = some p → lessB p.key k = true) ∧ (∀ j p, i ≤ j → l[j]? = some p → lessB p.key k = false) ∧ (fd = true ↔ ∃ p, l[i]? = some p ∧ p.key = k)
theorem sorted_lt {l : List Pr} (h : Sorted l) {i j : Nat} {p q : Pr} (hij : i < j) (hp : l[i]? = some p) (hq : l[j]? = some q) : lessB p.key q.key = true := by
  obtain ⟨hi, rfl⟩ := List.getElem?_eq_some_iff.1 hp
  obtain ⟨hj, rfl⟩ := List.getElem?_eq_some_iff.1 hq
  exact List.pairwise_iff_getElem.1 h i j hi hj hij
theorem At.found {k : List (BitVec 8)} {l : List Pr} {i : Nat} (h : At k l i true) : ∃ p, l[i]? = some p ∧ p.key = k := h.2.2.2.1 rfl
theorem At.not_found {k : List (BitVec 8)} {l : List Pr} {i : Nat} (h : At k l i false) (p : Pr) (hp : l[i]? = some p) : p.key ≠ k := fun e => by
  have := h.2.2.2.2 ⟨p, hp, e⟩
  cases this
/-- every other pair has another key -/
theorem At.others {k : List (BitVec 8)} {l : List Pr} {i : Nat} {fd : Bool} (h : At k l i fd) (hs : Sorted l) (j : Nat) (p : Pr) (hp : l[j]? = some p) (hne : j ≠ i) : p.key ≠ k := by
  rcases Nat.lt_or_gt_of_ne hne with hlt | hgt
  · exact lessB_ne (h.2.1 j p hlt hp)
  · rintro rfl
    obtain ⟨hj, _⟩ := List.getElem?_eq_some_iff.1 hp
    have hi : l[i]? = some (l[i]'(by omega)) := List.getElem?_eq_getElem _
    have h1 := sorted_lt hs hgt hi hp
    rw [h.2.2.1 i _ (Nat.le_refl _) hi] at h1
    cases h1
theorem filter_all {α : Type} (f : α → Bool) (l : List α) (h : ∀ (j : Nat) (p : α), l[j]? = some p → f p = true) : l.filter f = l :=
  List.filter_eq_self.2 fun p hp => by
    obtain ⟨j, hj, rfl⟩ := List.getElem_of_mem hp
    exact h j _ (List.getElem?_eq_getElem hj)
theorem At.split {k : List (BitVec 8)} {l : List Pr} {i : Nat} (h : At k l i true) : ∃ p, l[i]? = some p ∧ p.key = k ∧ l = l.take i ++ p :: l.drop (i + 1) := by
  obtain ⟨p, hp, hk⟩ := h.found
  obtain ⟨hi, he⟩ := List.getElem?_eq_some_iff.1 hp
  refine ⟨p, hp, hk, ?_⟩
  rw [← he, ← List.drop_eq_getElem_cons hi, List.take_append_drop]
theorem drop_get_some {l : List Pr} {n j : Nat} {p : Pr} (h : (l.drop n)[j]? = some p) : l[n + j]? = some p := by rwa [List.getElem?_drop] at h
theorem take_get_some {l : List Pr} {n j : Nat} {p : Pr} (h : (l.take n)[j]? = some p) : j < n ∧ l[j]? = some p := by
  rw [List.getElem?_take] at h
  split at h
  · exact ⟨by assumption, h⟩
  · cases h
theorem At.drop_found {k : List (BitVec 8)} {l : List Pr} {i : Nat} (h : At k l i true) (hs : Sorted l) : dropK k l = l.take i ++ l.drop (i + 1) := by
  obtain ⟨p, hp, hk, he⟩ := h.split
  have e : dropK k l = dropK k (l.take i ++ p :: l.drop (i + 1)) := by rw [← he]
  rw [e]
  unfold dropK
  rw [List.filter_append, List.filter_cons, if_neg (by simp [hk])]
  rw [filter_all _ _ fun j q hq => ?_, filter_all _ _ fun j q hq => ?_]
  · have := drop_get_some hq
    exact decide_eq_true (h.others hs _ q this (by omega))
  · have := take_get_some hq
    exact decide_eq_true (h.others hs _ q this.2 (by omega))
theorem At.drop_not {k : List (BitVec 8)} {l : List Pr} {i : Nat} (h : At k l i false) (hs : Sorted l) : dropK k l = l := by
  unfold dropK
  refine filter_all _ _ fun j q hq => decide_eq_true ?_
  by_cases e : j = i
  · subst e
    exact h.not_found q hq
  · exact h.others hs j q hq e
theorem ahead_of (k : List (BitVec 8)) : ∀ (a b : List Pr), (∀ (j : Nat) p, a[j]? = some p → lessB p.key k = true) → (∀ p, b[0]? = some p → lessB p.key k = false) → ahead k (a ++ b) = a ∧ behind k (a ++ b) = b
  | [], [], _, _ => ⟨rfl, rfl⟩
  | [], q :: r, _, hb => by
    have := hb q rfl
    rw [List.nil_append, ahead, behind, if_neg (by simp [this]), if_neg (by simp [this])]
    exact ⟨rfl, rfl⟩
  | p :: a, b, ha, hb => by
    have h0 := ha 0 p rfl
    have ih := ahead_of k a b (fun j q hq => ha (j + 1) q (by simpa using hq)) hb
    rw [List.cons_append, ahead, behind, if_pos h0, if_pos h0, ih.1, ih.2]
    exact ⟨rfl, rfl⟩
theorem At.set_found {k : List (BitVec 8)} {l : List Pr} {i : Nat} (h : At k l i true) (hs : Sorted l) (v : List (BitVec 8)) : setP ⟨k, v⟩ l = l.take i ++ ⟨k, v⟩ :: l.drop (i + 1) := by
  unfold setP
  rw [show (⟨k, v⟩ : Pr).key = k from rfl, h.drop_found hs]
  obtain ⟨h1, h2⟩ := ahead_of k (l.take i) (l.drop (i + 1)) (fun j p hp => h.2.1 j p (take_get_some hp).1 (take_get_some hp).2) (fun p hp => h.2.2.1 (i + 1 + 0) p (by omega) (drop_get_some hp))
  rw [h1, h2]
theorem At.set_not {k : List (BitVec 8)} {l : List Pr} {i : Nat} (h : At k l i false) (hs : Sorted l) (v : List (BitVec 8)) : setP ⟨k, v⟩ l = l.take i ++ ⟨k, v⟩ :: l.drop i := by
  unfold setP
  rw [show (⟨k, v⟩ : Pr).key = k from rfl, h.drop_not hs]
  obtain ⟨h1, h2⟩ := ahead_of k (l.take i) (l.drop i) (fun j p hp => h.2.1 j p (take_get_some hp).1 (take_get_some hp).2) (fun p hp => h.2.2.1 (i + 0) p (by omega) (drop_get_some hp))
  rw [List.take_append_drop] at h1 h2
  rw [h1, h2]
theorem At.get_found {k : List (BitVec 8)} {l : List Pr} {i : Nat} (h : At k l i true) (hs : Sorted l) : ∃ p, l[i]? = some p ∧ getL k l = some p.val := by
  obtain ⟨p, hp, hk, he⟩ := h.split
  refine ⟨p, hp, ?_⟩
  have e : getL k l = getL k (l.take i ++ p :: l.drop (i + 1)) := by rw [← he]
  rw [e, getL_append, getL_none, Option.none_or, getL, if_pos hk]
  intro q hq
  obtain ⟨j, hj, rfl⟩ := List.getElem_of_mem hq
  have := take_get_some (List.getElem?_eq_getElem hj)
  exact h.others hs j _ this.2 (by omega)
theorem At.get_not {k : List (BitVec 8)} {l : List Pr} {i : Nat} (h : At k l i false) (hs : Sorted l) : getL k l = none := by
  refine getL_none fun q hq => ?_
  obtain ⟨j, hj, rfl⟩ := List.getElem_of_mem hq
  have hp : l[j]? = some l[j] := List.getElem?_eq_getElem hj
  by_cases e : j = i
  · subst e
    exact h.not_found _ hp
  · exact h.others hs j _ hp e
end Go.Proofs.YtjfhhlgblmjonaaDoor
