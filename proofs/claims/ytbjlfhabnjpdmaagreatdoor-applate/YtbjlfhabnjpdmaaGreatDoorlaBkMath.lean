/-
  Purses as lists that rise: how much somebody has, how much there is, what is put; minting, burning, moving.
-/
import Derived.Test.YtbjlfhabnjpdmaaGreatDoorlaStMath
namespace Go.Proofs.YtbjlfhabnjpdmaaGreatDoor

theorem bless_irr : ∀ (a : List UInt8), Op.bytesLess a a = false
  | [] => rfl
  | x :: a => by unfold Op.bytesLess; rw [bless_irr a]; simp
theorem bless_trans : ∀ (a b c : List UInt8), Op.bytesLess a b = true → Op.bytesLess b c = true → Op.bytesLess a c = true
  | a, [], _, h, _ => by cases a <;> simp [Op.bytesLess] at h
  | _, _ :: _, [], _, h => by simp [Op.bytesLess] at h
  | [], _ :: _, _ :: _, _, _ => rfl
  | x :: a, y :: b, z :: c, h1, h2 => by
    unfold Op.bytesLess at *
    simp only [Bool.or_eq_true, Bool.and_eq_true, decide_eq_true_eq, beq_iff_eq] at *
    rcases h1 with h1 | ⟨rfl, h1⟩
    · rcases h2 with h2 | ⟨rfl, h2⟩
      · exact .inl (UInt8.lt_trans h1 h2)
      · exact .inl h1
    · rcases h2 with h2 | ⟨rfl, h2⟩
      · exact .inl h2
      · exact .inr ⟨rfl, bless_trans a b c h1 h2⟩
theorem bless_tri : ∀ (a b : List UInt8), Op.bytesLess a b = true ∨ a = b ∨ Op.bytesLess b a = true
  | [], [] => .inr (.inl rfl)
  | [], _ :: _ => .inl rfl
  | _ :: _, [] => .inr (.inr rfl)
  | x :: a, y :: b => by
    unfold Op.bytesLess
    simp only [Bool.or_eq_true, Bool.and_eq_true, decide_eq_true_eq, beq_iff_eq]
    rcases Nat.lt_trichotomy x.toNat y.toNat with h | h | h
    · exact .inl (.inl h)
    · have : x = y := UInt8.toNat_inj.1 h
      subst this
      rcases bless_tri a b with h | rfl | h
      · exact .inl (.inr ⟨rfl, h⟩)
      · exact .inr (.inl rfl)
      · exact .inr (.inr (.inr ⟨rfl, h⟩))
    · exact .inr (.inr (.inl h))
theorem toList_inj {a b : ByteArray} (h : a.toList = b.toList) : a = b := by
  rw [ByteArray.toList_eq, ByteArray.toList_eq] at h
  exact ByteArray.ext (Array.toList_inj.1 h)
theorem lessPu_irr (a b : Pu) (h1 : a.owner = b.owner) (h2 : a.denom = b.denom) : lessPu a b = false := by
  unfold lessPu lessS
  rw [h1, h2, bless_irr, bless_irr]
  simp
theorem lessPu_trans {a b c : Pu} (h1 : lessPu a b = true) (h2 : lessPu b c = true) : lessPu a c = true := by
  unfold lessPu lessS at *
  simp only [Bool.or_eq_true, Bool.and_eq_true, decide_eq_true_eq] at *
  rcases h1 with h1 | ⟨e1, h1⟩
  · rcases h2 with h2 | ⟨e2, h2⟩
    · exact .inl (bless_trans _ _ _ h1 h2)
    · rw [← e2]; exact .inl h1
  · rw [e1]
    rcases h2 with h2 | ⟨e2, h2⟩
    · exact .inl h2
    · exact .inr ⟨e2, bless_trans _ _ _ h1 h2⟩
theorem lessPu_tri (a b : Pu) : lessPu a b = true ∨ (a.owner = b.owner ∧ a.denom = b.denom) ∨ lessPu b a = true := by
  unfold lessPu lessS
  simp only [Bool.or_eq_true, Bool.and_eq_true, decide_eq_true_eq]
  rcases bless_tri a.owner.toList b.owner.toList with h | h | h
  · exact .inl (.inl h)
  · have e := toList_inj h
    rcases bless_tri a.denom.toList b.denom.toList with h | h | h
    · exact .inl (.inr ⟨e, h⟩)
    · exact .inr (.inl ⟨e, toList_inj h⟩)
    · exact .inr (.inr (.inr ⟨e.symm, h⟩))
  · exact .inr (.inr (.inl h))
theorem less_ne {a b : Pu} (h : lessPu a b = true) : ¬ (a.owner = b.owner ∧ a.denom = b.denom) := fun e => by
  rw [lessPu_irr _ _ e.1 e.2] at h
  cases h
theorem less_not {a b : Pu} (h : lessPu a b = true) : lessPu b a = false := by
  cases hq : lessPu b a with
  | false => rfl
  | true => exact absurd ⟨rfl, rfl⟩ (less_ne (lessPu_trans h hq))
def SortU (l : List Pu) : Prop := l.Pairwise fun a b => lessPu a b = true
def isU (o d : ByteArray) (p : Pu) : Bool := decide (p.owner = o ∧ p.denom = d)
/-- how much somebody has -/
def amtU : List Pu → ByteArray → ByteArray → Nat
  | [], _, _ => 0
  | p :: l, o, d => (if isU o d p = true then p.amount else 0) + amtU l o d
/-- how much there is -/
def supU : List Pu → ByteArray → Nat
  | [], _ => 0
  | p :: l, d => (if p.denom = d then p.amount else 0) + supU l d
def aheadU (l : List Pu) (o d : ByteArray) : List Pu := l.filter fun p => lessPu p ⟨o, d, 0⟩
def behindU (l : List Pu) (o d : ByteArray) : List Pu := l.filter fun p => lessPu ⟨o, d, 0⟩ p
def oneU (o d : ByteArray) (n : Nat) : List Pu := if n = 0 then [] else [⟨o, d, n⟩]
def putU (l : List Pu) (o d : ByteArray) (n : Nat) : List Pu := aheadU l o d ++ (oneU o d n ++ behindU l o d)
theorem amtU_app : ∀ (a b : List Pu) (o d : ByteArray), amtU (a ++ b) o d = amtU a o d + amtU b o d
  | [], b, o, d => by simp [amtU]
  | p :: a, b, o, d => by simp only [List.cons_append, amtU, amtU_app a b]; omega
theorem supU_app : ∀ (a b : List Pu) (d : ByteArray), supU (a ++ b) d = supU a d + supU b d
  | [], b, d => by simp [supU]
  | p :: a, b, d => by simp only [List.cons_append, supU, supU_app a b]; omega
theorem amt_le_sup : ∀ (l : List Pu) (o d : ByteArray), amtU l o d ≤ supU l d
  | [], _, _ => Nat.le_refl _
  | p :: l, o, d => by
    have := amt_le_sup l o d
    simp only [amtU, supU, isU, decide_eq_true_eq]
    split
    · rename_i h; rw [if_pos h.2]; omega
    · split <;> omega
theorem amtU_none : ∀ (l : List Pu) (o d : ByteArray), (∀ p ∈ l, ¬ (p.owner = o ∧ p.denom = d)) → amtU l o d = 0
  | [], _, _, _ => rfl
  | p :: l, o, d, h => by
    have h1 := h p (.head _)
    simp only [amtU, isU, decide_eq_true_eq]
    rw [if_neg h1, amtU_none l o d fun q hq => h q (.tail _ hq)]
/-- a list that rises is what is less, what is there, and what is more -/
theorem split_same : ∀ (l : List Pu) (o d : ByteArray), SortU l → l = aheadU l o d ++ (l.filter (isU o d) ++ behindU l o d) ∧ ((l.filter (isU o d) = []) ∨ ∃ n, l.filter (isU o d) = [⟨o, d, n⟩] ∧ ⟨o, d, n⟩ ∈ l)
  | [], _, _, _ => ⟨rfl, .inl rfl⟩
  | p :: l, o, d, h => by
    obtain ⟨h1, h2⟩ := List.pairwise_cons.1 h
    obtain ⟨g1, g2⟩ := split_same l o d h2
    have hless : lessPu ⟨o, d, 0⟩ p = true → (∀ q ∈ l, lessPu ⟨o, d, 0⟩ q = true) := fun hp q hq => lessPu_trans hp (h1 q hq)
    rcases lessPu_tri p ⟨o, d, 0⟩ with hp | ⟨e1, e2⟩ | hp
    · have n1 : isU o d p = false := by unfold isU; rw [decide_eq_false_iff_not]; exact less_ne hp
      have n2 : lessPu ⟨o, d, 0⟩ p = false := less_not hp
      unfold aheadU behindU
      simp only [List.filter_cons, hp, n1, n2, if_true, Bool.false_eq_true, if_false]
      refine ⟨by rw [List.cons_append]; exact congrArg _ g1, ?_⟩
      rcases g2 with g2 | ⟨n, g2, g3⟩
      · exact .inl g2
      · exact .inr ⟨n, g2, .tail _ g3⟩
    · have n1 : isU o d p = true := by unfold isU; rw [decide_eq_true_eq]; exact ⟨e1, e2⟩
      have n2 : lessPu p ⟨o, d, 0⟩ = false := lessPu_irr _ _ e1 e2
      have n3 : lessPu ⟨o, d, 0⟩ p = false := lessPu_irr _ _ e1.symm e2.symm
      have hl : ∀ q ∈ l, lessPu ⟨o, d, 0⟩ q = true := fun q hq => by
        have := h1 q hq
        unfold lessPu at *
        simp only at e1 e2 ⊢
        rw [← e1, ← e2]
        exact this
      have e3 : l.filter (fun q => lessPu q ⟨o, d, 0⟩) = [] := List.filter_eq_nil_iff.2 fun q hq hh => by
        have := lessPu_trans (hl q hq) hh
        rw [lessPu_irr _ _ rfl rfl] at this
        cases this
      have e4 : l.filter (isU o d) = [] := List.filter_eq_nil_iff.2 fun q hq hh => by
        unfold isU at hh
        rw [decide_eq_true_eq] at hh
        have := hl q hq
        rw [lessPu_irr _ _ hh.1.symm hh.2.symm] at this
        cases this
      have e5 : l.filter (fun q => lessPu ⟨o, d, 0⟩ q) = l := List.filter_eq_self.2 hl
      unfold aheadU behindU
      simp only [List.filter_cons, n1, n2, n3, if_true, Bool.false_eq_true, if_false]
      rw [e3, e4, e5]
      obtain ⟨po, pd, pn⟩ := p
      obtain rfl : po = o := e1
      obtain rfl : pd = d := e2
      exact ⟨rfl, .inr ⟨pn, rfl, .head _⟩⟩
    · have hl := hless hp
      have e3 : (p :: l).filter (fun q => lessPu q ⟨o, d, 0⟩) = [] := List.filter_eq_nil_iff.2 fun q hq hh => by
        have : lessPu ⟨o, d, 0⟩ q = true := by
          rcases List.mem_cons.1 hq with rfl | hq
          · exact hp
          · exact hl q hq
        have := lessPu_trans this hh
        rw [lessPu_irr _ _ rfl rfl] at this
        cases this
      have e4 : (p :: l).filter (isU o d) = [] := List.filter_eq_nil_iff.2 fun q hq hh => by
        have hq' : lessPu ⟨o, d, 0⟩ q = true := by
          rcases List.mem_cons.1 hq with rfl | hq
          · exact hp
          · exact hl q hq
        unfold isU at hh
        rw [decide_eq_true_eq] at hh
        rw [lessPu_irr _ _ hh.1.symm hh.2.symm] at hq'
        cases hq'
      have e5 : (p :: l).filter (fun q => lessPu ⟨o, d, 0⟩ q) = p :: l := List.filter_eq_self.2 fun q hq => by
        rcases List.mem_cons.1 hq with rfl | hq
        · exact hp
        · exact hl q hq
      unfold aheadU behindU
      rw [e3, e4, e5]
      exact ⟨rfl, .inl rfl⟩
theorem amt_ahead (l : List Pu) (o d : ByteArray) : amtU (aheadU l o d) o d = 0 := amtU_none _ _ _ fun p hp hh => by
  have := (List.mem_filter.1 hp).2
  rw [lessPu_irr _ _ hh.1 hh.2] at this
  cases this
theorem amt_behind (l : List Pu) (o d : ByteArray) : amtU (behindU l o d) o d = 0 := amtU_none _ _ _ fun p hp hh => by
  have := (List.mem_filter.1 hp).2
  rw [lessPu_irr _ _ hh.1.symm hh.2.symm] at this
  cases this
theorem amt_same {l : List Pu} (h : SortU l) (o d : ByteArray) : amtU l o d = amtU (l.filter (isU o d)) o d := by
  have e := congrArg (fun x => amtU x o d) (split_same l o d h).1
  simp only [amtU_app, amt_ahead, amt_behind] at e
  omega
theorem amt_one (o d : ByteArray) (n : Nat) (o' d' : ByteArray) : amtU (oneU o d n) o' d' = if o' = o ∧ d' = d then n else 0 := by
  unfold oneU
  split
  · rename_i h; subst h; simp [amtU]
  · simp only [amtU, isU, decide_eq_true_eq, Nat.add_zero]
    split
    · rename_i h; rw [if_pos ⟨h.1.symm, h.2.symm⟩]
    · rename_i h; rw [if_neg fun e => h ⟨e.1.symm, e.2.symm⟩]
theorem amt_put {l : List Pu} (h : SortU l) (o d : ByteArray) (n : Nat) (o' d' : ByteArray) : amtU (putU l o d n) o' d' = if o' = o ∧ d' = d then n else amtU l o' d' := by
  unfold putU
  rw [amtU_app, amtU_app, amt_one]
  split
  · rename_i e
    obtain ⟨rfl, rfl⟩ := e
    rw [amt_ahead, amt_behind]
    omega
  · rename_i e
    have hs := congrArg (fun x => amtU x o' d') (split_same l o d h).1
    simp only [amtU_app] at hs
    rw [hs, amtU_none (l.filter (isU o d)) o' d' fun p hp hh => ?_]
    have := (List.mem_filter.1 hp).2
    unfold isU at this
    rw [decide_eq_true_eq] at this
    exact e ⟨hh.1.symm.trans this.1, hh.2.symm.trans this.2⟩
theorem sup_put {l : List Pu} (h : SortU l) (o d : ByteArray) (n : Nat) (d' : ByteArray) : supU (putU l o d n) d' + (if d' = d then amtU l o d else 0) = supU l d' + (if d' = d then n else 0) := by
  obtain ⟨hs, hm⟩ := split_same l o d h
  have e1 := congrArg (fun x => supU x d') hs
  have e2 := amt_same h o d
  simp only [supU_app] at e1
  unfold putU
  rw [supU_app, supU_app, e1]
  have e3 : supU (oneU o d n) d' = if d' = d then n else 0 := by
    unfold oneU
    split
    · rename_i h; subst h; simp [supU]
    · simp only [supU, Nat.add_zero]
      split
      · rename_i h; rw [if_pos h.symm]
      · rename_i h; rw [if_neg fun e => h e.symm]
  have e4 : supU (l.filter (isU o d)) d' = if d' = d then amtU l o d else 0 := by
    rw [e2]
    rcases hm with hm | ⟨k, hm, -⟩
    · rw [hm]; simp [supU, amtU]
    · rw [hm]
      simp only [supU, amtU, isU, Nat.add_zero]
      by_cases e : d' = d
      · subst e; simp
      · rw [if_neg fun x => e x.symm, if_neg e]
  rw [e3, e4]
  omega
theorem len_put {l : List Pu} (h : SortU l) (ha : ∀ p ∈ l, 0 < p.amount) (o d : ByteArray) (n : Nat) : (putU l o d n).length + (if amtU l o d = 0 then 0 else 1) = l.length + (if n = 0 then 0 else 1) := by
  obtain ⟨hs, hm⟩ := split_same l o d h
  have e1 := congrArg List.length hs
  have e2 := amt_same h o d
  simp only [List.length_append] at e1
  unfold putU oneU
  rw [List.length_append, List.length_append, e1]
  have e4 : (l.filter (isU o d)).length = if amtU l o d = 0 then 0 else 1 := by
    rw [e2]
    rcases hm with hm | ⟨k, hm, hk⟩
    · rw [hm]; simp [amtU]
    · rw [hm]
      have := ha _ hk
      simp only [amtU, isU, Nat.add_zero]
      simp at this ⊢
      omega
  have e5 : (if n = 0 then [] else [(⟨o, d, n⟩ : Pu)]).length = if n = 0 then 0 else 1 := by split <;> rfl
  rw [e4, e5]
  omega
theorem sort_put {l : List Pu} (h : SortU l) (o d : ByteArray) (n : Nat) : SortU (putU l o d n) := by
  unfold putU SortU
  have hb : ∀ p ∈ behindU l o d, lessPu ⟨o, d, n⟩ p = true := fun p hp => (List.mem_filter.1 hp).2
  have ha : ∀ p ∈ aheadU l o d, lessPu p ⟨o, d, n⟩ = true := fun p hp => (List.mem_filter.1 hp).2
  refine List.pairwise_append.2 ⟨h.sublist List.filter_sublist, List.pairwise_append.2 ⟨?_, h.sublist List.filter_sublist, ?_⟩, ?_⟩
  · unfold oneU; split
    · exact List.Pairwise.nil
    · exact List.pairwise_singleton _ _
  · intro a hx b hy
    unfold oneU at hx
    split at hx
    · cases hx
    · obtain rfl := List.mem_singleton.1 hx
      exact hb b hy
  · intro a hx b hy
    rcases List.mem_append.1 hy with hy | hy
    · unfold oneU at hy
      split at hy
      · cases hy
      · obtain rfl := List.mem_singleton.1 hy
        exact ha a hx
    · exact lessPu_trans (ha a hx) (hb b hy)
/-- purses that may be -/
structure RightU (l : List Pu) : Prop where
  sort : SortU l
  ok : ∀ p ∈ l, wordB p.owner = true ∧ wordB p.denom = true ∧ 0 < p.amount ∧ p.amount < 18446744073709551616
theorem RightU.nil : RightU [] := ⟨List.Pairwise.nil, fun _ h => (by cases h)⟩
theorem RightU.put {l : List Pu} (h : RightU l) {o d : ByteArray} {n : Nat} (ho : wordB o = true) (hd : wordB d = true) (hn : n < 18446744073709551616) : RightU (putU l o d n) := by
  refine ⟨sort_put h.sort _ _ _, fun p hp => ?_⟩
  unfold putU at hp
  rcases List.mem_append.1 hp with hp | hp
  · exact h.ok p (List.mem_filter.1 hp).1
  rcases List.mem_append.1 hp with hp | hp
  · unfold oneU at hp
    split at hp
    · cases hp
    · obtain rfl := List.mem_singleton.1 hp
      exact ⟨ho, hd, by rename_i h0; show 0 < n; omega, hn⟩
  · exact h.ok p (List.mem_filter.1 hp).1
theorem amt_bound {l : List Pu} (h : RightU l) (o d : ByteArray) : amtU l o d < 18446744073709551616 := by
  rw [amt_same h.sort]
  rcases (split_same l o d h.sort).2 with hm | ⟨k, hm, hk⟩
  · rw [hm]; simp [amtU]
  · rw [hm]
    have := (h.ok _ hk).2.2.2
    simp [amtU, isU]
    simpa using this
theorem wrongPu_ok {p : Pu} : wrongPu p = 0 ↔ wordB p.owner = true ∧ wordB p.denom = true ∧ 0 < p.amount := by
  unfold wrongPu
  by_cases h : (wordB p.owner && wordB p.denom) = false
  · rw [if_pos h]
    constructor
    · intro h; cases h
    · rintro ⟨h1, h2, -⟩; rw [h1, h2] at h; cases h
  · rw [if_neg h]
    have h' : wordB p.owner = true ∧ wordB p.denom = true := by simpa using h
    split
    · rename_i h0
      constructor
      · intro h; cases h
      · rintro ⟨-, -, h2⟩; omega
    · rename_i h0
      exact ⟨fun _ => ⟨h'.1, h'.2, by omega⟩, fun _ => rfl⟩
theorem upGo_mk {α : Type} {f : α → Int} {lt : α → α → Bool} : ∀ (l : List α) (p : Option α), (∀ x ∈ l, f x = 0) → (∀ a, p = some a → ∀ x ∈ l, lt a x = true) → l.Pairwise (fun a b => lt a b = true) → upGo f lt p l = 0
  | [], _, _, _, _ => rfl
  | x :: l, p, h1, h2, h3 => by
    obtain ⟨g1, g2⟩ := List.pairwise_cons.1 h3
    rw [upGo, if_neg (by simp [h1 x (.head _)]), if_neg ?_]
    · exact upGo_mk l (some x) (fun y hy => h1 y (.tail _ hy)) (fun a ha y hy => by obtain rfl := Option.some.inj ha; exact g1 y hy) g2
    · cases p with
      | none => simp [aheadOk]
      | some a => simp [aheadOk, h2 a rfl x (.head _)]
def rightB (l : List Pu) : Bool := decide (l.length ≤ 60) && decide (pursesN l = 0)
theorem rightB_iff {l : List Pu} (hf : ∀ p ∈ l, p.amount < 18446744073709551616) : rightB l = true ↔ l.length ≤ 60 ∧ RightU l := by
  unfold rightB
  rw [Bool.and_eq_true, decide_eq_true_eq, decide_eq_true_eq]
  refine and_congr Iff.rfl ?_
  constructor
  · intro h
    obtain ⟨h1, -, h3⟩ := upGo_ok (f := wrongPu) (lt := lessPu) (fun _ _ _ h1 h2 => lessPu_trans h1 h2) l none h
    exact ⟨h3, fun p hp => by obtain ⟨a, b, c⟩ := wrongPu_ok.1 (h1 p hp); exact ⟨a, b, c, hf p hp⟩⟩
  · intro h
    exact upGo_mk l none (fun p hp => by obtain ⟨a, b, c, -⟩ := h.ok p hp; exact wrongPu_ok.2 ⟨a, b, c⟩) (fun _ h => (by cases h)) h.sort
def mintE (l : List Pu) (o d : ByteArray) (n : Nat) : Int := if (wordB o && wordB d) = false then 4 else if n = 0 then 0 else if 18446744073709551616 ≤ supU l d + n then 3 else if 60 ≤ l.length ∧ amtU l o d = 0 then 5 else 0
def mintL (l : List Pu) (o d : ByteArray) (n : Nat) : List Pu := if mintE l o d n ≠ 0 then [] else if n = 0 then l else putU l o d (amtU l o d + n)
def burnE (l : List Pu) (o d : ByteArray) (n : Nat) : Int := if (wordB o && wordB d) = false then 4 else if amtU l o d < n then 8 else 0
def burnL (l : List Pu) (o d : ByteArray) (n : Nat) : List Pu := if burnE l o d n ≠ 0 then [] else putU l o d (amtU l o d - n)
def moveE (l : List Pu) (a b d : ByteArray) (n : Nat) : Int := if burnE l a d n ≠ 0 then burnE l a d n else mintE (burnL l a d n) b d n
def moveL (l : List Pu) (a b d : ByteArray) (n : Nat) : List Pu := if burnE l a d n ≠ 0 then [] else mintL (burnL l a d n) b d n
structure Minted (l : List Pu) (o d : ByteArray) (n : Nat) (m : List Pu) : Prop where
  right : RightU m
  amt : ∀ o' d', amtU m o' d' = amtU l o' d' + if o' = o ∧ d' = d then n else 0
  sup : ∀ d', supU m d' = supU l d' + if d' = d then n else 0
  len : m.length ≤ 60
theorem mint_ok {l : List Pu} (h : RightU l) (hl : l.length ≤ 60) {o d : ByteArray} {n : Nat} (hn : n < 18446744073709551616) (he : mintE l o d n = 0) : Minted l o d n (mintL l o d n) ∧ (0 < n → supU l d + n < 18446744073709551616) := by
  unfold mintL
  rw [if_neg (by simp [he])]
  unfold mintE at he
  by_cases hw : (wordB o && wordB d) = false
  · rw [if_pos hw] at he; cases he
  rw [if_neg hw] at he
  have hw' : wordB o = true ∧ wordB d = true := by simpa using hw
  by_cases h0 : n = 0
  · subst h0
    rw [if_pos rfl]
    exact ⟨⟨h, fun _ _ => by simp, fun _ => by simp, hl⟩, fun h => by omega⟩
  rw [if_neg h0] at he ⊢
  by_cases h1 : 18446744073709551616 ≤ supU l d + n
  · rw [if_pos h1] at he; cases he
  rw [if_neg h1] at he
  have ha := amt_le_sup l o d
  refine ⟨⟨h.put hw'.1 hw'.2 (by omega), fun o' d' => ?_, fun d' => ?_, ?_⟩, fun _ => by omega⟩
  · rw [amt_put h.sort]
    split
    · rename_i e; obtain ⟨rfl, rfl⟩ := e; rfl
    · rfl
  · have := sup_put h.sort o d (amtU l o d + n) d'
    split at this
    · rename_i e; subst e; rw [if_pos rfl]; omega
    · rename_i e; rw [if_neg e]; omega
  · have := len_put h.sort (fun p hp => (h.ok p hp).2.2.1) o d (amtU l o d + n)
    rw [if_neg (by omega : ¬ amtU l o d + n = 0)] at this
    by_cases h2 : 60 ≤ l.length ∧ amtU l o d = 0
    · rw [if_pos h2] at he; cases he
    · by_cases h3 : amtU l o d = 0
      · rw [if_pos h3] at this
        have : ¬ 60 ≤ l.length := fun h => h2 ⟨h, h3⟩
        omega
      · rw [if_neg h3] at this; omega
structure Burnt (l : List Pu) (o d : ByteArray) (n : Nat) (m : List Pu) : Prop where
  has : n ≤ amtU l o d
  right : RightU m
  amt : ∀ o' d', amtU m o' d' = amtU l o' d' - if o' = o ∧ d' = d then n else 0
  sup : ∀ d', supU m d' = supU l d' - if d' = d then n else 0
  len : m.length ≤ l.length
theorem burn_ok {l : List Pu} (h : RightU l) {o d : ByteArray} {n : Nat} (he : burnE l o d n = 0) : Burnt l o d n (burnL l o d n) := by
  unfold burnL
  rw [if_neg (by simp [he])]
  unfold burnE at he
  by_cases hw : (wordB o && wordB d) = false
  · rw [if_pos hw] at he; cases he
  rw [if_neg hw] at he
  have hw' : wordB o = true ∧ wordB d = true := by simpa using hw
  by_cases h1 : amtU l o d < n
  · rw [if_pos h1] at he; cases he
  have hb := amt_bound h o d
  have hs := amt_le_sup l o d
  refine ⟨by omega, h.put hw'.1 hw'.2 (by omega), fun o' d' => ?_, fun d' => ?_, ?_⟩
  · rw [amt_put h.sort]
    split
    · rename_i e; obtain ⟨rfl, rfl⟩ := e; rfl
    · rfl
  · have := sup_put h.sort o d (amtU l o d - n) d'
    split at this
    · rename_i e; subst e; rw [if_pos rfl]; omega
    · rename_i e; rw [if_neg e]; omega
  · have := len_put h.sort (fun p hp => (h.ok p hp).2.2.1) o d (amtU l o d - n)
    split at this <;> split at this <;> omega
structure Moved (l : List Pu) (a b d : ByteArray) (n : Nat) (m : List Pu) : Prop where
  has : n ≤ amtU l a d
  right : RightU m
  amt : ∀ o' d', (amtU m o' d' : Int) = amtU l o' d' - (if o' = a ∧ d' = d then (n : Int) else 0) + (if o' = b ∧ d' = d then (n : Int) else 0)
  sup : ∀ d', supU m d' = supU l d'
  len : m.length ≤ 60
theorem move_ok {l : List Pu} (h : RightU l) (hl : l.length ≤ 60) {a b d : ByteArray} {n : Nat} (hn : n < 18446744073709551616) (he : moveE l a b d n = 0) : Moved l a b d n (moveL l a b d n) := by
  unfold moveE at he
  unfold moveL
  by_cases h1 : burnE l a d n = 0
  · rw [if_neg (by simp [h1])] at he ⊢
    have B := burn_ok h h1
    obtain ⟨M, -⟩ := mint_ok B.right (by have := B.len; omega) hn he
    have hh := B.has
    refine ⟨B.has, M.right, fun o' d' => ?_, fun d' => ?_, M.len⟩
    · rw [M.amt, B.amt]
      by_cases e1 : o' = a ∧ d' = d
      · have : amtU l o' d' = amtU l a d := by rw [e1.1, e1.2]
        simp only [if_pos e1]
        split <;> omega
      · rw [if_neg e1, if_neg e1]
        split <;> omega
    · rw [M.sup, B.sup]
      have := amt_le_sup l a d
      split
      · rename_i e; subst e; omega
      · omega
  · rw [if_pos h1] at he; exact absurd he h1
end Go.Proofs.YtbjlfhabnjpdmaaGreatDoor
