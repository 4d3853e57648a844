/-
  A region that draws its order: operations that make memory, a call behind them all that changes memory, an address that may come at any time, and a store of the call's answer last.
-/
import Derived.Test.YtclhcjiblfokaaaGreatDoorppRegWant
namespace Go.Proofs.YtclhcjiblfokaaaGreatDoor
open Go.RowKit

/-- two blocks alone were turned -/
structure Two (a b : Nat) (w W : World) : Prop where
  below : Below 0 w W
  same : ∀ k, k ≠ a → k ≠ b → W.heap[k]? = w.heap[k]?
  size : W.heap.size = w.heap.size
theorem Two.drew (a b : Nat) (w : World) : Two a b w w.drew := ⟨(Below.refl _ _).drew, fun _ _ _ => rfl, rfl⟩
theorem Two.row {a b g : Nat} {w W : World} (h : Two a b w W) (cs : Array Value) (hg : g = a ∨ g = b) : Two a b w (W.setRow g cs) :=
  ⟨h.below.trans ⟨rfl, rfl, rfl, by simp [World.setRow], fun k hk => absurd hk (Nat.not_lt_zero _)⟩, fun k h1 h2 => (setRow_other _ _ _ _ (by omega)).trans (h.same k h1 h2), (by simp [World.setRow] : (W.setRow g cs).heap.size = W.heap.size).trans h.size⟩
/-- what a call that changes memory leaves, what an address, what the store last -/
def LeftV (fr : (Nat → Value) → Array Value) (PC : Value → World → Prop) (i : Nat) (σ : Nat → Value) (a' : Act) (w' : World) : Prop := ∃ v, a' = ⟨fr (updF σ i v), []⟩ ∧ PC v w'
def LeftU (fr : (Nat → Value) → Array Value) (u : Value) (W : World) (i : Nat) (σ : Nat → Value) (a' : Act) (w' : World) : Prop := a' = ⟨fr (updF σ i u), []⟩ ∧ w' = W
def LeftE (fr : (Nat → Value) → Array Value) (PE : World → Prop) (i : Nat) (σ : Nat → Value) (a' : Act) (w' : World) : Prop := ∃ v, a' = ⟨fr (updF σ i v), []⟩ ∧ PE w'
def asksFor (l : List Oper) (j i : Nat) : Bool := match l[j]? with
  | some o => o.after.toList.any fun d => Region.binds .any d && d.on == i
  | none => false
def tailW (l : List Oper) (n : Nat) : Bool := decide (l.length = n + 3) && (aheadOps 0 l && ((List.range n).all (fun i => (List.range (n + 1)).any fun j => decide (i < j) && asksFor l j i) && (asksFor l (n + 2) n && asksFor l (n + 2) (n + 1))))
/-- what has come up has what it waited for -/
def ClosedW (l : List Oper) (s : Array Bool) : Prop := ∀ i o, l[i]? = some o → s.getD i false = true → ∀ d ∈ o.after, Region.binds .any d = true → s.getD d.on false = true
theorem asksFor_get {l : List Oper} {j i : Nat} (h : asksFor l j i = true) : ∃ o d, l[j]? = some o ∧ d ∈ o.after ∧ Region.binds .any d = true ∧ d.on = i := by
  unfold asksFor at h
  split at h
  · rename_i o ho
    obtain ⟨d, hd, h2⟩ := List.any_eq_true.1 h
    rw [Bool.and_eq_true, beq_iff_eq] at h2
    exact ⟨o, d, ho, Array.mem_toList_iff.1 hd, h2.1, h2.2⟩
  · cases h
theorem ClosedW.ask {l : List Oper} {s : Array Bool} (h : ClosedW l s) {j i : Nat} (ha : asksFor l j i = true) (hj : s.getD j false = true) : s.getD i false = true := by
  obtain ⟨o, d, ho, hd, hb, e⟩ := asksFor_get ha
  rw [← e]
  exact h j o ho hj d hd hb
theorem ClosedW.set {l : List Oper} {s : Array Bool} (h : ClosedW l s) {i : Nat} {o : Oper} (ho : l[i]? = some o) (hd : ∀ d ∈ o.after, Region.binds .any d = true → s.getD d.on false = true) : ClosedW l (s.setIfInBounds i true) := by
  have up : ∀ k, s.getD k false = true → (s.setIfInBounds i true).getD k false = true := fun k hk => by
    by_cases e : k = i
    · subst e
      have : k < s.size := by
        rcases Nat.lt_or_ge k s.size with h | h
        · exact h
        · simp [Array.getD, Nat.not_lt.2 h] at hk
      simp [Array.getD, this]
    · rw [getD_set_ne false (Ne.symm e)]
      exact hk
  intro j p hj hs d hd' hb
  by_cases e : j = i
  · subst e
    obtain rfl : o = p := by rw [ho] at hj; exact Option.some.inj hj
    exact up _ (hd d hd' hb)
  · rw [getD_set_ne false (Ne.symm e)] at hs
    exact up _ (h j p hj hs d hd' hb)
theorem region_write {P : Program} {id : Nat} {Q : Exit → Act → World → Prop} {w : World} {l : List Oper} {a0 : Act} (n : Nat) (hm : P.follows .mixedOrders = true) (fr : (Nat → Value) → Array Value) (σ0 : Nat → Value) (h0 : a0 = ⟨fr σ0, []⟩) (u : Value)
    (G : Nat → Value → World → Prop) (hstab : ∀ i v w w', Below w.heap.size w w' → G i v w → G i v w') (PC PE : Value → World → Prop) (hB : tailW l n = true)
    (hstep : Stepwise P l.toArray Q fr G (fun a b => Below a.heap.size a b) (fun a => Below w.heap.size w a) 0 (l.take n))
    (hc : ∀ (σ : Nat → Value) (W : World), Below w.heap.size w W → (∀ i, i < n → G i (σ i) W) → wpOp P l.toArray Q n (LeftV fr PC n σ) ⟨fr σ, []⟩ W)
    (hq : ∀ (σ : Nat → Value) (W : World), wpOp P l.toArray Q (n + 1) (LeftU fr u W (n + 1) σ) ⟨fr σ, []⟩ W)
    (he : ∀ (σ : Nat → Value) (W : World), σ (n + 1) = u → PC (σ n) W → wpOp P l.toArray Q (n + 2) (LeftE fr (PE (σ n)) (n + 2) σ) ⟨fr σ, []⟩ W)
    (hend : ∀ (σ : Nat → Value) (W : World), PE (σ n) W → σ (n + 1) = u → Q .normal ⟨fr σ, []⟩ W) : (Code.region id l.toArray true).wp P Q a0 w := by
  subst h0
  simp only [tailW, Bool.and_eq_true, decide_eq_true_eq] at hB
  obtain ⟨hln, hah, hch, hen, heq⟩ := hB
  have chain : ∀ s : Array Bool, ClosedW l s → (∀ i, asksFor l n i = true → s.getD i false = true) → ∀ m i, n - i ≤ m → i < n → s.getD i false = true := by
    intro s hs hn m
    induction m with
    | zero => intro i h1 h2; omega
    | succ m ih =>
      intro i h1 h2
      have := List.all_eq_true.1 hch i (List.mem_range.2 h2)
      obtain ⟨j, hj, h3⟩ := List.any_eq_true.1 this
      rw [Bool.and_eq_true, decide_eq_true_eq] at h3
      have hjn := List.mem_range.1 hj
      by_cases e : j = n
      · subst e
        exact hn i h3.2
      · exact hs.ask h3.2 (ih j (by omega) (by omega))
  refine region_inv hm (fun s a W => ∃ σ, s.size = l.length ∧ a = ⟨fr σ, []⟩ ∧ ClosedW l s ∧ (s.getD (n + 1) false = true → σ (n + 1) = u) ∧ (s.getD n false = false → Below w.heap.size w W ∧ ∀ i, i < n → s.getD i false = true → G i (σ i) W) ∧ (s.getD n false = true → s.getD (n + 2) false = false → PC (σ n) W) ∧ (s.getD (n + 2) false = true → PE (σ n) W)) ?_ ?_ ?_
  · refine ⟨σ0, by simp, rfl, fun i o _ hi => ?_, fun hi => ?_, fun _ => ⟨(Below.refl _ _).drew, fun i _ hi => ?_⟩, fun hi => ?_, fun hi => ?_⟩ <;> (rw [getD_replicate_false] at hi; cases hi)
  · rintro s a W ⟨σ, hs, rfl, hcl, hu, h1, h2, h3⟩ i hi
    obtain ⟨hun, o, ho, hdep⟩ := mem_ready.1 hi
    have ho' : l[i]? = some o := by simpa using ho
    have hil : i < l.length := (List.getElem?_eq_some_iff.1 ho').1
    have hif : s.getD i false = false := getD_both hun
    have hcl' := hcl.set ho' hdep
    have ne : ∀ k, k ≠ i → (s.setIfInBounds i true).getD k false = s.getD k false := fun k hk => getD_set_ne false (Ne.symm hk)
    have un : ∀ k v, k ≠ i → updF σ i v k = σ k := fun k v hk => by simp [updF, hk]
    have hself : (s.setIfInBounds i true).getD i false = true := by simp [Array.getD, show i < s.size by omega]
    have e2n : s.getD (n + 2) false = true → s.getD n false = true := fun h => hcl.ask hen h
    rcases Nat.lt_trichotomy i n with hlt | rfl | hgt
    · have hnf : s.getD n false = false := by
        cases hb : s.getD n false with
        | false => rfl
        | true =>
          have := chain s hcl (fun k hk => hcl.ask hk hb) n i (by omega) hlt
          rw [hif] at this
          cases this
      obtain ⟨hj, hg⟩ := h1 hnf
      have hah' := aheadOps_get l 0 i o hah ho'
      have hst := Stepwise.get (l.take n) 0 i o hstep (by rw [List.getElem?_take, if_pos hlt]; exact ho') σ W hj (fun d hd hb => hg _ (by have := hah' d hd hb; omega) (hdep d hd hb))
      rw [Nat.zero_add] at hst
      refine wpOp_mono ?_ hst
      rintro a2 w2 ⟨v, rfl, hr, hj2, hgv⟩
      refine ⟨updF σ i v, by simpa using hs, rfl, hcl', fun h => ?_, fun _ => ⟨hj2, fun j hjn hjt => ?_⟩, fun h => ?_, fun h => ?_⟩
      · rw [un _ _ (by omega)]
        rw [ne _ (by omega)] at h
        exact hu h
      · by_cases e : j = i
        · subst e
          simpa [updF] using hgv
        · rw [un _ _ e]
          rw [ne _ e] at hjt
          exact hstab j _ W w2 hr (hg j hjn hjt)
      · rw [ne _ (by omega), hnf] at h
        cases h
      · rw [ne _ (by omega)] at h
        have := e2n h
        rw [hnf] at this
        cases this
    · obtain ⟨hj, hg⟩ := h1 hif
      have hall : ∀ k, k < i → s.getD k false = true := fun k hk => chain s hcl (fun k hk => by
        obtain ⟨o', d, ho2, hd, hb, e⟩ := asksFor_get hk
        obtain rfl : o = o' := by rw [ho'] at ho2; exact Option.some.inj ho2
        rw [← e]
        exact hdep d hd hb) i k (by omega) hk
      refine wpOp_mono ?_ (hc σ W hj fun k hk => hg k hk (hall k hk))
      rintro a2 w2 ⟨v, rfl, hpc⟩
      refine ⟨updF σ i v, by simpa using hs, rfl, hcl', fun h => ?_, fun h => ?_, fun _ _ => ?_, fun h => ?_⟩
      · rw [un _ _ (by omega)]
        rw [ne _ (by omega)] at h
        exact hu h
      · rw [hself] at h
        cases h
      · simpa [updF] using hpc
      · rw [ne _ (by omega)] at h
        have := e2n h
        rw [hif] at this
        cases this
    · by_cases e1 : i = n + 1
      · subst e1
        refine wpOp_mono ?_ (hq σ W)
        rintro a2 w2 ⟨rfl, rfl⟩
        refine ⟨updF σ (n + 1) u, by simpa using hs, rfl, hcl', fun _ => by simp [updF], fun h => ?_, fun h h' => ?_, fun h => ?_⟩
        · rw [ne _ (by omega)] at h
          obtain ⟨hj, hg⟩ := h1 h
          refine ⟨hj, fun j hjn hjt => ?_⟩
          rw [un _ _ (by omega)]
          rw [ne _ (by omega)] at hjt
          exact hg j hjn hjt
        · rw [ne _ (by omega)] at h h'
          rw [un _ _ (by omega)]
          exact h2 h h'
        · rw [ne _ (by omega)] at h
          rw [un _ _ (by omega)]
          exact h3 h
      · obtain rfl : i = n + 2 := by omega
        have hq1 : ∀ k, asksFor l (n + 2) k = true → s.getD k false = true := fun k hk => by
          obtain ⟨o', d, ho2, hd, hb, e⟩ := asksFor_get hk
          obtain rfl : o = o' := by rw [ho'] at ho2; exact Option.some.inj ho2
          rw [← e]
          exact hdep d hd hb
        have hn1 := hq1 _ hen
        refine wpOp_mono ?_ (he σ W (hu (hq1 _ heq)) (h2 hn1 hif))
        rintro a2 w2 ⟨v, rfl, hpe⟩
        refine ⟨updF σ (n + 2) v, by simpa using hs, rfl, hcl', fun _ => ?_, fun h => ?_, fun _ h => ?_, fun _ => ?_⟩
        · rw [un _ _ (by omega)]
          exact hu (hq1 _ heq)
        · rw [ne _ (by omega), hn1] at h
          cases h
        · rw [hself] at h
          cases h
        · rw [un _ _ (by omega)]
          exact hpe
  · rintro s a W ⟨σ, hs, rfl, hcl, hu, h1, h2, h3⟩ hr
    have all : ∀ n i, i < n → i < l.length → s.getD i false = true := by
      intro n
      induction n with
      | zero => intro i h; omega
      | succ n ih =>
        intro i hin hil
        cases hb : s.getD i false with
        | true => rfl
        | false =>
          exfalso
          have ho : l[i]? = some l[i] := List.getElem?_eq_getElem hil
          have hah' := aheadOps_get l 0 i _ hah ho
          have : i ∈ Region.ready .any l.toArray s := mem_ready.2 ⟨getD_in (by rw [hs]; exact hil) hb, l[i], by simp, fun e he hbd => ih _ (by have := hah' e he hbd; omega) (by have := hah' e he hbd; omega)⟩
          rw [hr] at this
          cases this
    exact hend σ W (h3 (all (n + 3) (n + 2) (by omega) (by omega))) (hu (all (n + 2) (n + 1) (by omega) (by omega)))
end Go.Proofs.YtclhcjiblfokaaaGreatDoor
