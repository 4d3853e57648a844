/-
  A region that draws its order, operation by operation in the text's order: what is known of each value is found as it comes; the frame is put together by itself.
-/
import Derived.Test.YtbjlfhabnjpdmaaGreatDoorlaRegions
namespace Go.Proofs.YtbjlfhabnjpdmaaGreatDoor
open Go.RowKit

abbrev Fact := Value → World → Prop
/-- the frame once all have come up -/
def slotAll : Array Value → List Oper → Nat → (Nat → Value) → Array Value
  | t, [], _, _ => t
  | t, o :: l, k, σ => slotAll (match o.dst with | some d => t.setIfInBounds d (σ k) | none => t) l (k + 1) σ
def apartD : List Oper → Bool
  | [] => true
  | o :: l => (match o.dst with | some d => l.all (fun p => p.dst != some d) | none => true) && apartD l
theorem slotAll_congr : ∀ (l : List Oper) (t : Array Value) (k : Nat) (σ τ : Nat → Value), (∀ j, k ≤ j → σ j = τ j) → slotAll t l k σ = slotAll t l k τ
  | [], _, _, _, _, _ => rfl
  | o :: l, t, k, σ, τ, h => by
    unfold slotAll
    rw [h k (Nat.le_refl _)]
    exact slotAll_congr l _ (k + 1) σ τ fun j hj => h j (by omega)
theorem slotAll_comm {d : Nat} {v : Value} : ∀ (l : List Oper) (t : Array Value) (k : Nat) (σ : Nat → Value), l.all (fun p => p.dst != some d) = true → (slotAll t l k σ).setIfInBounds d v = slotAll (t.setIfInBounds d v) l k σ
  | [], _, _, _, _ => rfl
  | o :: l, t, k, σ, h => by
    rw [List.all_cons, Bool.and_eq_true] at h
    unfold slotAll
    rw [slotAll_comm l _ _ _ h.2]
    cases ho : o.dst with
    | none => rfl
    | some e =>
      have hne : e ≠ d := fun e' => by subst e'; simp [ho] at h
      simp only
      rw [Array.setIfInBounds_comm _ _ hne]
theorem slotAll_put : ∀ (l : List Oper) (t : Array Value) (k i : Nat) (o : Oper) (σ : Nat → Value) (v : Value), apartD l = true → l[i]? = some o → (Act.put ⟨slotAll t l k σ, []⟩ o.dst v) = ⟨slotAll t l k (updF σ (k + i) v), []⟩
  | [], _, _, _, _, _, _, _, h => by simp at h
  | p :: l, t, k, i, o, σ, v, ha, h => by
    unfold apartD at ha
    rw [Bool.and_eq_true] at ha
    cases i with
    | zero =>
      obtain rfl : p = o := by simpa using h
      unfold slotAll
      have e1 : ∀ t', slotAll t' l (k + 1) (updF σ (k + 0) v) = slotAll t' l (k + 1) σ := fun t' => slotAll_congr l t' (k + 1) _ _ fun j hj => by unfold updF; rw [if_neg (by omega)]
      rw [e1]
      cases hp : p.dst with
      | none => rfl
      | some d =>
        rw [hp] at ha
        simp only [Act.put]
        rw [slotAll_comm l _ _ _ ha.1, Array.setIfInBounds_setIfInBounds]
        simp [updF]
    | succ i =>
      have := slotAll_put l (match p.dst with | some d => t.setIfInBounds d (σ k) | none => t) (k + 1) i o σ v ha.2 (by simpa using h)
      unfold slotAll
      rw [this, show k + 1 + i = k + (i + 1) by omega]
      have e2 : updF σ (k + (i + 1)) v k = σ k := by unfold updF; rw [if_neg (by omega)]
      rw [e2]
theorem slotAll_start : ∀ (l : List Oper) (t : Array Value) (k : Nat) (σ : Nat → Value), (∀ j o d, l[j]? = some o → o.dst = some d → σ (k + j) = t.getD d undef) → slotAll t l k σ = t
  | [], _, _, _, _ => rfl
  | o :: l, t, k, σ, h => by
    have e : (match o.dst with | some d => t.setIfInBounds d (σ k) | none => t) = t := by
      cases ho : o.dst with
      | none => rfl
      | some d =>
        have := h 0 o d rfl ho
        simp only
        rw [Nat.add_zero] at this
        rw [this]
        apply Array.ext_getElem?
        intro i
        rw [Array.getElem?_setIfInBounds]
        split
        · rename_i e; subst e
          split
          · rename_i hlt; simp [hlt]
          · rename_i hlt; simp [Array.getElem?_eq_none (Nat.not_lt.1 hlt)]
        · rfl
    unfold slotAll
    rw [e]
    exact slotAll_start l t (k + 1) σ fun j p d hj hp => by rw [show k + 1 + j = k + (j + 1) by omega]; exact h (j + 1) p d (by simpa using hj) hp
section
variable (P : Program) (ops : Array Oper) (Q : Exit → Act → World → Prop) (fr : (Nat → Value) → Array Value) (w : World) (C : World → Prop) (t : Array Value) (tl : List Oper)
/-- who waits for operation i has not come up -/
def Fresh (i : Nat) : List Oper → Nat → (Nat → Value) → Prop
  | [], _, _ => True
  | o :: l, j, σ => (if (o.after.any fun e => Region.binds .any e && e.on == i) = true then (match o.dst with | some d => σ j = t.getD d undef | none => True) else True) ∧ Fresh i l (j + 1) σ
def Has (F : List Fact) (es : Array Edge) (k : Nat) (l : List Oper) (σ : Nat → Value) (W : World) : Prop := (∀ e ∈ es, Region.binds .any e = true → (F.getD e.on (fun _ _ => True)) (σ e.on) W) ∧ Fresh t k l (k + 1) σ
def Stay (G : Fact) : Prop := ∀ v W W', Below W.heap.size W W' → G v W → G v W'
def Does (o : Oper) (k : Nat) (a : Act) (W : World) (G : Fact) : Prop := ops[k]? = some o → wpOp P ops Q k (fun a' W' => ∃ v, a' = a.put o.dst v ∧ Below W.heap.size W W' ∧ G v W') a W
def AllF : List Fact → Nat → (Nat → Value) → World → Prop
  | [], _, _, _ => True
  | G :: F, k, σ, W => G (σ k) W ∧ AllF F (k + 1) σ W
def RK : Nat → List Fact → List Oper → Prop
  | _, F, [] => ∀ σ W, Below w.heap.size w W → C W → AllF F 0 σ W → wpList P ops Q tl ⟨fr σ, []⟩ W
  | k, F, o :: l => ∃ G, Stay G ∧ (∀ σ W, Below w.heap.size w W → C W → Has t F o.after k l σ W → Does P ops Q o k ⟨fr σ, []⟩ W G) ∧ RK (k + 1) (F ++ [G]) l
end
theorem allF_of : ∀ (F : List Fact) (k : Nat) (σ : Nat → Value) (W : World), (∀ i, i < F.length → (F.getD i (fun _ _ => True)) (σ (k + i)) W) → AllF F k σ W
  | [], _, _, _, _ => trivial
  | G :: F, k, σ, W, h => ⟨by simpa using h 0 (by simp), allF_of F (k + 1) σ W fun i hi => by have := h (i + 1) (by simpa using hi); rw [show k + 1 + i = k + (i + 1) by omega]; simpa using this⟩
theorem fresh_of {t : Array Value} {i : Nat} {σ : Nat → Value} : ∀ (l : List Oper) (j : Nat), (∀ q o d, l[q]? = some o → o.dst = some d → (∃ e ∈ o.after, Region.binds .any e = true ∧ e.on = i) → σ (j + q) = t.getD d undef) → Fresh t i l j σ
  | [], _, _ => trivial
  | o :: l, j, h => by
    refine ⟨?_, fresh_of l (j + 1) fun q p d hq hd he => by rw [show j + 1 + q = j + (q + 1) by omega]; exact h (q + 1) p d (by simpa using hq) hd he⟩
    split
    · rename_i ha
      split
      · rename_i d hd
        obtain ⟨n, hn, hp⟩ := Array.any_eq_true.1 ha
        rw [Bool.and_eq_true, beq_iff_eq] at hp
        exact h 0 o d rfl hd ⟨_, Array.getElem_mem hn, hp⟩
      · trivial
    · trivial
variable {P : Program} {ops : Array Oper} {Q : Exit → Act → World → Prop} {fr : (Nat → Value) → Array Value} {w : World} {C : World → Prop} {t : Array Value} {tl : List Oper} {F : List Fact} {k : Nat} {o : Oper} {l : List Oper}
theorem RK.facts : ∀ (l : List Oper) (k : Nat) (F : List Fact), RK P ops Q fr w C t tl k F l → F.length = k → (∀ G ∈ F, Stay G) → ∃ Fs, Fs.length = k + l.length ∧ (∀ G ∈ Fs, Stay G) ∧ (∀ i, i < k → Fs[i]? = F[i]?) ∧
    (∀ i o, l[i]? = some o → ∀ σ W, Below w.heap.size w W → C W → Has t (Fs.take (k + i)) o.after (k + i) (l.drop (i + 1)) σ W → Does P ops Q o (k + i) ⟨fr σ, []⟩ W (Fs.getD (k + i) (fun _ _ => True))) ∧
    ∀ σ W, Below w.heap.size w W → C W → AllF Fs 0 σ W → wpList P ops Q tl ⟨fr σ, []⟩ W
  | [], k, F, h, hk, hs => ⟨F, by simpa using hk, hs, fun _ _ => rfl, fun i o h => by simp at h, h⟩
  | o :: l, k, F, h, hk, hs => by
    obtain ⟨G, h1, h2, h3⟩ := h
    obtain ⟨Fs, e1, e2, e3, e4, e5⟩ := RK.facts l (k + 1) (F ++ [G]) h3 (by simp [hk]) (fun H hH => by
      rcases List.mem_append.1 hH with h | h
      · exact hs H h
      · obtain rfl := List.mem_singleton.1 h; exact h1)
    have eF : Fs.take k = F := by
      apply List.ext_getElem?
      intro i
      rw [List.getElem?_take]
      split
      · rename_i hi
        rw [e3 i (by omega), List.getElem?_append_left (by omega)]
      · rw [List.getElem?_eq_none (by omega)]
    refine ⟨Fs, by simp at e1 ⊢; omega, e2, fun i hi => by rw [e3 i (by omega), List.getElem?_append_left (by omega)], fun i p hp => ?_, e5⟩
    cases i with
    | zero =>
      obtain rfl : o = p := by simpa using hp
      intro σ W hb hc hh
      rw [Nat.add_zero, eF] at hh
      have : Fs.getD (k + 0) (fun _ _ => True) = G := by
        rw [List.getD_eq_getElem?_getD, Nat.add_zero, e3 k (by omega), List.getElem?_append_right (by omega), hk]
        simp
      rw [this]
      exact h2 σ W hb hc hh
    | succ i =>
      have := e4 i p (by simpa using hp)
      rw [show k + 1 + i = k + (i + 1) by omega] at this
      exact this
theorem region_go {id : Nat} (hm : P.follows .mixedOrders = true) (hC : ∀ W, Below w.heap.size w W → C W) (hah : (aheadOps 0 l && apartD l) = true) (hfr : ∀ σ, slotAll t l 0 σ = fr σ) (h : RK P l.toArray Q fr w C t [] 0 [] l) : (Code.region id l.toArray true).wp P Q ⟨t, []⟩ w := by
  rw [Bool.and_eq_true] at hah
  obtain ⟨Fs, e1, e2, -, e4, e5⟩ := RK.facts l 0 [] h rfl (by simp)
  have hst : ∀ i, Stay (Fs.getD i (fun _ _ => True)) := fun i => by
    rw [List.getD_eq_getElem?_getD]
    cases hi : Fs[i]? with
    | none => exact fun _ _ _ _ _ => trivial
    | some G => exact e2 G (List.mem_of_getElem? hi)
  have h0 : ∀ s : Array Bool, ∀ i, s.getD i false = true ∨ s.getD i false = false := fun s i => by cases s.getD i false <;> simp
  refine region_inv hm (fun s a W => ∃ σ, s.size = l.length ∧ a = ⟨fr σ, []⟩ ∧ Below w.heap.size w W ∧ (∀ i, s.getD i false = true → (Fs.getD i (fun _ _ => True)) (σ i) W) ∧ (∀ i o d, l[i]? = some o → o.dst = some d → s.getD i false = false → σ i = t.getD d undef) ∧ ∀ i o, l[i]? = some o → s.getD i false = true → ∀ e ∈ o.after, Region.binds .any e = true → s.getD e.on false = true) ?_ ?_ ?_
  · refine ⟨fun i => t.getD (((l[i]?).bind (·.dst)).getD 0) undef, by simp, ?_, (Below.refl _ _).drew, (fun i hi => by rw [getD_replicate_false] at hi; cases hi), (fun i o d hi hd _ => by simp [hi, hd]), (fun i o _ hi => by rw [getD_replicate_false] at hi; cases hi)⟩
    rw [← hfr, slotAll_start]
    intro j o d hj ho
    simp [hj, ho]
  · rintro s a W ⟨σ, hs, rfl, hb, hg, hu, hd⟩ i hi
    obtain ⟨hun, o, ho, hdep⟩ := mem_ready.1 hi
    have ho' : l[i]? = some o := by simpa using ho
    have hil : i < s.size := by rw [hs]; exact (List.getElem?_eq_some_iff.1 ho').1
    have hui : s.getD i false = false := by
      rw [Array.getD_eq_getD_getElem?, Array.getElem?_eq_getElem hil] at hun ⊢
      exact hun
    have := e4 i o ho' σ W hb (hC W hb) ⟨fun e he hbd => by
      have hlt := aheadOps_get l 0 i o hah.1 ho' e he hbd
      have := hg _ (hdep e he hbd)
      rw [List.getD_eq_getElem?_getD, List.getElem?_take, if_pos hlt, ← List.getD_eq_getElem?_getD]
      exact this, fresh_of _ _ fun q p d hq hpd he => ?_⟩ (by simpa using ho')
    · rw [Nat.zero_add] at this
      refine wpOp_mono ?_ this
      rintro a' W' ⟨v, rfl, h1, h2⟩
      refine ⟨updF σ i v, by simpa using hs, ?_, hb.trans (h1.mono hb.size), fun j hjt => ?_, fun j p d hj hpd hjf => ?_, fun j p hj hjt e he hbd => ?_⟩
      · have := slotAll_put l t 0 i o σ v hah.2 ho'
        rw [Nat.zero_add] at this
        rw [← hfr, ← hfr, this]
      · by_cases e : j = i
        · subst e
          simpa [updF] using h2
        · have hjs : s.getD j false = true := by
            rw [getD_set_ne false (Ne.symm e)] at hjt
            exact hjt
          rw [show updF σ i v j = σ j by simp [updF, e]]
          exact hst j _ _ _ h1 (hg j hjs)
      · by_cases e : j = i
        · subst e
          rw [Array.getD_eq_getD_getElem?, Array.getElem?_setIfInBounds_self_of_lt hil] at hjf
          cases hjf
        · rw [getD_set_ne false (Ne.symm e)] at hjf
          rw [show updF σ i v j = σ j by simp [updF, e]]
          exact hu j p d hj hpd hjf
      · have key : s.getD e.on false = true := by
          by_cases e' : j = i
          · subst e'
            obtain rfl : o = p := by rw [ho'] at hj; exact Option.some.inj hj
            exact hdep e he hbd
          · rw [getD_set_ne false (Ne.symm e')] at hjt
            exact hd j p hj hjt e he hbd
        by_cases e' : e.on = i
        · rw [e', Array.getD_eq_getD_getElem?, Array.getElem?_setIfInBounds_self_of_lt hil]
          rfl
        · rw [getD_set_ne false (Ne.symm e')]
          exact key
    · rw [Nat.zero_add] at he ⊢
      rw [List.getElem?_drop] at hq
      rw [show i + 1 + q = i + 1 + q from rfl]
      obtain ⟨e, hem, hbd, hon⟩ := he
      rcases h0 s (i + 1 + q) with hj | hj
      · have := hd _ p hq hj e hem hbd
        rw [hon, hui] at this
        cases this
      · exact hu _ p d hq hpd hj
  · rintro s a W ⟨σ, hs, rfl, hb, hg, -, -⟩ hr
    refine e5 σ W hb (hC W hb) (allF_of _ _ _ _ fun i hi => ?_)
    rw [Nat.zero_add]
    refine hg i ?_
    have all : ∀ n i, i < n → i < l.length → s.getD i false = true := by
      intro n
      induction n with
      | zero => intro i h; omega
      | succ n ih =>
        intro i hin hil
        cases hb : s.getD i false with
        | true => rfl
        | false =>
          exfalso
          have ho : l[i]? = some l[i] := List.getElem?_eq_getElem hil
          have hah' := aheadOps_get l 0 i _ hah.1 ho
          have : i ∈ Region.ready .any l.toArray s := mem_ready.2 ⟨getD_in (by rw [hs]; exact hil) hb, l[i], by simp, fun e he hbd => ih _ (by have := hah' e he hbd; omega) (by have := hah' e he hbd; omega)⟩
          rw [hr] at this
          cases this
    exact all (i + 1) i (by omega) (by omega)
/-- .. where the last ones wait for all others: these are walked as they stand -/
theorem region_goT {id : Nat} (n : Nat) (hm : P.follows .mixedOrders = true) (hC : ∀ W, Below w.heap.size w W → C W) (hB : (tailB l n && apartD (l.take n)) = true) (hfr : ∀ σ, slotAll t (l.take n) 0 σ = fr σ) (h : RK P l.toArray Q fr w C t (l.drop n) 0 [] (l.take n)) : (Code.region id l.toArray true).wp P Q ⟨t, []⟩ w := by
  rw [Bool.and_eq_true] at hB
  obtain ⟨hB, hap⟩ := hB
  simp only [tailB, Bool.and_eq_true, decide_eq_true_eq] at hB
  obtain ⟨hn, hs, hc, hah, hseq⟩ := hB
  have hsz : l.toArray.size = l.length := by simp
  have hln : (l.take n).length = n := by simp; simp at hn; omega
  have hget : ∀ i o, i < n → l[i]? = some o → (l.take n)[i]? = some o := fun i o hi ho => by rw [List.getElem?_take, if_pos hi]; exact ho
  obtain ⟨Fs, e1, e2, -, e4, e5⟩ := RK.facts (l.take n) 0 [] h rfl (by simp)
  rw [hln] at e1
  have hst : ∀ i, Stay (Fs.getD i (fun _ _ => True)) := fun i => by
    rw [List.getD_eq_getElem?_getD]
    cases hi : Fs[i]? with
    | none => exact fun _ _ _ _ _ => trivial
    | some G => exact e2 G (List.mem_of_getElem? hi)
  refine wp_region_any hm ?_
  have inv0 : HeadInv .any l.toArray n (Array.replicate l.toArray.size false) :=
    ⟨by simp, fun j oj _ hx => (by rw [getD_replicate_false] at hx; cases hx), fun t _ ht => getD_in (by simpa using ht) (getD_replicate_false _ _)⟩
  have K := any_head (P := P) (Q := Q) (n := n) (fun s a W => ∃ σ, s.size = l.length ∧ a = ⟨fr σ, []⟩ ∧ Below w.heap.size w W ∧ (∀ i, i < n → s.getD i false = true → (Fs.getD i (fun _ _ => True)) (σ i) W) ∧ (∀ i o d, i < n → l[i]? = some o → o.dst = some d → s.getD i false = false → σ i = t.getD d undef) ∧ ∀ i o, l[i]? = some o → s.getD i false = true → ∀ e ∈ o.after, Region.binds .any e = true → s.getD e.on false = true) hs hc hn
    (fun i o ho e he hb => by have := aheadOps_get l 0 i o hah (by simpa using ho) e he hb; omega)
    (by
      rintro s a W ⟨σ, hss, rfl, hb, hg, hu, hd⟩ i hi hin
      obtain ⟨hun, o, ho, hdep⟩ := mem_ready.1 hi
      have ho' : l[i]? = some o := by simpa using ho
      have hil : i < s.size := by rw [hss]; exact (List.getElem?_eq_some_iff.1 ho').1
      have hui : s.getD i false = false := by
        rw [Array.getD_eq_getD_getElem?, Array.getElem?_eq_getElem hil] at hun ⊢
        exact hun
      have := e4 i o (hget i o hin ho') σ W hb (hC W hb) ⟨fun e he hbd => by
        have hlt := aheadOps_get l 0 i o hah ho' e he hbd
        have := hg _ (by omega) (hdep e he hbd)
        rw [List.getD_eq_getElem?_getD, List.getElem?_take, if_pos hlt, ← List.getD_eq_getElem?_getD]
        exact this, fresh_of _ _ fun q p d hq hpd he => ?_⟩ (by simpa using ho')
      · rw [Nat.zero_add] at this
        refine wpOp_mono ?_ this
        rintro a' W' ⟨v, rfl, h1, h2⟩
        refine ⟨updF σ i v, by simpa using hss, ?_, hb.trans (h1.mono hb.size), fun j hjn hjt => ?_, fun j p d hjn hj hpd hjf => ?_, fun j p hj hjt e he hbd => ?_⟩
        · have := slotAll_put (l.take n) t 0 i o σ v hap (hget i o hin ho')
          rw [Nat.zero_add] at this
          rw [← hfr, ← hfr, this]
        · by_cases e : j = i
          · subst e
            simpa [updF] using h2
          · have hjs : s.getD j false = true := by
              rw [getD_set_ne false (Ne.symm e)] at hjt
              exact hjt
            rw [show updF σ i v j = σ j by simp [updF, e]]
            exact hst j _ _ _ h1 (hg j hjn hjs)
        · by_cases e : j = i
          · subst e
            rw [Array.getD_eq_getD_getElem?, Array.getElem?_setIfInBounds_self_of_lt hil] at hjf
            cases hjf
          · rw [getD_set_ne false (Ne.symm e)] at hjf
            rw [show updF σ i v j = σ j by simp [updF, e]]
            exact hu j p d hjn hj hpd hjf
        · have key : s.getD e.on false = true := by
            by_cases e' : j = i
            · subst e'
              obtain rfl : o = p := by rw [ho'] at hj; exact Option.some.inj hj
              exact hdep e he hbd
            · rw [getD_set_ne false (Ne.symm e')] at hjt
              exact hd j p hj hjt e he hbd
          by_cases e' : e.on = i
          · rw [e', Array.getD_eq_getD_getElem?, Array.getElem?_setIfInBounds_self_of_lt hil]
            rfl
          · rw [getD_set_ne false (Ne.symm e')]
            exact key
      · rw [Nat.zero_add] at he ⊢
        rw [List.getElem?_drop, List.getElem?_take] at hq
        split at hq
        · rename_i hqn
          obtain ⟨e, hem, hbd, hon⟩ := he
          cases hj : s.getD (i + 1 + q) false with
          | true =>
            have := hd _ p hq hj e hem hbd
            rw [hon, hui] at this
            cases this
          | false => exact hu _ p d hqn hq hpd hj
        · cases hq)
    (by
      rintro s a W hi ⟨σ, hss, rfl, hb, hg, -, -⟩ hall
      have he : s = (List.replicate n true ++ List.replicate (l.toArray.size - n) false).toArray := by
        apply Array.ext
        · simp; omega
        · intro i h1 h2
          by_cases hin : i < n
          · have h3 := hall i hin
            simp [Array.getD, h1] at h3
            rw [h3]
            simp [hin]
          · have h3 := hi.tail i (by omega) (by omega)
            simp [Array.getD, h1] at h3
            rw [h3]
            simp [List.getElem_append, hin]
      have hdl : (l.drop n).length = l.toArray.size - n := by simp
      have hw := e5 σ W hb (hC W hb) (allF_of _ _ _ _ fun i hin => by
        rw [Nat.zero_add]
        refine hg i (by omega) ?_
        have h3 := hall i (by omega)
        have hlt : i < s.size := by omega
        simp [hlt] at h3 ⊢
        exact h3)
      have := wpAny_of_seq (md := .any) (Q' := Q) (l.drop n) n s ⟨fr σ, []⟩ W (fun j => by simp [List.getElem?_drop]) (by rw [hdl, he]; exact hseq) hw
      rwa [hdl] at this)
    n (Array.replicate l.toArray.size false) ⟨t, []⟩ w.drew (by simp [leftB]; omega) inv0 (by
      refine ⟨fun i => t.getD ((((l.take n)[i]?).bind (·.dst)).getD 0) undef, by simp, ?_, (Below.refl _ _).drew, (fun i _ hi => by rw [getD_replicate_false] at hi; cases hi), (fun i o d hin hi hd _ => by show t.getD ((((l.take n)[i]?).bind (·.dst)).getD 0) undef = _; rw [hget i o hin hi]; simp [hd]), (fun i o _ hi => by rw [getD_replicate_false] at hi; cases hi)⟩
      rw [← hfr, slotAll_start]
      intro j o d hj ho
      simp only [Nat.zero_add, hj]
      simp [ho])
  rwa [show n + (l.toArray.size - n) = l.toArray.size by omega] at K
theorem Stay.eq (v : Value) : Stay (fun X _ => X = v) := fun _ _ _ _ h => h
theorem does_val {a : Act} {W W' : World} {v : Value} {G : Fact} (hw : Region.wanted o (yielded ops a.tmps) = true) (h : (execOp a.eval o).run P W = .ok (.value v) W') (hb : Below W.heap.size W W') (hg : G v W') : Does P ops Q o k a W G := fun ho => by
  unfold wpOp
  rw [ho]
  simp only [hw, if_true]
  exact .inl (by unfold Oper.wp; rw [h]; exact ⟨v, rfl, hb, hg⟩)
theorem does_call {a : Act} {W : World} {f : FuncId} {args : Array Value} {G : Fact} (hw : Region.wanted o (yielded ops a.tmps) = true) (h : (execOp a.eval o).run P W = .ok (.enter f args) W) (hc : Calls P f args W fun e W' => ∃ v, e = .returned v ∧ Below W.heap.size W W' ∧ G v W') : Does P ops Q o k a W G := fun ho => by
  unfold wpOp
  rw [ho]
  simp only [hw, if_true]
  refine .inl ?_
  unfold Oper.wp
  rw [h]
  refine hc.mono ?_
  rintro e W' ⟨v, rfl, hb, hg⟩
  exact ⟨v, rfl, hb, hg⟩
theorem wanted_of {ops : Array Oper} {t : Array Value} (hg : o.guard = none) : Region.wanted o (yielded ops t) = true := by simp [Region.wanted, hg]
/-- a value is told -/
theorem RK.val {v : Value} (hg : o.guard = none) (h : ∀ σ W, Below w.heap.size w W → C W → Has t F o.after k l σ W → (execOp (Act.eval ⟨fr σ, []⟩) o).run P W = .ok (.value v) W) (hn : RK P ops Q fr w C t tl (k + 1) (F ++ [fun X _ => X = v]) l) : RK P ops Q fr w C t tl k F (o :: l) :=
  ⟨_, Stay.eq v, fun σ W hb hc hh => does_val (wanted_of hg) (h σ W hb hc hh) (Below.refl _ _) rfl, hn⟩
theorem RK.valW {v : Value} (h : ∀ σ W, Below w.heap.size w W → C W → Has t F o.after k l σ W → Region.wanted o (yielded ops (fr σ)) = true ∧ (execOp (Act.eval ⟨fr σ, []⟩) o).run P W = .ok (.value v) W) (hn : RK P ops Q fr w C t tl (k + 1) (F ++ [fun X _ => X = v]) l) : RK P ops Q fr w C t tl k F (o :: l) :=
  ⟨_, Stay.eq v, fun σ W hb hc hh => does_val (h σ W hb hc hh).1 (h σ W hb hc hh).2 (Below.refl _ _) rfl, hn⟩
/-- it is passed by -/
theorem RK.pass (h : ∀ σ W, Below w.heap.size w W → C W → Has t F o.after k l σ W → Region.wanted o (yielded ops (fr σ)) = false) (hn : RK P ops Q fr w C t tl (k + 1) (F ++ [fun X _ => X = undef]) l) : RK P ops Q fr w C t tl k F (o :: l) :=
  ⟨_, Stay.eq undef, fun σ W hb hc hh ho => by
    unfold wpOp
    rw [ho]
    simp only [h σ W hb hc hh]
    exact ⟨undef, rfl, Below.refl _ _, rfl⟩, hn⟩
/-- a call that answers a value -/
theorem RK.callV {v : Value} {f : FuncId} {args : Array Value} (hg : o.guard = none) (h1 : ∀ σ W, Below w.heap.size w W → C W → Has t F o.after k l σ W → (execOp (Act.eval ⟨fr σ, []⟩) o).run P W = .ok (.enter f args) W) (h2 : ∀ W, Below w.heap.size w W → C W → Calls P f args W fun e W' => e = .returned v ∧ Below W.heap.size W W') (hn : RK P ops Q fr w C t tl (k + 1) (F ++ [fun X _ => X = v]) l) : RK P ops Q fr w C t tl k F (o :: l) :=
  ⟨_, Stay.eq v, fun σ W hb hc hh => by
    refine does_call (wanted_of hg) (h1 σ W hb hc hh) ((h2 W hb hc).mono ?_)
    rintro e W' ⟨rfl, hb'⟩
    exact ⟨v, rfl, hb', rfl⟩, hn⟩
theorem RK.callW {v : Value} {f : FuncId} {args : Array Value} (h1 : ∀ σ W, Below w.heap.size w W → C W → Has t F o.after k l σ W → Region.wanted o (yielded ops (fr σ)) = true ∧ (execOp (Act.eval ⟨fr σ, []⟩) o).run P W = .ok (.enter f args) W) (h2 : ∀ W, Below w.heap.size w W → C W → Calls P f args W fun e W' => e = .returned v ∧ Below W.heap.size W W') (hn : RK P ops Q fr w C t tl (k + 1) (F ++ [fun X _ => X = v]) l) : RK P ops Q fr w C t tl k F (o :: l) :=
  ⟨_, Stay.eq v, fun σ W hb hc hh => by
    refine does_call (h1 σ W hb hc hh).1 (h1 σ W hb hc hh).2 ((h2 W hb hc).mono ?_)
    rintro e W' ⟨rfl, hb'⟩
    exact ⟨v, rfl, hb', rfl⟩, hn⟩
/-- a call of whose answer something is known -/
theorem RK.callG (G : Fact) (hs : Stay G) (hg : o.guard = none) (h : ∀ σ W, Below w.heap.size w W → C W → Has t F o.after k l σ W → ∃ f args, (execOp (Act.eval ⟨fr σ, []⟩) o).run P W = .ok (.enter f args) W ∧ Calls P f args W fun e W' => ∃ v, e = .returned v ∧ Below W.heap.size W W' ∧ G v W') (hn : RK P ops Q fr w C t tl (k + 1) (F ++ [G]) l) : RK P ops Q fr w C t tl k F (o :: l) :=
  ⟨G, hs, fun σ W hb hc hh => by
    obtain ⟨f, args, h1, h2⟩ := h σ W hb hc hh
    exact does_call (wanted_of hg) h1 h2, hn⟩
/-- memory is made -/
theorem RK.new (G : Fact) (hs : Stay G) (hg : o.guard = none) (h : ∀ σ W, Below w.heap.size w W → C W → Has t F o.after k l σ W → ∃ v W', (execOp (Act.eval ⟨fr σ, []⟩) o).run P W = .ok (.value v) W' ∧ Below W.heap.size W W' ∧ G v W') (hn : RK P ops Q fr w C t tl (k + 1) (F ++ [G]) l) : RK P ops Q fr w C t tl k F (o :: l) :=
  ⟨G, hs, fun σ W hb hc hh => by
    obtain ⟨v, W', h1, h2, h3⟩ := h σ W hb hc hh
    exact does_val (wanted_of hg) h1 h2 h3, hn⟩
end Go.Proofs.YtbjlfhabnjpdmaaGreatDoor
