/-
  A region that draws its order, by an invariant: of what has come up, the frame and the world; each operation that may come up keeps it, whatever came ahead. Where several operations make memory beside calls, the orders need not be told apart.
  A region that draws its order, by what is known of each operation's value once it has come up: each operation is looked at once, given what is known of those that it waits for, over any frame and any world that the others may have left. The orders need not be told apart.
  .. where the last operations wait for all others, one behind the other: these are walked as they stand, when the others have come up in whatever order.
  A region that draws its order, by what is known of what has come up: an invariant over which operations have come up, their values and the world; each operation is looked at once.
-/
import Derived.Test.YtbjlfhabnjpdmaaGreatDoorlaMemB
import Derived.StillTailTactics
import Derived.Deep.QuietTactic
namespace Go.Proofs.YtbjlfhabnjpdmaaGreatDoor

section
variable {P : Program} {ops : Array Oper} {md : Region.Mode}
/-- how many have not come up -/
def leftB (s : Array Bool) : Nat := s.toList.count false
theorem leftB_set (s : Array Bool) (i : Nat) (h : s.getD i true = false) : leftB (s.setIfInBounds i true) + 1 = leftB s := by
  have hi : i < s.size := by
    rcases Nat.lt_or_ge i s.size with h' | h'
    · exact h'
    · simp [Array.getD, Nat.not_lt.2 h'] at h
  have hv : s[i] = false := by simpa [Array.getD, hi] using h
  unfold leftB
  rw [Array.toList_setIfInBounds, List.count_set (by simpa using hi)]
  have h1 : s.toList[i]'(by simpa using hi) = false := by simpa using hv
  have h2 : 0 < s.toList.count false := List.count_pos_iff.2 (by rw [← h1]; exact List.getElem_mem _)
  rw [h1, if_pos (by rfl), if_neg (by decide)]
  omega
theorem any_inv {Q : Exit → Act → World → Prop} (Inv : Array Bool → Act → World → Prop)
    (hstep : ∀ s a w, Inv s a w → ∀ i ∈ Region.ready md ops s, wpOp P ops Q i (Inv (s.setIfInBounds i true)) a w)
    (hend : ∀ s a w, Inv s a w → Region.ready md ops s = [] → Q .normal a w) :
    ∀ (f : Nat) (s : Array Bool) (a : Act) (w : World), leftB s ≤ f → Inv s a w → wpAny P md ops Q f s a w
  | 0, s, a, w, hf, h => by
    have hr : Region.ready md ops s = [] := by
      cases hr : Region.ready md ops s with
      | nil => rfl
      | cons i r =>
        have hm : i ∈ Region.ready md ops s := by rw [hr]; simp
        have := leftB_set s i (mem_ready.1 hm).1
        omega
    exact ⟨hr, hend s a w h hr⟩
  | f + 1, s, a, w, hf, h => by
    refine ⟨fun hr => hend s a w h hr, fun i hi => wpOp_mono (fun a' w' h' => ?_) (hstep s a w h i hi)⟩
    have := leftB_set s i (mem_ready.1 hi).1
    exact any_inv Inv hstep hend f _ a' w' (by omega) h'
theorem region_inv {id : Nat} {Q : Exit → Act → World → Prop} {a : Act} {w : World} (hm : P.follows .mixedOrders = true) (Inv : Array Bool → Act → World → Prop)
    (h0 : Inv (Array.replicate ops.size false) a w.drew)
    (hstep : ∀ s a w, Inv s a w → ∀ i ∈ Region.ready .any ops s, wpOp P ops Q i (Inv (s.setIfInBounds i true)) a w)
    (hend : ∀ s a w, Inv s a w → Region.ready .any ops s = [] → Q .normal a w) : (Code.region id ops true).wp P Q a w :=
  wp_region_any hm (any_inv Inv hstep hend _ _ _ _ (by simp [leftB]) h0)
end
end Go.Proofs.YtbjlfhabnjpdmaaGreatDoor
namespace Go.Proofs.YtbjlfhabnjpdmaaGreatDoor
open Go.RowKit

/-- the operations of a function's region -/
def regOf (id : Nat) : Code → Option (Array Oper)
  | .region i ops _ => if i = id then some ops else none
  | .block _ c => regOf id c
  | .seq a b => match regOf id a with
    | some c => some c
    | none => regOf id b
  | .loop c => regOf id c
  | .scope c => regOf id c
  | .cond _ a b => match regOf id a with
    | some c => some c
    | none => regOf id b
  | _ => none
theorem wpOp_plain {P : Program} {ops : Array Oper} {Q : Exit → Act → World → Prop} {i : Nat} {o : Oper} {K : Act → World → Prop} {a : Act} {w : World} (ho : ops[i]? = some o) (hg : o.guard = none) (h : o.wp P a w K Q) : wpOp P ops Q i K a w := by
  unfold wpOp
  rw [ho]
  have : Region.wanted o (yielded ops a.tmps) = true := by simp [Region.wanted, hg]
  simp only [this, if_true]
  exact .inl h
def updF (σ : Nat → Value) (i : Nat) (v : Value) : Nat → Value := fun j => if j = i then v else σ j
section
variable (P : Program) (ops : Array Oper) (Q : Exit → Act → World → Prop) (fr : (Nat → Value) → Array Value) (G : Nat → Value → World → Prop) (R : World → World → Prop) (J : World → Prop)
/-- what an operation leaves: its value in its slot, of which something is known -/
def Left (i : Nat) (σ : Nat → Value) (w : World) (a' : Act) (w' : World) : Prop := ∃ v, a' = ⟨fr (updF σ i v), []⟩ ∧ R w w' ∧ J w' ∧ G i v w'
def Stepwise : Nat → List Oper → Prop
  | _, [] => True
  | i, o :: l => (∀ (σ : Nat → Value) (w : World), J w → (∀ e ∈ o.after, Region.binds .any e = true → G e.on (σ e.on) w) → wpOp P ops Q i (Left fr G R J i σ w) ⟨fr σ, []⟩ w) ∧ Stepwise (i + 1) l
end
theorem Stepwise.get {P : Program} {ops : Array Oper} {Q : Exit → Act → World → Prop} {fr : (Nat → Value) → Array Value} {G : Nat → Value → World → Prop} {R : World → World → Prop} {J : World → Prop} :
    ∀ (l : List Oper) (k i : Nat) (o : Oper), Stepwise P ops Q fr G R J k l → l[i]? = some o → ∀ (σ : Nat → Value) (w : World), J w → (∀ e ∈ o.after, Region.binds .any e = true → G e.on (σ e.on) w) → wpOp P ops Q (k + i) (Left fr G R J (k + i) σ w) ⟨fr σ, []⟩ w
  | [], _, _, _, _, h => by simp at h
  | x :: l, k, i, o, hs, h => by
    cases i with
    | zero =>
      obtain rfl : x = o := by simpa using h
      exact hs.1
    | succ i =>
      have := Stepwise.get l (k + 1) i o hs.2 (by simpa using h)
      rw [show k + (i + 1) = k + 1 + i by omega]
      exact this
/-- what is waited for stands ahead -/
def aheadOps : Nat → List Oper → Bool
  | _, [] => true
  | i, o :: l => o.after.toList.all (fun e => !Region.binds .any e || decide (e.on < i)) && aheadOps (i + 1) l
theorem aheadOps_get : ∀ (l : List Oper) (k i : Nat) (o : Oper), aheadOps k l = true → l[i]? = some o → ∀ e ∈ o.after, Region.binds .any e = true → e.on < k + i
  | [], _, _, _, _, h => by simp at h
  | x :: l, k, i, o, hs, h => by
    unfold aheadOps at hs
    rw [Bool.and_eq_true] at hs
    cases i with
    | zero =>
      obtain rfl : x = o := by simpa using h
      intro e he hb
      have := List.all_eq_true.1 hs.1 e (Array.mem_toList_iff.2 he)
      simpa [hb] using this
    | succ i =>
      have := aheadOps_get l (k + 1) i o hs.2 (by simpa using h)
      rw [show k + (i + 1) = k + 1 + i by omega]
      exact this
theorem region_facts {P : Program} {id : Nat} {Q : Exit → Act → World → Prop} {w : World} {l : List Oper} {a0 : Act} (hm : P.follows .mixedOrders = true) (fr : (Nat → Value) → Array Value) (σ0 : Nat → Value) (h0 : a0 = ⟨fr σ0, []⟩)
    (G : Nat → Value → World → Prop) (R : World → World → Prop) (J : World → Prop) (hJ : J w.drew) (hstab : ∀ i v w w', R w w' → G i v w → G i v w') (hah : aheadOps 0 l = true)
    (hstep : Stepwise P l.toArray Q fr G R J 0 l)
    (hend : ∀ (σ : Nat → Value) (w' : World), J w' → (∀ i, i < l.length → G i (σ i) w') → Q .normal ⟨fr σ, []⟩ w') : (Code.region id l.toArray true).wp P Q a0 w := by
  subst h0
  refine region_inv hm (fun s a w' => ∃ σ, s.size = l.length ∧ a = ⟨fr σ, []⟩ ∧ J w' ∧ ∀ i, s.getD i false = true → G i (σ i) w') ?_ ?_ ?_
  · exact ⟨σ0, by simp, rfl, hJ, fun i hi => by rw [getD_replicate_false] at hi; cases hi⟩
  · rintro s a w' ⟨σ, hs, rfl, hj, hg⟩ i hi
    obtain ⟨hun, o, ho, hdep⟩ := mem_ready.1 hi
    have ho' : l[i]? = some o := by simpa using ho
    have hst := Stepwise.get l 0 i o hstep ho' σ w' hj (fun e he hb => hg _ (hdep e he hb))
    rw [Nat.zero_add] at hst
    refine wpOp_mono ?_ hst
    rintro a2 w2 ⟨v, rfl, hr, hj2, hgv⟩
    have hil : i < s.size := by rw [hs]; exact (List.getElem?_eq_some_iff.1 ho').1
    refine ⟨updF σ i v, by simpa using hs, rfl, hj2, fun j hjt => ?_⟩
    by_cases e : j = i
    · subst e
      simpa [updF] using hgv
    · have hjs : s.getD j false = true := by
        rw [getD_set_ne false (Ne.symm e)] at hjt
        exact hjt
      rw [show updF σ i v j = σ j by simp [updF, e]]
      exact hstab j _ w' w2 hr (hg j hjs)
  · rintro s a w' ⟨σ, hs, rfl, hj, hg⟩ hr
    refine hend σ w' hj fun i hi => hg i ?_
    have all : ∀ n i, i < n → i < l.length → s.getD i false = true := by
      intro n
      induction n with
      | zero => intro i h; omega
      | succ n ih =>
        intro i hin hil
        cases hb : s.getD i false with
        | true => rfl
        | false =>
          exfalso
          have ho : l[i]? = some l[i] := List.getElem?_eq_getElem hil
          have hah' := aheadOps_get l 0 i _ hah ho
          have : i ∈ Region.ready .any l.toArray s := mem_ready.2 ⟨getD_in (by rw [hs]; exact hil) hb, l[i], by simp, fun e he hbd => ih _ (by have := hah' e he hbd; omega) (by have := hah' e he hbd; omega)⟩
          rw [hr] at this
          cases this
    exact all (i + 1) i (by omega) hi
/-- where each operation only makes memory -/
theorem region_grows {P : Program} {id : Nat} {Q : Exit → Act → World → Prop} {w : World} {l : List Oper} {a0 : Act} (hm : P.follows .mixedOrders = true) (fr : (Nat → Value) → Array Value) (σ0 : Nat → Value) (h0 : a0 = ⟨fr σ0, []⟩)
    (G : Nat → Value → World → Prop) (hstab : ∀ i v w w', Below w.heap.size w w' → G i v w → G i v w') (hah : aheadOps 0 l = true)
    (hstep : Stepwise P l.toArray Q fr G (fun a b => Below a.heap.size a b) (fun a => Below w.heap.size w a) 0 l)
    (hend : ∀ (σ : Nat → Value) (w' : World), Below w.heap.size w w' → (∀ i, i < l.length → G i (σ i) w') → Q .normal ⟨fr σ, []⟩ w') : (Code.region id l.toArray true).wp P Q a0 w :=
  region_facts hm fr σ0 h0 G _ _ ((Below.refl _ _).drew) hstab hah hstep hend
theorem Left.mk {fr : (Nat → Value) → Array Value} {G : Nat → Value → World → Prop} {i : Nat} {σ : Nat → Value} {w0 w w' : World} {a' : Act} (v : Value) (ha : a' = ⟨fr (updF σ i v), []⟩) (hb : Below w.heap.size w w') (hj : Below w0.heap.size w0 w) (hg : G i v w') :
    Left fr G (fun a b => Below a.heap.size a b) (fun a => Below w0.heap.size w0 a) i σ w a' w' := ⟨v, ha, hb, hj.trans (hb.mono hj.size), hg⟩
theorem Left.mk0 {fr : (Nat → Value) → Array Value} {G : Nat → Value → World → Prop} {i : Nat} {σ : Nat → Value} {w0 w : World} {a' : Act} (v : Value) (ha : a' = ⟨fr (updF σ i v), []⟩) (hj : Below w0.heap.size w0 w) (hg : G i v w) :
    Left fr G (fun a b => Below a.heap.size a b) (fun a => Below w0.heap.size w0 a) i σ w a' w := ⟨v, ha, Below.refl _ _, hj, hg⟩
end Go.Proofs.YtbjlfhabnjpdmaaGreatDoor
namespace Go.Proofs.YtbjlfhabnjpdmaaGreatDoor
open Go.RowKit

theorem left_tail {s : Array Bool} {n : Nat} (h : ∀ t, n ≤ t → t < s.size → s.getD t true = false) : s.size - n ≤ leftB s := by
  unfold leftB
  have e : s.toList = s.toList.take n ++ s.toList.drop n := (List.take_append_drop n s.toList).symm
  rw [e, List.count_append]
  have : (s.toList.drop n).count false = (s.toList.drop n).length := by
    rw [List.count_eq_length]
    intro b hb
    obtain ⟨i, hi, rfl⟩ := List.getElem_of_mem hb
    have hi' : n + i < s.size := by simp at hi; omega
    have := h (n + i) (by omega) hi'
    simp [Array.getD, hi'] at this
    simp [this]
  rw [this]
  simp
theorem left_head {s : Array Bool} {n : Nat} (h : ∀ i, i < n → s.getD i true = true) : leftB s ≤ s.size - n := by
  unfold leftB
  have e : s.toList = s.toList.take n ++ s.toList.drop n := (List.take_append_drop n s.toList).symm
  rw [e, List.count_append]
  have : (s.toList.take n).count false = 0 := by
    rw [List.count_eq_zero]
    intro hb
    obtain ⟨i, hi, he⟩ := List.getElem_of_mem hb
    have hi' : i < s.size := by simp at hi; omega
    have hin : i < n := by simp at hi; omega
    have := h i hin
    simp [Array.getD, hi'] at this
    simp [this] at he
  rw [this, Nat.zero_add]
  refine Nat.le_trans List.count_le_length ?_
  simp
section
variable {P : Program} {ops : Array Oper}
theorem any_head {Q : Exit → Act → World → Prop} {n : Nat} (Inv : Array Bool → Act → World → Prop) (hs : sinkFrom .any ops 0 n = true) (hc : Region.chainB .any ops n = true) (hn : n < ops.size)
    (hah : ∀ i o, ops[i]? = some o → ∀ e ∈ o.after, Region.binds .any e = true → e.on < i)
    (hstep : ∀ s a w, Inv s a w → ∀ i ∈ Region.ready .any ops s, i < n → wpOp P ops Q i (Inv (s.setIfInBounds i true)) a w)
    (hgo : ∀ s a w, HeadInv .any ops n s → Inv s a w → (∀ i, i < n → s.getD i true = true) → wpAny P .any ops Q (ops.size - n) s a w) :
    ∀ (f : Nat) (s : Array Bool) (a : Act) (w : World), leftB s = f + (ops.size - n) → HeadInv .any ops n s → Inv s a w → wpAny P .any ops Q (f + (ops.size - n)) s a w
  | 0, s, a, w, hf, hi, h => by
    rw [Nat.zero_add]
    refine hgo s a w hi h fun i hin => ?_
    cases hb : s.getD i true with
    | true => rfl
    | false =>
      have h1 := leftB_set s i hb
      have h2 := left_tail (s := s.setIfInBounds i true) (n := n) (fun t ht hts => by
        rw [getD_set_ne true (by omega)]
        exact hi.tail t ht (by rw [← hi.size]; simpa using hts))
      have h3 := hi.size
      simp only [Array.size_setIfInBounds] at h2
      omega
  | f + 1, s, a, w, hf, hi, h => by
    have hsome : ∃ i, i < n ∧ s.getD i true = false := by
      refine Classical.byContradiction fun hno => ?_
      have h1 := left_head (s := s) (n := n) (fun i hin => by
        cases hb : s.getD i true with
        | true => rfl
        | false => exact absurd ⟨i, hin, hb⟩ hno)
      have h3 := hi.size
      omega
    have hhead : ∀ j ∈ Region.ready .any ops s, j < n := fun j hj => by
      refine Nat.lt_of_not_le fun hnj => ?_
      obtain ⟨i, hin, hb⟩ := hsome
      exact waits_from hs hc hn hi _ i rfl (Nat.zero_le _) hin hb j hnj hj
    rw [show f + 1 + (ops.size - n) = (f + (ops.size - n)) + 1 by omega]
    refine ⟨fun hr => ?_, fun i hir => ?_⟩
    · exfalso
      have all : ∀ m i, i < m → i < n → s.getD i false = true := by
        intro m
        induction m with
        | zero => intro i h; omega
        | succ m ih =>
          intro i him hin
          cases hb : s.getD i false with
          | true => rfl
          | false =>
            exfalso
            have hio : i < ops.size := by omega
            have ho : ops[i]? = some ops[i] := Array.getElem?_eq_getElem hio
            have hah' := hah i _ ho
            have : i ∈ Region.ready .any ops s := mem_ready.2 ⟨getD_in (by rw [hi.size]; exact hio) hb, _, ho, fun e he hbd => ih _ (by have := hah' e he hbd; omega) (by have := hah' e he hbd; omega)⟩
            rw [hr] at this
            cases this
      obtain ⟨i, hin, hb⟩ := hsome
      have := all (i + 1) i (by omega) hin
      rw [getD_both hb] at this
      cases this
    · have hin := hhead i hir
      refine wpOp_mono (fun a' w' h' => ?_) (hstep s a w h i hir hin)
      have h1 := leftB_set s i (mem_ready.1 hir).1
      exact any_head Inv hs hc hn hah hstep hgo f _ a' w' (by omega) (hi.set hir hin) h'
end
def tailB (l : List Oper) (n : Nat) : Bool :=
  decide (n < l.toArray.size) && (sinkFrom .any l.toArray 0 n && (Region.chainB .any l.toArray n && (aheadOps 0 l && Region.seqB .any l.toArray (l.toArray.size - n) n (List.replicate n true ++ List.replicate (l.toArray.size - n) false).toArray)))
theorem region_facts_tail {P : Program} {id : Nat} {Q : Exit → Act → World → Prop} {w : World} {l : List Oper} {a0 : Act} (n : Nat) (hm : P.follows .mixedOrders = true) (fr : (Nat → Value) → Array Value) (σ0 : Nat → Value) (h0 : a0 = ⟨fr σ0, []⟩)
    (G : Nat → Value → World → Prop) (R : World → World → Prop) (J : World → Prop) (hJ : J w.drew) (hstab : ∀ i v w w', R w w' → G i v w → G i v w') (hB : tailB l n = true)
    (hstep : Stepwise P l.toArray Q fr G R J 0 (l.take n))
    (hend : ∀ (σ : Nat → Value) (w' : World), J w' → (∀ i, i < n → G i (σ i) w') → wpList P l.toArray Q (l.drop n) ⟨fr σ, []⟩ w') : (Code.region id l.toArray true).wp P Q a0 w := by
  subst h0
  simp only [tailB, Bool.and_eq_true, decide_eq_true_eq] at hB
  obtain ⟨hn, hs, hc, hah, hseq⟩ := hB
  refine wp_region_any hm ?_
  have hsz : l.toArray.size = l.length := by simp
  have inv0 : HeadInv .any l.toArray n (Array.replicate l.toArray.size false) :=
    ⟨by simp, fun j oj _ hx => (by rw [getD_replicate_false] at hx; cases hx), fun t _ ht => getD_in (by simpa using ht) (getD_replicate_false _ _)⟩
  have K := any_head (P := P) (Q := Q) (n := n) (fun s a w' => ∃ σ, s.size = l.length ∧ a = ⟨fr σ, []⟩ ∧ J w' ∧ ∀ i, i < n → s.getD i false = true → G i (σ i) w') hs hc hn
    (fun i o ho e he hb => by have := aheadOps_get l 0 i o hah (by simpa using ho) e he hb; omega)
    (by
      rintro s a w' ⟨σ, hss, rfl, hj, hg⟩ i hi hin
      obtain ⟨hun, o, ho, hdep⟩ := mem_ready.1 hi
      have ho' : l[i]? = some o := by simpa using ho
      have ho2 : (l.take n)[i]? = some o := by rw [List.getElem?_take, if_pos hin]; exact ho'
      have hah' := aheadOps_get l 0 i o hah ho'
      have hst := Stepwise.get (l.take n) 0 i o hstep ho2 σ w' hj (fun e he hb => hg _ (by have := hah' e he hb; omega) (hdep e he hb))
      rw [Nat.zero_add] at hst
      refine wpOp_mono ?_ hst
      rintro a2 w2 ⟨v, rfl, hr, hj2, hgv⟩
      refine ⟨updF σ i v, by simpa using hss, rfl, hj2, fun j hjn hjt => ?_⟩
      by_cases e : j = i
      · subst e
        simpa [updF] using hgv
      · have hjs : s.getD j false = true := by
          rw [getD_set_ne false (Ne.symm e)] at hjt
          exact hjt
        rw [show updF σ i v j = σ j by simp [updF, e]]
        exact hstab j _ w' w2 hr (hg j hjn hjs))
    (by
      rintro s a w' hi ⟨σ, hss, rfl, hj, hg⟩ hall
      have he : s = (List.replicate n true ++ List.replicate (l.toArray.size - n) false).toArray := by
        apply Array.ext
        · simp; omega
        · intro i h1 h2
          by_cases hin : i < n
          · have h3 := hall i hin
            simp [Array.getD, h1] at h3
            rw [h3]
            simp [hin]
          · have h3 := hi.tail i (by omega) (by omega)
            simp [Array.getD, h1] at h3
            rw [h3]
            simp [List.getElem_append, hin]
      have hdl : (l.drop n).length = l.toArray.size - n := by simp
      have hw := hend σ w' hj (fun i hin => hg i hin (by
        have h3 := hall i hin
        have hlt : i < s.size := by omega
        simp [hlt] at h3 ⊢
        exact h3))
      have := wpAny_of_seq (md := .any) (Q' := Q) (l.drop n) n s ⟨fr σ, []⟩ w' (fun j => by simp [List.getElem?_drop]) (by rw [hdl, he]; exact hseq) hw
      rwa [hdl] at this)
    n (Array.replicate l.toArray.size false) ⟨fr σ0, []⟩ w.drew (by simp [leftB]; omega) inv0 ⟨σ0, by simp, rfl, hJ, fun i _ hi => by rw [getD_replicate_false] at hi; cases hi⟩
  rwa [show n + (l.toArray.size - n) = l.toArray.size by omega] at K
/-- where each operation but the last ones only makes memory -/
theorem region_grows_tail {P : Program} {id : Nat} {Q : Exit → Act → World → Prop} {w : World} {l : List Oper} {a0 : Act} (n : Nat) (hm : P.follows .mixedOrders = true) (fr : (Nat → Value) → Array Value) (σ0 : Nat → Value) (h0 : a0 = ⟨fr σ0, []⟩)
    (G : Nat → Value → World → Prop) (hstab : ∀ i v w w', Below w.heap.size w w' → G i v w → G i v w') (hB : tailB l n = true)
    (hstep : Stepwise P l.toArray Q fr G (fun a b => Below a.heap.size a b) (fun a => Below w.heap.size w a) 0 (l.take n))
    (hend : ∀ (σ : Nat → Value) (w' : World), Below w.heap.size w w' → (∀ i, i < n → G i (σ i) w') → wpList P l.toArray Q (l.drop n) ⟨fr σ, []⟩ w') : (Code.region id l.toArray true).wp P Q a0 w :=
  region_facts_tail n hm fr σ0 h0 G _ _ ((Below.refl _ _).drew) hstab hB hstep hend
end Go.Proofs.YtbjlfhabnjpdmaaGreatDoor
namespace Go.Proofs.YtbjlfhabnjpdmaaGreatDoor
open Go.RowKit

def updB (b : Nat → Bool) (i : Nat) : Nat → Bool := fun j => if j = i then true else b j
section
variable (P : Program) (ops : Array Oper) (Q : Exit → Act → World → Prop) (fr : (Nat → Value) → Array Value) (J : (Nat → Bool) → (Nat → Value) → World → Prop)
def Flagwise : Nat → List Oper → Prop
  | _, [] => True
  | i, o :: l => (∀ (b : Nat → Bool) (σ : Nat → Value) (w : World), b i = false → J b σ w → (∀ e ∈ o.after, Region.binds .any e = true → b e.on = true) → wpOp P ops Q i (fun a' w' => ∃ v, a' = ⟨fr (updF σ i v), []⟩ ∧ J (updB b i) (updF σ i v) w') ⟨fr σ, []⟩ w) ∧ Flagwise (i + 1) l
end
theorem Flagwise.get {P : Program} {ops : Array Oper} {Q : Exit → Act → World → Prop} {fr : (Nat → Value) → Array Value} {J : (Nat → Bool) → (Nat → Value) → World → Prop} :
    ∀ (l : List Oper) (k i : Nat) (o : Oper), Flagwise P ops Q fr J k l → l[i]? = some o → ∀ (b : Nat → Bool) (σ : Nat → Value) (w : World), b (k + i) = false → J b σ w → (∀ e ∈ o.after, Region.binds .any e = true → b e.on = true) → wpOp P ops Q (k + i) (fun a' w' => ∃ v, a' = ⟨fr (updF σ (k + i) v), []⟩ ∧ J (updB b (k + i)) (updF σ (k + i) v) w') ⟨fr σ, []⟩ w
  | [], _, _, _, _, h => by simp at h
  | x :: l, k, i, o, hs, h => by
    cases i with
    | zero =>
      obtain rfl : x = o := by simpa using h
      exact hs.1
    | succ i =>
      have := Flagwise.get l (k + 1) i o hs.2 (by simpa using h)
      rw [show k + (i + 1) = k + 1 + i by omega]
      exact this
theorem region_flags {P : Program} {id : Nat} {Q : Exit → Act → World → Prop} {w : World} {l : List Oper} {a0 : Act} (hm : P.follows .mixedOrders = true) (fr : (Nat → Value) → Array Value) (σ0 : Nat → Value) (h0 : a0 = ⟨fr σ0, []⟩)
    (J : (Nat → Bool) → (Nat → Value) → World → Prop) (hJ : J (fun _ => false) σ0 w.drew) (hah : aheadOps 0 l = true)
    (hstep : Flagwise P l.toArray Q fr J 0 l)
    (hend : ∀ (b : Nat → Bool) (σ : Nat → Value) (w' : World), J b σ w' → (∀ i, i < l.length → b i = true) → Q .normal ⟨fr σ, []⟩ w') : (Code.region id l.toArray true).wp P Q a0 w := by
  subst h0
  refine region_inv hm (fun s a w' => ∃ (b : Nat → Bool) (σ : Nat → Value), s.size = l.length ∧ (∀ i, i < l.length → b i = s.getD i false) ∧ a = ⟨fr σ, []⟩ ∧ J b σ w') ?_ ?_ ?_
  · exact ⟨_, σ0, by simp, fun i _ => by rw [getD_replicate_false], rfl, hJ⟩
  · rintro s a w' ⟨b, σ, hs, hb, rfl, hj⟩ i hi
    obtain ⟨hun, o, ho, hdep⟩ := mem_ready.1 hi
    have ho' : l[i]? = some o := by simpa using ho
    have hil : i < l.length := (List.getElem?_eq_some_iff.1 ho').1
    have hah' := aheadOps_get l 0 i o hah ho'
    have hst := Flagwise.get l 0 i o hstep ho' b σ w' (by rw [Nat.zero_add, hb i hil]; exact getD_both hun) hj (fun e he hbd => by
      have := hah' e he hbd
      rw [hb _ (by omega)]
      exact hdep e he hbd)
    rw [Nat.zero_add] at hst
    refine wpOp_mono ?_ hst
    rintro a2 w2 ⟨v, rfl, hj2⟩
    refine ⟨updB b i, updF σ i v, by simpa using hs, fun j hjl => ?_, rfl, hj2⟩
    by_cases e : j = i
    · subst e
      have : j < s.size := by omega
      simp [updB, this]
    · rw [show updB b i j = b j by simp [updB, e], getD_set_ne false (Ne.symm e)]
      exact hb j hjl
  · rintro s a w' ⟨b, σ, hs, hb, rfl, hj⟩ hr
    refine hend b σ w' hj fun i hi => ?_
    rw [hb i hi]
    have all : ∀ n i, i < n → i < l.length → s.getD i false = true := by
      intro n
      induction n with
      | zero => intro i h; omega
      | succ n ih =>
        intro i hin hil
        cases hb : s.getD i false with
        | true => rfl
        | false =>
          exfalso
          have ho : l[i]? = some l[i] := List.getElem?_eq_getElem hil
          have hah' := aheadOps_get l 0 i _ hah ho
          have : i ∈ Region.ready .any l.toArray s := mem_ready.2 ⟨getD_in (by rw [hs]; exact hil) hb, l[i], by simp, fun e he hbd => ih _ (by have := hah' e he hbd; omega) (by have := hah' e he hbd; omega)⟩
          rw [hr] at this
          cases this
    exact all (i + 1) i (by omega) hi
end Go.Proofs.YtbjlfhabnjpdmaaGreatDoor
