/-
  Packets: what is wrong with one, its digest, marks in their places, and what comes of sending, receiving and settling.
-/
import Derived.Test.YtclhcjiblfokaaaGreatDoorppChMath
namespace Go.Proofs.YtclhcjiblfokaaaGreatDoor
open Go.RowKit

/-- a packet -/
structure Pk where
  src : Int
  dst : Int
  seq : Int
  data : List (BitVec 8)
  tmo : Int
def Pk.none : Pk := ⟨0, 0, 0, [], 0⟩
def Pk.fits (p : Pk) : Prop := p.data.length ≤ 140737488351232
def PkV (w : World) (N : Nat) (v : Value) (p : Pk) : Prop := ∃ dv, v = .agg #[.int .i64 p.src, .int .i64 p.dst, .int .i64 p.seq, dv, .int .i64 p.tmo] ∧ Bytes w N dv p.data
theorem PkV.below {w w' : World} {N : Nat} {v : Value} {p : Pk} (h : PkV w N v p) (hg : Below N w w') : PkV w' N v p := by
  obtain ⟨d, e, h⟩ := h
  exact ⟨d, e, h.below hg⟩
theorem PkV.mono {w : World} {N M : Nat} {v : Value} {p : Pk} (h : PkV w N v p) (hN : N ≤ M) : PkV w M v p := by
  obtain ⟨d, e, h⟩ := h
  exact ⟨d, e, h.mono hN⟩
theorem PkV.open {w : World} {N : Nat} {v : Value} {p : Pk} (h : PkV w N v p) : ∃ od cd, v = .agg #[.int .i64 p.src, .int .i64 p.dst, .int .i64 p.seq, .slice od p.data.length cd, .int .i64 p.tmo] ∧ Bytes w N (.slice od p.data.length cd) p.data := by
  obtain ⟨d, rfl, h⟩ := h
  obtain ⟨od, cd, rfl, -⟩ := h.shape
  exact ⟨od, cd, rfl, h⟩
theorem pkV_none (w : World) (N : Nat) : PkV w N (.agg #[.int .i64 0, .int .i64 0, .int .i64 0, .slice none 0 0, .int .i64 0]) Pk.none := ⟨_, rfl, .inl ⟨rfl, rfl⟩⟩
def wrongPk (p : Pk) : Int := if (fromB 0 p.src && (fromB 0 p.dst && (fromB 1 p.seq && fromB 1 p.tmo))) = false then 3 else if 150 < p.data.length then 4 else 0
theorem wrongPk_ok {p : Pk} (h : wrongPk p = 0) : (0 ≤ p.src ∧ p.src ≤ 1000000000000) ∧ (0 ≤ p.dst ∧ p.dst ≤ 1000000000000) ∧ (1 ≤ p.seq ∧ p.seq ≤ 1000000000000) ∧ (1 ≤ p.tmo ∧ p.tmo ≤ 1000000000000) ∧ p.data.length ≤ 150 := by
  unfold wrongPk at h
  split at h
  · cases h
  rename_i h1
  split at h
  · cases h
  simp at h1
  exact ⟨(fromB_iff _ _).1 h1.1, (fromB_iff _ _).1 h1.2.1, (fromB_iff _ _).1 h1.2.2.1, (fromB_iff _ _).1 h1.2.2.2, by omega⟩
/-- what a packet is written as -/
def pkPcs (p : Pk) : List Pc := [numPc p.src, numPc p.dst, numPc p.seq, ⟨2, 0, p.data⟩, numPc p.tmo]
def pkB (p : Pk) : List (BitVec 8) := numB 5 ++ wrs (pkPcs p)
def digPk (p : Pk) : List (BitVec 8) := sha (pkB p)
theorem pk_wr {p : Pk} (h : wrongPk p = 0) : wrAll (pkPcs p) = .ok (pkB p) ∧ (pkB p).length ≤ 400 ∧ ∀ x ∈ pkPcs p, x.fits := by
  obtain ⟨h1, h2, h3, h4, h5⟩ := wrongPk_ok h
  have n1 := numB_ten p.src.toNat (by omega)
  have n2 := numB_ten p.dst.toNat (by omega)
  have n3 := numB_ten p.seq.toNat (by omega)
  have n4 := numB_ten p.tmo.toNat (by omega)
  have n5 := numB_ten p.data.length (by omega)
  have n6 := numB_ten 5 (by omega)
  have hl : (pkB p).length ≤ 400 := by
    unfold pkB
    simp [wrs, pkPcs, numPc, Pc.wr]
    omega
  refine ⟨?_, hl, ?_⟩
  · unfold wrAll
    rw [if_neg (by simp [pkPcs])]
    exact wrGo_of _ _ _ (fun x hx => by simp [pkPcs, numPc] at hx; rcases hx with rfl | rfl | rfl | rfl | rfl <;> simp) (by have := hl; unfold pkB at this; simp [pkPcs] at this ⊢; omega)
  · intro x hx
    simp [pkPcs, numPc] at hx
    rcases hx with rfl | rfl | rfl | rfl | rfl <;> (refine ⟨?_, ?_⟩ <;> simp [Pc.ok] <;> omega)

/-- what keeps a channel that must stand in one of these ways from going on -/
def cendL (s : St) (i : Int) (l : List Int) : Int := if wrongS s ≠ 0 then wrongS s else if i < 0 ∨ (s.chans.length : Int) ≤ i then 6 else if (chAt s i).state ∈ l then overN s (chAt s i).conn else 12
theorem cendL_ok {s : St} {i : Int} {l : List Int} (h : cendL s i l = 0) : wrongS s = 0 ∧ (0 ≤ i ∧ i < (s.chans.length : Int)) ∧ (chAt s i).state ∈ l ∧ overN s (chAt s i).conn = 0 := by
  unfold cendL at h
  split at h
  · rename_i h1; exact absurd h h1
  rename_i h1
  split at h
  · cases h
  split at h
  · rename_i h2 h3
    exact ⟨by simpa using h1, by omega, h3, h⟩
  · cases h
/-- the client by which a channel is shown what stands on the other chain -/
def folOf (s : St) (i : Int) : Cl := clAt s (cnAt s (chAt s i).conn).client
theorem cendL_fol {s : St} {i : Int} {l : List Int} (h : cendL s i l = 0) : ∃ (j k m : Nat) (c : Ch) (d : Cn) (f : Cl), i = (j : Int) ∧ s.chans[j]? = some c ∧ chAt s i = c ∧ c.conn = (k : Int) ∧ s.conns[k]? = some d ∧ d.client = (m : Int) ∧ s.clients[m]? = some f ∧ folOf s i = f ∧ wrongCh c = 0 ∧ wrongCl f = 0 ∧ activeB f s.time = true := by
  obtain ⟨hw, hi, hm, ho⟩ := cendL_ok h
  obtain ⟨hc, -, -, hl⟩ := overN_ok ho
  have hcl := liveN_ok hl
  obtain ⟨j, rfl⟩ : ∃ j : Nat, i = (j : Int) := ⟨i.toNat, by omega⟩
  obtain ⟨c, hj⟩ : ∃ c, s.chans[j]? = some c := ⟨_, List.getElem?_eq_getElem (by omega)⟩
  have hca := chAt_some hj
  rw [hca] at hc hcl hl
  obtain ⟨k, hk⟩ : ∃ k : Nat, c.conn = (k : Int) := ⟨c.conn.toNat, by omega⟩
  obtain ⟨d, hd⟩ : ∃ d, s.conns[k]? = some d := ⟨_, List.getElem?_eq_getElem (by omega)⟩
  rw [hk, cnAt_some hd] at hcl hl
  obtain ⟨m, hm'⟩ : ∃ m : Nat, d.client = (m : Int) := ⟨d.client.toNat, by omega⟩
  obtain ⟨f, hf⟩ : ∃ f, s.clients[m]? = some f := ⟨_, List.getElem?_eq_getElem (by omega)⟩
  refine ⟨j, k, m, c, d, f, rfl, hj, hca, hk, hd, hm', hf, ?_, (wrongS_right hw).chans c (List.mem_of_getElem? hj), wrongS_client hw f (List.mem_of_getElem? hf), ?_⟩
  · unfold folOf
    rw [hca, hk, cnAt_some hd, hm', clAt_some hf]
  · rw [hm', liveN_at hf] at hl
    cases e : activeB f s.time with
    | true => rfl
    | false => rw [e, if_pos rfl] at hl; cases hl

/-- a mark of a channel and a number -/
def mkIs (ch seq : Int) (m : Mk) : Bool := decide (m.chan = ch ∧ m.seq = seq)
def hasM (l : List Mk) (ch seq : Int) : Option Mk := l.find? (mkIs ch seq)
def withoutM (l : List Mk) (ch seq : Int) : List Mk := l.filter fun m => !mkIs ch seq m
/-- a mark in its place, in the place of one of the same channel and number -/
def withM (l : List Mk) (x : Mk) : List Mk := l.filter (fun m => lessMk m x) ++ x :: l.filter (fun m => lessMk x m)
abbrev SortM (l : List Mk) : Prop := l.Pairwise fun a b => lessMk a b = true
theorem lessMk_asymm {a b : Mk} (h : lessMk a b = true) : lessMk b a = false := by simp [lessMk] at *; omega
theorem mkIs_iff (ch seq : Int) (m : Mk) : mkIs ch seq m = true ↔ m.chan = ch ∧ m.seq = seq := by simp [mkIs]
theorem mk_three (a x : Mk) : lessMk a x = true ∨ mkIs x.chan x.seq a = true ∨ lessMk x a = true := by simp [lessMk, mkIs]; omega
/-- how many marks stand ahead of a place -/
def placeM (l : List Mk) (ch seq : Int) : Nat := (l.filter fun m => lessMk m ⟨ch, seq, []⟩).length
/-- a list that rises, parted at a mark -/
theorem sort_parts : ∀ (l : List Mk) (x : Mk), SortM l → l = l.filter (fun m => lessMk m x) ++ (l.filter (fun m => mkIs x.chan x.seq m) ++ l.filter (fun m => lessMk x m)) ∧ (l.filter fun m => mkIs x.chan x.seq m).length ≤ 1
  | [], x, _ => by simp
  | a :: l, x, h => by
    obtain ⟨h1, h2⟩ := List.pairwise_cons.1 h
    obtain ⟨ih, il⟩ := sort_parts l x h2
    rcases mk_three a x with e | e | e
    · have e2 : lessMk x a = false := lessMk_asymm e
      have e3 : mkIs x.chan x.seq a = false := by simp [lessMk, mkIs] at e ⊢; omega
      simp only [List.filter_cons, e, e2, e3, if_true, Bool.false_eq_true, if_false]
      refine ⟨?_, il⟩
      rw [List.cons_append, ← ih]
    · have e2 : lessMk a x = false := by simp [lessMk, mkIs] at e ⊢; omega
      have e3 : lessMk x a = false := by simp [lessMk, mkIs] at e ⊢; omega
      have k1 : l.filter (fun m => lessMk m x) = [] := List.filter_eq_nil_iff.2 fun m hm => by have := h1 m hm; simp [lessMk, mkIs] at e this ⊢; omega
      have k2 : l.filter (fun m => mkIs x.chan x.seq m) = [] := List.filter_eq_nil_iff.2 fun m hm => by have := h1 m hm; simp [lessMk, mkIs] at e this ⊢; omega
      simp only [List.filter_cons, e, e2, e3, if_true, Bool.false_eq_true, if_false]
      rw [k1, k2] at ih ⊢
      refine ⟨?_, by simp⟩
      simp only [List.nil_append, List.cons_append] at ih ⊢
      rw [← ih]
    · have e2 : lessMk a x = false := lessMk_asymm e
      have e3 : mkIs x.chan x.seq a = false := by simp [lessMk, mkIs] at e ⊢; omega
      have k1 : l.filter (fun m => lessMk m x) = [] := List.filter_eq_nil_iff.2 fun m hm => by have := h1 m hm; simp [lessMk] at e this ⊢; omega
      have k2 : l.filter (fun m => mkIs x.chan x.seq m) = [] := List.filter_eq_nil_iff.2 fun m hm => by have := h1 m hm; simp [lessMk, mkIs] at e this ⊢; omega
      simp only [List.filter_cons, e, e2, e3, if_true, Bool.false_eq_true, if_false]
      rw [k1, k2] at ih ⊢
      refine ⟨?_, by simp⟩
      simp only [List.nil_append] at ih ⊢
      rw [← ih]
theorem hasM_eq (l : List Mk) (ch seq : Int) : hasM l ch seq = (l.filter (mkIs ch seq)).head? := by
  unfold hasM
  rw [List.head?_filter]
theorem hasM_ok {l : List Mk} {ch seq : Int} {m : Mk} (h : hasM l ch seq = some m) : m ∈ l ∧ m.chan = ch ∧ m.seq = seq :=
  ⟨List.mem_of_find?_eq_some h, (mkIs_iff _ _ _).1 (List.find?_some h)⟩
theorem hasM_none {l : List Mk} {ch seq : Int} (h : hasM l ch seq = none) : ∀ m ∈ l, ¬ (m.chan = ch ∧ m.seq = seq) := fun m hm e => by
  have := List.find?_eq_none.1 h m hm
  exact this ((mkIs_iff _ _ _).2 e)
/-- what stands at a place -/
theorem place_at {l : List Mk} {x : Mk} (h : SortM l) {m : Mk} (hm : hasM l x.chan x.seq = some m) : l[placeM l x.chan x.seq]? = some m ∧ l.set (placeM l x.chan x.seq) x = withM l x ∧ l.take (placeM l x.chan x.seq) ++ l.drop (placeM l x.chan x.seq + 1) = withoutM l x.chan x.seq := by
  obtain ⟨hp, hl⟩ := sort_parts l x h
  rw [hasM_eq] at hm
  have he : l.filter (fun m => mkIs x.chan x.seq m) = [m] := by
    cases hf : l.filter (fun m => mkIs x.chan x.seq m) with
    | nil => rw [show l.filter (mkIs x.chan x.seq) = [] from hf] at hm; cases hm
    | cons a r =>
      rw [hf] at hl
      have hr : r = [] := List.length_eq_zero_iff.1 (by simp at hl; exact List.length_eq_zero_iff.2 hl)
      rw [show l.filter (mkIs x.chan x.seq) = a :: r from hf] at hm
      simp at hm
      rw [hr, hm]
  rw [he] at hp
  have hpl : placeM l x.chan x.seq = (l.filter fun m => lessMk m x).length := rfl
  have hw : withoutM l x.chan x.seq = l.filter (fun m => lessMk m x) ++ l.filter (fun m => lessMk x m) := by
    unfold withoutM
    have hm2 : mkIs x.chan x.seq m = true := by
      have : m ∈ l.filter (fun m => mkIs x.chan x.seq m) := by rw [he]; simp
      exact (List.mem_filter.1 this).2
    conv => lhs; rw [hp]
    rw [List.filter_append, List.filter_append]
    have k1 : (l.filter (fun m => lessMk m x)).filter (fun m => !mkIs x.chan x.seq m) = l.filter (fun m => lessMk m x) := List.filter_eq_self.2 fun a ha => by have := (List.mem_filter.1 ha).2; simp [lessMk, mkIs] at this ⊢; omega
    have k2 : (l.filter (fun m => lessMk x m)).filter (fun m => !mkIs x.chan x.seq m) = l.filter (fun m => lessMk x m) := List.filter_eq_self.2 fun a ha => by have := (List.mem_filter.1 ha).2; simp [lessMk, mkIs] at this ⊢; omega
    rw [k1, k2]
    simp [hm2]
  generalize hA : l.filter (fun m => lessMk m x) = A at *
  generalize hB : l.filter (fun m => lessMk x m) = B at *
  rw [hpl]
  refine ⟨?_, ?_, ?_⟩
  · rw [hp]; simp
  · unfold withM
    rw [hA, hB]
    conv => lhs; rw [hp]
    rw [List.set_append_right _ _ (Nat.le_refl _)]
    simp
  · rw [hw]
    conv => lhs; rw [hp]
    simp
theorem place_no {l : List Mk} {x : Mk} (h : SortM l) (hm : hasM l x.chan x.seq = none) : l.take (placeM l x.chan x.seq) ++ x :: l.drop (placeM l x.chan x.seq) = withM l x ∧ withoutM l x.chan x.seq = l := by
  obtain ⟨hp, hl⟩ := sort_parts l x h
  have he : l.filter (fun m => mkIs x.chan x.seq m) = [] := List.filter_eq_nil_iff.2 fun m hm' => by have := hasM_none hm m hm'; simpa [mkIs] using this
  rw [he] at hp
  have hpl : placeM l x.chan x.seq = (l.filter fun m => lessMk m x).length := rfl
  refine ⟨?_, List.filter_eq_self.2 fun m hm' => by have := hasM_none hm m hm'; rw [show mkIs x.chan x.seq m = false from decide_eq_false this]; rfl⟩
  unfold withM
  generalize hA : l.filter (fun m => lessMk m x) = A at *
  generalize hB : l.filter (fun m => lessMk x m) = B at *
  rw [hpl]
  conv => lhs; rw [hp]
  simp
theorem place_le (l : List Mk) (ch seq : Int) : placeM l ch seq ≤ l.length := List.length_filter_le _ _
theorem withM_mem {l : List Mk} {x m : Mk} (h : m ∈ withM l x) : m = x ∨ m ∈ l := by
  unfold withM at h
  rcases List.mem_append.1 h with h | h
  · exact .inr (List.mem_filter.1 h).1
  · rcases List.mem_cons.1 h with h | h
    · exact .inl h
    · exact .inr (List.mem_filter.1 h).1
theorem withM_sort {l : List Mk} {x : Mk} (h : SortM l) : SortM (withM l x) := by
  unfold withM
  refine List.pairwise_append.2 ⟨h.filter _, List.pairwise_cons.2 ⟨fun m hm => (List.mem_filter.1 hm).2, h.filter _⟩, fun a ha b hb => ?_⟩
  have h1 := (List.mem_filter.1 ha).2
  rcases List.mem_cons.1 hb with rfl | hb
  · exact h1
  · exact lessMk_trans h1 (List.mem_filter.1 hb).2
theorem withM_has (l : List Mk) (x : Mk) : hasM (withM l x) x.chan x.seq = some x := by
  unfold hasM withM
  rw [List.find?_append]
  have : (l.filter fun m => lessMk m x).find? (mkIs x.chan x.seq) = none := List.find?_eq_none.2 fun m hm => by have := (List.mem_filter.1 hm).2; simp [lessMk, mkIs] at this ⊢; omega
  rw [this, List.find?_cons_of_pos (by simp [mkIs])]
  rfl
theorem find_of_mem {l : List Mk} (h : SortM l) {m : Mk} (hm : m ∈ l) : hasM l m.chan m.seq = some m := by
  induction l with
  | nil => cases hm
  | cons a l ih =>
    obtain ⟨h1, h2⟩ := List.pairwise_cons.1 h
    unfold hasM
    rcases List.mem_cons.1 hm with rfl | hm
    · rw [List.find?_cons_of_pos (by simp [mkIs])]
    · have := h1 m hm
      rw [List.find?_cons_of_neg (by simp [lessMk, mkIs] at this ⊢; omega)]
      exact ih h2 hm
/-- marks of other channels, or numbers, stay -/
theorem withM_other {l : List Mk} {x : Mk} (h : SortM l) {m : Mk} (hm : m ∈ l) (hne : ¬ (m.chan = x.chan ∧ m.seq = x.seq)) : hasM (withM l x) m.chan m.seq = some m := by
  refine find_of_mem (withM_sort h) ?_
  unfold withM
  rcases mk_three m x with e | e | e
  · exact List.mem_append_left _ (List.mem_filter.2 ⟨hm, e⟩)
  · exact absurd ((mkIs_iff _ _ _).1 e) hne
  · exact List.mem_append_right _ (List.mem_cons_of_mem _ (List.mem_filter.2 ⟨hm, e⟩))
theorem withoutM_other {l : List Mk} {ch seq : Int} (h : SortM l) {m : Mk} (hm : m ∈ l) (hne : ¬ (m.chan = ch ∧ m.seq = seq)) : hasM (withoutM l ch seq) m.chan m.seq = some m :=
  find_of_mem (h.filter _) (List.mem_filter.2 ⟨hm, by rw [show mkIs ch seq m = false from decide_eq_false hne]; rfl⟩)
theorem withoutM_has (l : List Mk) (ch seq : Int) : hasM (withoutM l ch seq) ch seq = none := List.find?_eq_none.2 fun m hm => by have := (List.mem_filter.1 hm).2; simpa using this
theorem withM_len (l : List Mk) (x : Mk) (h : SortM l) : l.length ≤ (withM l x).length ∧ (withM l x).length ≤ l.length + 1 := by
  obtain ⟨hp, hl⟩ := sort_parts l x h
  have h1 := congrArg List.length hp
  unfold withM
  simp only [List.length_append, List.length_cons] at h1 ⊢
  omega
theorem withoutM_len (l : List Mk) (ch seq : Int) : (withoutM l ch seq).length ≤ l.length := List.length_filter_le _ _
/-- a list of marks that rises is right -/
theorem upGo_of {l : List Mk} : ∀ (p : Option Mk), (∀ m ∈ l, wrongMk m = 0) → SortM l → (∀ a, p = some a → ∀ m ∈ l, lessMk a m = true) → upGo wrongMk lessMk p l = 0 := by
  induction l with
  | nil => intros; rfl
  | cons x l ih =>
    intro p h1 h2 h3
    obtain ⟨g1, g2⟩ := List.pairwise_cons.1 h2
    rw [upGo, if_neg (by simp [h1 x List.mem_cons_self])]
    have : aheadOk lessMk p x = true := by
      cases p with
      | none => rfl
      | some a => exact h3 a rfl x List.mem_cons_self
    rw [this, if_neg (by simp)]
    exact ih (some x) (fun m hm => h1 m (List.mem_cons_of_mem _ hm)) g2 (fun a ha m hm => by cases ha; exact g1 m hm)
theorem marksN_of {l : List Mk} (h1 : ∀ m ∈ l, wrongMk m = 0) (h2 : SortM l) : marksN l = 0 := upGo_of none h1 h2 (fun _ h => by cases h)
theorem withM_right {l : List Mk} {x : Mk} (h : marksN l = 0) (hx : wrongMk x = 0) : marksN (withM l x) = 0 := by
  obtain ⟨h1, h2⟩ := marksN_ok h
  exact marksN_of (fun m hm => by rcases withM_mem hm with rfl | hm; exact hx; exact h1 m hm) (withM_sort h2)
theorem withoutM_right {l : List Mk} {ch seq : Int} (h : marksN l = 0) : marksN (withoutM l ch seq) = 0 := by
  obtain ⟨h1, h2⟩ := marksN_ok h
  exact marksN_of (fun m hm => h1 m (List.mem_filter.1 hm).1) (h2.filter _)

/-- the last height that a client knows -/
def lastH (c : Cl) : Int := match c.known.getLast? with
  | some k => k.height
  | none => 0
def sendPk (s : St) (i : Int) (data : List (BitVec 8)) (tmo : Int) : Pk := ⟨i, (chAt s i).ochan, (chAt s i).send, data, tmo⟩
/-- what keeps a packet from being sent by an end -/
def outN (s : St) (p : Pk) (last send : Int) : Int := if wrongPk p ≠ 0 then wrongPk p else if p.tmo ≤ last then 11 else if 50 ≤ s.sent.length ∨ 1000000000000 ≤ send then 5 else 0
def sendN (s : St) (i : Int) (data : List (BitVec 8)) (tmo : Int) : Int := if cendL s i [3] ≠ 0 then cendL s i [3] else outN s (sendPk s i data tmo) (lastH (folOf s i)) (chAt s i).send
def Ch.sent1 (c : Ch) : Ch := ⟨c.state, c.ordered, c.conn, c.ochan, c.send + 1, c.recv, c.ack⟩
def Ch.recv1 (c : Ch) : Ch := ⟨c.state, c.ordered, c.conn, c.ochan, c.send, c.recv + 1, c.ack⟩
def Ch.ack1 (c : Ch) : Ch := ⟨c.state, c.ordered, c.conn, c.ochan, c.send, c.recv, c.ack + 1⟩
def Ch.shut (c : Ch) : Ch := ⟨4, c.ordered, c.conn, c.ochan, c.send, c.recv, c.ack⟩
def setCh (s : St) (i : Int) (c : Ch) : St := { s with chans := s.chans.set i.toNat c }
def sentS (s : St) (p : Pk) : St := { setCh s p.src (chAt s p.src).sent1 with sent := withM s.sent ⟨p.src, p.seq, digPk p⟩ }
def sendS (s : St) (i : Int) (data : List (BitVec 8)) (tmo : Int) : St := if sendN s i data tmo = 0 then sentS s (sendPk s i data tmo) else St.none
def sendP (s : St) (i : Int) (data : List (BitVec 8)) (tmo : Int) : Pk := if sendN s i data tmo = 0 then sendPk s i data tmo else Pk.none
/-- it is not a packet's turn -/
def turnB (s : St) (c : Ch) (p : Pk) : Bool := if c.ordered = true then decide (p.seq ≠ c.recv) else (hasM s.got p.dst p.seq).isSome
def rcvrN (s : St) (p : Pk) (n : Nat) : Int := if wrongPk p ≠ 0 then wrongPk p else if cendL s p.dst [3] ≠ 0 then cendL s p.dst [3] else if (chAt s p.dst).ochan ≠ p.src then 8 else if p.tmo ≤ s.height then 11
  else if turnB s (chAt s p.dst) p = true then 12 else if (50 ≤ s.got.length ∨ 50 ≤ s.acks.length) ∨ 150 < n ∨ 1000000000000 ≤ (chAt s p.dst).recv then 5 else 0
def recvN (s : St) (p : Pk) (n : Nat) (z : Int) : Int := if rcvrN s p n ≠ 0 then rcvrN s p n else z
def askRecv (s : St) (p : Pk) (h : Sh) (z : Int) : Prop := ShownN (folOf s p.dst) s.time h.height (fun r => h.prf.key = keyL kwSent [p.src.toNat, p.seq.toNat] ∧ h.prf.val = digPk p ∧ shownB r h.prf) z
def gotS (s : St) (p : Pk) (ack : List (BitVec 8)) : St := { (if (chAt s p.dst).ordered = true then setCh s p.dst (chAt s p.dst).recv1 else { s with got := withM s.got ⟨p.dst, p.seq, digPk p⟩ }) with acks := withM s.acks ⟨p.dst, p.seq, sha ack⟩ }
def recvS (s : St) (p : Pk) (ack : List (BitVec 8)) (z : Int) : St := if recvN s p ack.length z = 0 then gotS s p ack else St.none
/-- what keeps an end from having sent a packet -/
def sndrN (s : St) (p : Pk) : Int := if wrongPk p ≠ 0 then wrongPk p else if cendL s p.src [3, 4] ≠ 0 then cendL s p.src [3, 4] else if (chAt s p.src).ochan ≠ p.dst then 8 else match hasM s.sent p.src p.seq with
  | none => 6
  | some m => if m.dig ≠ digPk p then 8 else 0
def doneN (c : Ch) (p : Pk) (n : Nat) (z : Int) : Int := if 150 < n then 4 else if c.ordered = true ∧ p.seq ≠ c.ack then 12 else if c.ordered = true ∧ 1000000000000 ≤ c.ack then 5 else z
def packN (s : St) (p : Pk) (n : Nat) (z : Int) : Int := if sndrN s p ≠ 0 then sndrN s p else doneN (chAt s p.src) p n z
def askDone (s : St) (p : Pk) (ack : List (BitVec 8)) (h : Sh) (z : Int) : Prop := ShownN (folOf s p.src) s.time h.height (fun r => h.prf.key = keyL kwAck [p.dst.toNat, p.seq.toNat] ∧ h.prf.val = sha ack ∧ shownB r h.prf) z
def lateC (c : Ch) (p : Pk) (next : Int) (height z : Int) : Int := if height < p.tmo then 11 else if c.ordered = true ∧ (next < 1 ∨ p.seq < next) then 12 else z
def lateN (s : St) (p : Pk) (next : Int) (height z : Int) : Int := if sndrN s p ≠ 0 then sndrN s p else lateC (chAt s p.src) p next height z
def askLate (s : St) (p : Pk) (next : Int) (h : Sh) (z : Int) : Prop := if (chAt s p.src).ordered = true then ShownN (folOf s p.src) s.time h.height (fun r => h.prf.key = keyL kwNext [p.dst.toNat] ∧ h.prf.val = numsB [next] ∧ shownB r h.prf) z
  else ShownN (folOf s p.src) s.time h.height (fun r => absentB r (keyL kwGot [p.dst.toNat, p.seq.toNat]) h.gap) z
def goneS (s : St) (p : Pk) (c : Ch) : St := { (if (chAt s p.src).ordered = true then setCh s p.src c else s) with sent := withoutM s.sent p.src p.seq }
def packS (s : St) (p : Pk) (n : Nat) (z : Int) : St := if packN s p n z = 0 then goneS s p (chAt s p.src).ack1 else St.none
def lateS (s : St) (p : Pk) (next height z : Int) : St := if lateN s p next height z = 0 then goneS s p (chAt s p.src).shut else St.none
end Go.Proofs.YtclhcjiblfokaaaGreatDoor
