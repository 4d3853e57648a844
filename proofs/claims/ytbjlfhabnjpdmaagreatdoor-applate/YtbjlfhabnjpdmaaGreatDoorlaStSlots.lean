/-
  A state all of whose lists may be changed, one without the others: each piece reads in blocks of its own.
-/
import Derived.Test.YtbjlfhabnjpdmaaGreatDoorlaStClone
namespace Go.Proofs.YtbjlfhabnjpdmaaGreatDoor
open Go.RowKit

/-- pieces that read in blocks of Z, each with blocks of its own; what one has as its own no other one reads -/
def Slots (Z : Nat → Prop) (w : World) (P : Nat → World → Prop) (own : Nat → Option Nat) : Prop :=
  ∃ F : Nat → Nat → Prop, (∀ i b, F i b → Z b) ∧ (∀ i, Held (F i) w (P i)) ∧ ∀ i b, own i = some b → F i b ∧ ∀ j, j ≠ i → ¬ F j b
theorem Slots.now {Z : Nat → Prop} {w : World} {P : Nat → World → Prop} {own : Nat → Option Nat} (h : Slots Z w P own) (i : Nat) : P i w := by
  obtain ⟨F, _, h2, _⟩ := h
  exact (h2 i).now
theorem Slots.on {Z : Nat → Prop} {w w' : World} {P : Nat → World → Prop} {own : Nat → Option Nat} (h : Slots Z w P own) (hb : Below 0 w w') (hk : ∀ b, b < w.heap.size → Z b → w'.heap[b]? = w.heap[b]?) : Slots Z w' P own := by
  obtain ⟨F, h1, h2, h3⟩ := h
  exact ⟨F, h1, fun i => (h2 i).on hb fun b hF => hk b ((h2 i).1 b hF) (h1 i b hF), h3⟩
theorem Slots.below {Z : Nat → Prop} {w w' : World} {P : Nat → World → Prop} {own : Nat → Option Nat} (h : Slots Z w P own) (hb : Below w.heap.size w w') : Slots Z w' P own := h.on (hb.mono (Nat.zero_le _)) fun b hlt _ => hb.block b hlt
theorem Slots.wide {Z Z' : Nat → Prop} {w : World} {P : Nat → World → Prop} {own : Nat → Option Nat} (h : Slots Z w P own) (hZ : ∀ b, b < w.heap.size → Z b → Z' b) : Slots Z' w P own := by
  obtain ⟨F, h1, h2, h3⟩ := h
  exact ⟨F, fun i b hF => hZ b ((h2 i).1 b hF) (h1 i b hF), h2, h3⟩
def updP (P : Nat → World → Prop) (i : Nat) (p : World → Prop) : Nat → World → Prop := fun j => if j = i then p else P j
def updO (o : Nat → Option Nat) (i : Nat) (x : Option Nat) : Nat → Option Nat := fun j => if j = i then x else o j
/-- a piece is another one, by a change of its own block alone -/
theorem Slots.turn {Z : Nat → Prop} {w w' : World} {P : Nat → World → Prop} {own : Nat → Option Nat} (h : Slots Z w P own) (i : Nat) {p : World → Prop} {o : Option Nat} (hg : w.grownBy w' (own i)) (G : Nat → Prop) (hG : Held G w' p) (hZ : ∀ b, G b → Z b) (hk : ∀ b, G b → ∀ j, j ≠ i → own j ≠ some b) (ho : ∀ b, o = some b → G b ∧ (own i = some b ∨ w.heap.size ≤ b)) :
    Slots Z w' (updP P i p) (updO own i o) := by
  obtain ⟨F, h1, h2, h3⟩ := h
  refine ⟨fun j b => if j = i then G b else F j b, fun j b hF => ?_, fun j => ?_, fun j b e => ?_⟩
  · by_cases e : j = i
    · have hF' : (if j = i then G b else F j b) := hF
      rw [if_pos e] at hF'
      exact hZ b hF'
    · have hF' : (if j = i then G b else F j b) := hF
      rw [if_neg e] at hF'
      exact h1 j b hF'
  · by_cases e : j = i
    · subst e
      simp only [updP, if_true]
      exact hG
    · simp only [updP, if_neg e]
      exact (h2 j).grown hg fun b hb hF => (h3 i b hb).2 j e hF
  · by_cases ej : j = i
    · subst ej
      simp only [updO, if_true] at e ⊢
      obtain ⟨g1, g2⟩ := ho b e
      refine ⟨g1, fun k hkj => ?_⟩
      rw [if_neg hkj]
      intro hF
      rcases g2 with g2 | g2
      · exact (h3 j b g2).2 k hkj hF
      · have := (h2 k).1 b hF; omega
    · simp only [updO, if_neg ej] at e ⊢
      obtain ⟨g1, g2⟩ := h3 j b e
      refine ⟨g1, fun k hkj => ?_⟩
      by_cases ek : k = i
      · subst ek
        rw [if_pos rfl]
        exact fun hG => hk b hG j ej e
      · rw [if_neg ek]
        exact g2 k hkj
/-- a piece that has nothing of its own is another one that reads where it, and a second one, did -/
theorem Slots.join {Z : Nat → Prop} {w : World} {P : Nat → World → Prop} {own : Nat → Option Nat} (h : Slots Z w P own) (i j : Nat) (hj : own j = none) (hi : own i = none) {p : World → Prop} (hp : ∀ w2, P i w2 → P j w2 → p w2) : Slots Z w (updP P i p) own := by
  obtain ⟨F, h1, h2, h3⟩ := h
  refine ⟨fun k b => F k b ∨ (k = i ∧ F j b), fun k b hF => hF.elim (h1 k b) fun h => h1 j b h.2, fun k => ?_, fun k b e => ?_⟩
  · by_cases e : k = i
    · subst e
      simp only [updP, if_true]
      exact ⟨fun b hF => hF.elim ((h2 k).1 b) fun h => (h2 j).1 b h.2, fun w2 hb hk => hp w2 ((h2 k).2 w2 hb fun b hF => hk b (.inl hF)) ((h2 j).2 w2 hb fun b hF => hk b (.inr ⟨trivial, hF⟩))⟩
    · simp only [updP, if_neg e]
      exact (h2 k).wide (fun b hF => .inl hF) fun b hF => hF.elim ((h2 k).1 b) fun h => absurd h.1 e
  · obtain ⟨g1, g2⟩ := h3 k b e
    refine ⟨.inl g1, fun m hm hF => hF.elim (g2 m hm) fun h => ?_⟩
    refine g2 j (fun ejk => ?_) h.2
    rw [← ejk, hj] at e
    cases e
/-- marks read in their rows -/
def MkE (w : World) (rs : List (List Value)) (l : List Mk) : Prop := rs.length = l.length ∧ ∀ (i : Nat) r x, rs[i]? = some r → l[i]? = some x → MkR w w.heap.size r x
/-- a list of marks in a row of a call's own, and the bytes of its marks, in the blocks from lo to hi, or below N -/
def MkI (N lo hi : Nat) (w : World) (v : Value) (l : List Mk) : Prop := ∃ rs, RowT 99 3 w lo v rs ∧ (∀ b, v.ownBlock = some b → b < hi) ∧ Held (fun b => some b ≠ v.ownBlock ∧ (b < N ∨ lo ≤ b ∧ b < hi)) w (fun w2 => MkE w2 rs l)
theorem MkI.below {N lo hi : Nat} {w w' : World} {v : Value} {l : List Mk} (h : MkI N lo hi w v l) (hb : Below w.heap.size w w') : MkI N lo hi w' v l := by
  obtain ⟨rs, h1, h2, h3⟩ := h
  exact ⟨rs, h1.below hb, h2, h3.below hb⟩
theorem RowsH.marks {N lo : Nat} {w : World} {v : Value} {l : List Mk} (h : RowsH 99 MkR 3 N lo w v l) (hN : N ≤ w.heap.size) : MkI N lo w.heap.size w v l := by
  obtain ⟨rs, h1, h2, h3⟩ := h
  refine ⟨rs, h2, fun b e => (h2.own b e).2, fun b hF => by omega, fun w2 hb hk => ⟨h1, fun i r x hr hx => (h3 i r x hr hx).2 w2 hb fun b hF => hk b ⟨hF.1, ?_⟩⟩⟩
  rcases hF.2.1 with h | h
  · exact .inl h
  · exact .inr ⟨h, hF.2.2⟩
theorem MkI.shape {N lo hi : Nat} {w : World} {v : Value} {l : List Mk} (h : MkI N lo hi w v l) : ∃ oa cap, v = .slice oa l.length cap := by
  obtain ⟨rs, h1, _, h3⟩ := h
  obtain ⟨oa, cap, e, _⟩ := h1.shape
  exact ⟨oa, cap, by rw [e, h3.now.1]⟩
/-- three such lists -/
def MarksO (N base : Nat) (w : World) (s : St) (v4 v5 v6 : Value) : Prop := ∃ r4 r5 r6, (RowT 99 3 w base v4 r4 ∧ RowT 99 3 w base v5 r5 ∧ RowT 99 3 w base v6 r6) ∧ ((∀ b, v4.ownBlock = some b → v5.ownBlock ≠ some b) ∧ (∀ b, v4.ownBlock = some b → v6.ownBlock ≠ some b) ∧ ∀ b, v5.ownBlock = some b → v6.ownBlock ≠ some b) ∧
  Held (fun b => ((b < N ∨ base ≤ b) ∧ b < w.heap.size) ∧ some b ≠ v4.ownBlock ∧ some b ≠ v5.ownBlock ∧ some b ≠ v6.ownBlock) w (fun w2 => MkE w2 r4 s.sent ∧ MkE w2 r5 s.got ∧ MkE w2 r6 s.acks)
theorem MarksO.of {N base : Nat} {w : World} {s : St} {v4 v5 v6 : Value} {a4 z4 a5 z5 a6 z6 : Nat} (h4 : MkI N a4 z4 w v4 s.sent) (h5 : MkI N a5 z5 w v5 s.got) (h6 : MkI N a6 z6 w v6 s.acks) (hN : N ≤ base) (hb : (base ≤ a4 ∧ z4 ≤ w.heap.size) ∧ (base ≤ a5 ∧ z5 ≤ w.heap.size) ∧ (base ≤ a6 ∧ z6 ≤ w.heap.size)) (hNw : N ≤ w.heap.size)
    (d45 : z4 ≤ a5 ∨ z5 ≤ a4) (d46 : z4 ≤ a6 ∨ z6 ≤ a4) (d56 : z5 ≤ a6 ∨ z6 ≤ a5) : MarksO N base w s v4 v5 v6 := by
  obtain ⟨r4, p4, q4, k4⟩ := h4
  obtain ⟨r5, p5, q5, k5⟩ := h5
  obtain ⟨r6, p6, q6, k6⟩ := h6
  have o4 := fun b e => (p4.own b e).1
  have o5 := fun b e => (p5.own b e).1
  have o6 := fun b e => (p6.own b e).1
  refine ⟨r4, r5, r6, ⟨p4.mono (by omega), p5.mono (by omega), p6.mono (by omega)⟩, ⟨fun b e e' => ?_, fun b e e' => ?_, fun b e e' => ?_⟩, fun b hF => hF.1.2, fun w2 hb2 hk => ⟨k4.2 w2 hb2 fun b hF => hk b ⟨⟨by omega, by omega⟩, hF.1, fun e => ?_, fun e => ?_⟩, k5.2 w2 hb2 fun b hF => hk b ⟨⟨by omega, by omega⟩, fun e => ?_, hF.1, fun e => ?_⟩, k6.2 w2 hb2 fun b hF => hk b ⟨⟨by omega, by omega⟩, fun e => ?_, fun e => ?_, hF.1⟩⟩⟩
  · have := o4 b e; have := q4 b e; have := o5 b e'; have := q5 b e'; omega
  · have := o4 b e; have := q4 b e; have := o6 b e'; have := q6 b e'; omega
  · have := o5 b e; have := q5 b e; have := o6 b e'; have := q6 b e'; omega
  · have := o5 b e.symm; have := q5 b e.symm; omega
  · have := o6 b e.symm; have := q6 b e.symm; omega
  · have := o4 b e.symm; have := q4 b e.symm; omega
  · have := o6 b e.symm; have := q6 b e.symm; omega
  · have := o4 b e.symm; have := q4 b e.symm; omega
  · have := o5 b e.symm; have := q5 b e.symm; omega
theorem MarksO.on {N base : Nat} {w w' : World} {s : St} {v4 v5 v6 : Value} (h : MarksO N base w s v4 v5 v6) (hb : Below 0 w w') (hk : ∀ b, b < w.heap.size → b < N ∨ base ≤ b → w'.heap[b]? = w.heap[b]?) : MarksO N base w' s v4 v5 v6 := by
  obtain ⟨r4, r5, r6, ⟨p4, p5, p6⟩, d, k⟩ := h
  exact ⟨r4, r5, r6, ⟨p4.keep fun b e => hk b (p4.own b e).2 (.inr (p4.own b e).1), p5.keep fun b e => hk b (p5.own b e).2 (.inr (p5.own b e).1), p6.keep fun b e => hk b (p6.own b e).2 (.inr (p6.own b e).1)⟩, d, (k.on hb fun b hF => hk b hF.1.2 hF.1.1).wide (fun b hF => ⟨⟨hF.1.1, Nat.lt_of_lt_of_le hF.1.2 hb.size⟩, hF.2⟩) fun b hF => hF.1.2⟩
/-- the pieces of a state; X: one more -/
def stP (base : Nat) (s : St) (X : World → Prop) (v1 v2 v3 v4 v5 v6 v7 : Value) (r4 r5 r6 : List (List Value)) : Nat → World → Prop
  | 1 => fun w => Many ClR 4 w w.heap.size v1 s.clients
  | 2 => fun w => OwnC 81 cnCells 4 w base v2 s.conns
  | 3 => fun w => OwnC 83 chCells 7 w base v3 s.chans
  | 4 => fun w => RowT 99 3 w base v4 r4
  | 5 => fun w => RowT 99 3 w base v5 r5
  | 6 => fun w => RowT 99 3 w base v6 r6
  | 7 => fun w => OwnC 85 puCells 3 w base v7 s.purses
  | 8 => fun w => MkE w r4 s.sent ∧ MkE w r5 s.got ∧ MkE w r6 s.acks
  | 9 => X
  | _ => fun _ => True
def stO (v2 v3 v4 v5 v6 v7 : Value) : Nat → Option Nat
  | 2 => v2.ownBlock
  | 3 => v3.ownBlock
  | 4 => v4.ownBlock
  | 5 => v5.ownBlock
  | 6 => v6.ownBlock
  | 7 => v7.ownBlock
  | _ => none
def noX : World → Prop := fun _ => True
/-- a state all of whose lists may be changed -/
def StOwnM (Z : Nat → Prop) (base : Nat) (w : World) (s : St) (X : World → Prop) (v1 v2 v3 v4 v5 v6 v7 : Value) : Prop := ∃ r4 r5 r6, Slots Z w (stP base s X v1 v2 v3 v4 v5 v6 v7 r4 r5 r6) (stO v2 v3 v4 v5 v6 v7)
theorem mkE_many {w : World} {base : Nat} {v : Value} {rs : List (List Value)} {l : List Mk} (h : RowT 99 3 w base v rs) (he : MkE w rs l) : Many MkR 3 w w.heap.size v l := ⟨rs, he.1, h.recs, he.2⟩
theorem StOwnM.mem {Z : Nat → Prop} {base : Nat} {w : World} {s : St} {X : World → Prop} {v1 v2 v3 v4 v5 v6 v7 : Value} (h : StOwnM Z base w s X v1 v2 v3 v4 v5 v6 v7) : StMem w w.heap.size s v1 v2 v3 v4 v5 v6 v7 := by
  obtain ⟨r4, r5, r6, h⟩ := h
  have h8 := h.now 8
  exact ⟨h.now 1, OwnC.held (h.now 2) |>.now, OwnC.held (h.now 3) |>.now, mkE_many (h.now 4) h8.1, mkE_many (h.now 5) h8.2.1, mkE_many (h.now 6) h8.2.2, OwnC.held (h.now 7) |>.now⟩
theorem StOwnM.on {Z : Nat → Prop} {base : Nat} {w w' : World} {s : St} {X : World → Prop} {v1 v2 v3 v4 v5 v6 v7 : Value} (h : StOwnM Z base w s X v1 v2 v3 v4 v5 v6 v7) (hb : Below 0 w w') (hk : ∀ b, b < w.heap.size → Z b → w'.heap[b]? = w.heap[b]?) : StOwnM Z base w' s X v1 v2 v3 v4 v5 v6 v7 := by
  obtain ⟨r4, r5, r6, h⟩ := h
  exact ⟨r4, r5, r6, h.on hb hk⟩
theorem StOwnM.below {Z : Nat → Prop} {base : Nat} {w w' : World} {s : St} {X : World → Prop} {v1 v2 v3 v4 v5 v6 v7 : Value} (h : StOwnM Z base w s X v1 v2 v3 v4 v5 v6 v7) (hb : Below w.heap.size w w') : StOwnM Z base w' s X v1 v2 v3 v4 v5 v6 v7 := h.on (hb.mono (Nat.zero_le _)) fun b hlt _ => hb.block b hlt
theorem StOwnM.wide {Z Z' : Nat → Prop} {base : Nat} {w : World} {s : St} {X : World → Prop} {v1 v2 v3 v4 v5 v6 v7 : Value} (h : StOwnM Z base w s X v1 v2 v3 v4 v5 v6 v7) (hZ : ∀ b, b < w.heap.size → Z b → Z' b) : StOwnM Z' base w s X v1 v2 v3 v4 v5 v6 v7 := by
  obtain ⟨r4, r5, r6, h⟩ := h
  exact ⟨r4, r5, r6, h.wide hZ⟩
/-- one more piece, whose blocks are no list's -/
theorem StOwnM.add {Z : Nat → Prop} {base : Nat} {w : World} {s : St} {Y X : World → Prop} {v1 v2 v3 v4 v5 v6 v7 : Value} (h : StOwnM Z base w s Y v1 v2 v3 v4 v5 v6 v7) (G : Nat → Prop) (hG : Held G w X) (hZ : ∀ b, G b → Z b) (hn : ∀ b, G b → ∀ i, stO v2 v3 v4 v5 v6 v7 i ≠ some b) : StOwnM Z base w s X v1 v2 v3 v4 v5 v6 v7 := by
  obtain ⟨r4, r5, r6, h⟩ := h
  refine ⟨r4, r5, r6, ?_⟩
  have := h.turn 9 (o := none) (⟨rfl, rfl, rfl, Nat.le_refl _, fun _ _ _ => rfl⟩ : w.grownBy w none) G hG hZ (fun b hb j _ => hn b hb j) (fun b e => by cases e)
  have e1 : updP (stP base s Y v1 v2 v3 v4 v5 v6 v7 r4 r5 r6) 9 X = stP base s X v1 v2 v3 v4 v5 v6 v7 r4 r5 r6 := by
    funext i
    match i with
    | 0 | 1 | 2 | 3 | 4 | 5 | 6 | 7 | 8 | 9 | _ + 10 => first | rfl | simp [updP, stP]
  have e2 : updO (stO v2 v3 v4 v5 v6 v7) 9 none = stO v2 v3 v4 v5 v6 v7 := by
    funext i
    match i with
    | 0 | 1 | 2 | 3 | 4 | 5 | 6 | 7 | 8 | 9 | _ + 10 => first | rfl | simp [updO, stO]
  rw [e1, e2] at this
  exact this
theorem Slots.imp {Z : Nat → Prop} {w : World} {P P' : Nat → World → Prop} {own : Nat → Option Nat} (h : Slots Z w P own) (hp : ∀ i w2, P i w2 → P' i w2) : Slots Z w P' own := by
  obtain ⟨F, h1, h2, h3⟩ := h
  exact ⟨F, h1, fun i => ⟨(h2 i).1, fun w2 hb hk => hp i w2 ((h2 i).2 w2 hb hk)⟩, h3⟩
theorem StOwnM.lower {Z : Nat → Prop} {base base' : Nat} {w : World} {s : St} {X : World → Prop} {v1 v2 v3 v4 v5 v6 v7 : Value} (h : StOwnM Z base w s X v1 v2 v3 v4 v5 v6 v7) (hb : base' ≤ base) : StOwnM Z base' w s X v1 v2 v3 v4 v5 v6 v7 := by
  obtain ⟨r4, r5, r6, h⟩ := h
  refine ⟨r4, r5, r6, h.imp fun i w2 hi => ?_⟩
  match i, hi with
  | 0, _ => trivial
  | 1, hi => exact hi
  | 2, hi => exact RowT.mono hi hb
  | 3, hi => exact RowT.mono hi hb
  | 4, hi => exact RowT.mono hi hb
  | 5, hi => exact RowT.mono hi hb
  | 6, hi => exact RowT.mono hi hb
  | 7, hi => exact RowT.mono hi hb
  | 8, hi => exact hi
  | 9, hi => exact hi
  | _ + 10, _ => trivial
theorem StOwnM.conns {Z : Nat → Prop} {base : Nat} {w : World} {s : St} {X : World → Prop} {v1 v2 v3 v4 v5 v6 v7 : Value} (h : StOwnM Z base w s X v1 v2 v3 v4 v5 v6 v7) : OwnC 81 cnCells 4 w base v2 s.conns := by
  obtain ⟨r4, r5, r6, h⟩ := h
  exact h.now 2
theorem StOwnM.chans {Z : Nat → Prop} {base : Nat} {w : World} {s : St} {X : World → Prop} {v1 v2 v3 v4 v5 v6 v7 : Value} (h : StOwnM Z base w s X v1 v2 v3 v4 v5 v6 v7) : OwnC 83 chCells 7 w base v3 s.chans := by
  obtain ⟨r4, r5, r6, h⟩ := h
  exact h.now 3
/-- what makes such a state -/
theorem StOwnM.make {N base m1 m2 : Nat} {w : World} {s : St} {v1 v2 v3 v4 v5 v6 v7 : Value} (hm : base ≤ m1 ∧ m1 ≤ m2 ∧ N ≤ m1 ∧ m2 ≤ w.heap.size) (h1 : Held (fun b => (b < N ∨ base ≤ b) ∧ b < m1) w (fun w2 => Many ClR 4 w2 w2.heap.size v1 s.clients))
    (h2 : OwnC 81 cnCells 4 w m1 v2 s.conns) (h3 : OwnC 83 chCells 7 w m1 v3 s.chans) (h7 : OwnC 85 puCells 3 w m1 v7 s.purses)
    (t23 : ∀ b, v2.ownBlock = some b → v3.ownBlock ≠ some b) (t27 : ∀ b, v2.ownBlock = some b → v7.ownBlock ≠ some b) (t37 : ∀ b, v3.ownBlock = some b → v7.ownBlock ≠ some b)
    (n2 : ∀ b, v2.ownBlock = some b → b < m2) (n3 : ∀ b, v3.ownBlock = some b → b < m2) (n7 : ∀ b, v7.ownBlock = some b → b < m2) (h4 : MarksO N m2 w s v4 v5 v6) :
    StOwnM (fun b => b < N ∨ base ≤ b) base w s noX v1 v2 v3 v4 v5 v6 v7 := by
  obtain ⟨r4, r5, r6, ⟨p4, p5, p6⟩, ⟨d45, d46, d56⟩, k⟩ := h4
  have o2 := fun b e => RowT.own h2 b e
  have o3 := fun b e => RowT.own h3 b e
  have o7 := fun b e => RowT.own h7 b e
  have o4 := fun b e => RowT.own p4 b e
  have o5 := fun b e => RowT.own p5 b e
  have o6 := fun b e => RowT.own p6 b e
  refine ⟨r4, r5, r6, fun i b => match i with
    | 1 => (b < N ∨ base ≤ b) ∧ b < m1
    | 2 => v2.ownBlock = some b
    | 3 => v3.ownBlock = some b
    | 4 => v4.ownBlock = some b
    | 5 => v5.ownBlock = some b
    | 6 => v6.ownBlock = some b
    | 7 => v7.ownBlock = some b
    | 8 => ((b < N ∨ m2 ≤ b) ∧ b < w.heap.size) ∧ some b ≠ v4.ownBlock ∧ some b ≠ v5.ownBlock ∧ some b ≠ v6.ownBlock
    | _ => False, fun i b hF => ?_, fun i => ?_, fun i b e => ?_⟩
  · match i, hF with
    | 1, hF => exact hF.1
    | 2, hF => have := o2 b hF; omega
    | 3, hF => have := o3 b hF; omega
    | 4, hF => have := o4 b hF; omega
    | 5, hF => have := o5 b hF; omega
    | 6, hF => have := o6 b hF; omega
    | 7, hF => have := o7 b hF; omega
    | 8, hF => have := hF.1.1; omega
  · match i with
    | 0 => exact ⟨fun _ h => h.elim, fun _ _ _ => trivial⟩
    | 1 => exact h1
    | 2 => exact ⟨fun b e => (o2 b e).2, fun w2 _ hk => RowT.mono (RowT.keep h2 fun g e => hk g e) hm.1⟩
    | 3 => exact ⟨fun b e => (o3 b e).2, fun w2 _ hk => RowT.mono (RowT.keep h3 fun g e => hk g e) hm.1⟩
    | 4 => exact ⟨fun b e => (o4 b e).2, fun w2 _ hk => RowT.mono (RowT.keep p4 fun g e => hk g e) (by omega)⟩
    | 5 => exact ⟨fun b e => (o5 b e).2, fun w2 _ hk => RowT.mono (RowT.keep p5 fun g e => hk g e) (by omega)⟩
    | 6 => exact ⟨fun b e => (o6 b e).2, fun w2 _ hk => RowT.mono (RowT.keep p6 fun g e => hk g e) (by omega)⟩
    | 7 => exact ⟨fun b e => (o7 b e).2, fun w2 _ hk => RowT.mono (RowT.keep h7 fun g e => hk g e) hm.1⟩
    | 8 => exact k
    | 9 => exact ⟨fun _ h => h.elim, fun _ _ _ => trivial⟩
    | _ + 10 => exact ⟨fun _ h => h.elim, fun _ _ _ => trivial⟩
  · match i, e with
    | 2, e =>
      refine ⟨e, fun j hj hF => ?_⟩
      have hb := o2 b e
      have hb2 := n2 b e
      match j, hF with
      | 1, hF => have := hF.2; omega
      | 2, _ => exact hj rfl
      | 3, hF => exact t23 b e hF
      | 4, hF => have := o4 b hF; omega
      | 5, hF => have := o5 b hF; omega
      | 6, hF => have := o6 b hF; omega
      | 7, hF => exact t27 b e hF
      | 8, hF => have := hF.1; omega
    | 3, e =>
      refine ⟨e, fun j hj hF => ?_⟩
      have hb := o3 b e
      have hb2 := n3 b e
      match j, hF with
      | 1, hF => have := hF.2; omega
      | 2, hF => exact t23 b hF e
      | 3, _ => exact hj rfl
      | 4, hF => have := o4 b hF; omega
      | 5, hF => have := o5 b hF; omega
      | 6, hF => have := o6 b hF; omega
      | 7, hF => exact t37 b e hF
      | 8, hF => have := hF.1; omega
    | 4, e =>
      refine ⟨e, fun j hj hF => ?_⟩
      have hb := o4 b e
      match j, hF with
      | 1, hF => have := hF.2; omega
      | 2, hF => have := n2 b hF; omega
      | 3, hF => have := n3 b hF; omega
      | 4, _ => exact hj rfl
      | 5, hF => exact d45 b e hF
      | 6, hF => exact d46 b e hF
      | 7, hF => have := n7 b hF; omega
      | 8, hF => exact hF.2.1 e.symm
    | 5, e =>
      refine ⟨e, fun j hj hF => ?_⟩
      have hb := o5 b e
      match j, hF with
      | 1, hF => have := hF.2; omega
      | 2, hF => have := n2 b hF; omega
      | 3, hF => have := n3 b hF; omega
      | 4, hF => exact d45 b hF e
      | 5, _ => exact hj rfl
      | 6, hF => exact d56 b e hF
      | 7, hF => have := n7 b hF; omega
      | 8, hF => exact hF.2.2.1 e.symm
    | 6, e =>
      refine ⟨e, fun j hj hF => ?_⟩
      have hb := o6 b e
      match j, hF with
      | 1, hF => have := hF.2; omega
      | 2, hF => have := n2 b hF; omega
      | 3, hF => have := n3 b hF; omega
      | 4, hF => exact d46 b hF e
      | 5, hF => exact d56 b hF e
      | 6, _ => exact hj rfl
      | 7, hF => have := n7 b hF; omega
      | 8, hF => exact hF.2.2.2 e.symm
    | 7, e =>
      refine ⟨e, fun j hj hF => ?_⟩
      have hb := o7 b e
      have hb2 := n7 b e
      match j, hF with
      | 1, hF => have := hF.2; omega
      | 2, hF => exact t27 b hF e
      | 3, hF => exact t37 b hF e
      | 4, hF => have := o4 b hF; omega
      | 5, hF => have := o5 b hF; omega
      | 6, hF => have := o6 b hF; omega
      | 7, _ => exact hj rfl
      | 8, hF => have := hF.1; omega
/-- .. as the elder texts have it -/
theorem StOwnM.toOwn {N base : Nat} {w : World} {s : St} {X : World → Prop} {v1 v2 v3 v4 v5 v6 v7 : Value} (h : StOwnM (fun b => b < N ∨ base ≤ b) base w s X v1 v2 v3 v4 v5 v6 v7) : StOwn N base w s v1 v2 v3 v4 v5 v6 v7 := by
  obtain ⟨r4, r5, r6, F, h1, h2, h3⟩ := h
  have M : ∀ i, (i = 4 ∨ i = 5 ∨ i = 6) → ∀ (P : World → Prop), (∀ w2, stP base s X v1 v2 v3 v4 v5 v6 v7 r4 r5 r6 i w2 → stP base s X v1 v2 v3 v4 v5 v6 v7 r4 r5 r6 8 w2 → P w2) → Held (fun b => F i b ∨ ((i = 4 ∨ i = 5 ∨ i = 6) ∧ F 8 b)) w P := fun i hi P hP =>
    ⟨fun b hF => hF.elim ((h2 i).1 b) fun h => (h2 8).1 b h.2, fun w2 hb hk => hP w2 ((h2 i).2 w2 hb fun b hF => hk b (.inl hF)) ((h2 8).2 w2 hb fun b hF => hk b (.inr ⟨hi, hF⟩))⟩
  have W : ∀ i, ¬ (i = 4 ∨ i = 5 ∨ i = 6) → ∀ (P : World → Prop), Held (F i) w P → Held (fun b => F i b ∨ ((i = 4 ∨ i = 5 ∨ i = 6) ∧ F 8 b)) w P := fun i hi P hP => hP.wide (fun b hF => .inl hF) fun b hF => hF.elim (hP.1 b) fun h => absurd h.1 hi
  have K : ∀ i b, ¬ (i = 4 ∨ i = 5 ∨ i = 6 ∨ i = 8) → stO v2 v3 v4 v5 v6 v7 i = some b → (F i b ∨ ((i = 4 ∨ i = 5 ∨ i = 6) ∧ F 8 b)) ∧ ∀ j, j ≠ i → ¬ (F j b ∨ ((j = 4 ∨ j = 5 ∨ j = 6) ∧ F 8 b)) := fun i b hi e => by
    obtain ⟨g1, g2⟩ := h3 i b e
    exact ⟨.inl g1, fun j hj hF => hF.elim (g2 j hj) fun h => g2 8 (by omega) h.2⟩
  exact ⟨fun i b => F i b ∨ ((i = 4 ∨ i = 5 ∨ i = 6) ∧ F 8 b), fun i b hF => hF.elim (h1 i b) fun h => h1 8 b h.2, W 1 (by omega) _ (h2 1), (h2 2).now, (h2 3).now, M 4 (.inl rfl) _ (fun w2 g g8 => mkE_many g g8.1), M 5 (.inr (.inl rfl)) _ (fun w2 g g8 => mkE_many g g8.2.1), M 6 (.inr (.inr rfl)) _ (fun w2 g g8 => mkE_many g g8.2.2), (h2 7).now, fun b e => K 2 b (by omega) e, fun b e => K 3 b (by omega) e, fun b e => K 7 b (by omega) e⟩
end Go.Proofs.YtbjlfhabnjpdmaaGreatDoor
