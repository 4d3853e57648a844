/-
  Rows of records of one type that a call owns: appended to, inserted into, deleted from. (Made by rec/mkrec.py.)
  Plain mathematics of clients: what is wrong with them, what they know, believe and learn. No function of the program is named here.
  Plain mathematics of the laws of clients: what is followed twice, by way of another block, or voted for. No function of the program is named here.
  What clients know, in memory: records of four cells behind a slice value; clients and updates as values; rows of what is known that a call owns. No function of the program is named here.
-/
import Derived.Test.YtbjlfhabnjpdmaaGreatDoorlaHdMems
import Derived.Test.YtbjlfhabnjpdmaaGreatDoorlaMemB
namespace Go.Proofs.YtbjlfhabnjpdmaaGreatDoor
open Go.RowKit

theorem infoKn : (Tryz.prog.info? 31).map (fun i => (i.zero, i.size, i.bytes)) = some (some (.agg #[.int .i64 0, .int .i64 0, .slice none 0 0, .slice none 0 0]), 4, 64) := by kernel_rfl
/-- so many cells, each of them one -/
def okKn (r : List Value) : Prop := r.length = 4 ∧ ∀ x ∈ r, x.oneCell' = true
/-- a row that a call owns -/
def RowKn (w : World) (base : Nat) (v : Value) (rs : List (List Value)) : Prop := (∀ r ∈ rs, okKn r) ∧ w.ownsRow base 31 4 v rs.length rs.flatten
theorem RowKn.nil (w : World) (base : Nat) : RowKn w base (.slice none 0 0) [] := ⟨fun _ h => (by cases h), World.ownsRow_nil w base 31 4⟩
theorem RowKn.shape {w : World} {base : Nat} {v : Value} {rs : List (List Value)} (h : RowKn w base v rs) : ∃ oa cap, v = .slice oa rs.length cap ∧ rs.length ≤ cap := by
  obtain ⟨_, _, h2⟩ := h
  rcases h2 with ⟨h3, h4⟩ | ⟨g, cap, cur, h3, _, _, h4, _⟩
  · exact ⟨none, 0, by rw [h4]; exact h3, by omega⟩
  · exact ⟨_, cap, h3, h4⟩
theorem RowKn.below {w w' : World} {base : Nat} {v : Value} {rs : List (List Value)} (h : RowKn w base v rs) (hg : Below w.heap.size w w') : RowKn w' base v rs := ⟨h.1, ownsRow_belowR h.2 hg⟩
theorem RowKn.mono {w : World} {base base' : Nat} {v : Value} {rs : List (List Value)} (h : RowKn w base v rs) (hb : base' ≤ base) : RowKn w base' v rs := by
  obtain ⟨h0, h1, h2⟩ := h
  refine ⟨h0, h1, ?_⟩
  rcases h2 with h2 | ⟨g, cap, cur, h3, h4, h5⟩
  · exact .inl h2
  · exact .inr ⟨g, cap, cur, h3, Nat.le_trans hb h4, h5⟩
theorem RowKn.recs {w : World} {base : Nat} {v : Value} {rs : List (List Value)} (h : RowKn w base v rs) : Recs w w.heap.size v 4 rs := ownsRow_recs h.2 (fun r hr => (h.1 r hr).1)
theorem flatKn_len {rs : List (List Value)} (h : ∀ r ∈ rs, okKn r) : rs.flatten.length = rs.length * 4 := flat_lenR rs (fun r hr => (h r hr).1)
theorem RowKn.row {w : World} {base : Nat} {v : Value} {rs : List (List Value)} (h : RowKn w base v rs) (h0 : 0 < rs.length) : ∃ g c cs, v = .slice (some ⟨g, 0, none⟩) rs.length c ∧ base ≤ g ∧ Row w g 31 cs ∧ rs.length ≤ c ∧ c ≤ maxLen ∧ cs.length = c * 4 ∧ cs.take (rs.length * 4) = rs.flatten := by
  obtain ⟨_, h1, h2⟩ := h
  rcases h2 with ⟨_, h3⟩ | ⟨g, c, cur, h3, h4, h5, h6, h7, h8, h9⟩
  · omega
  · exact ⟨g, c, cur.toList, h3, h4, h5, h6, h7, by simpa using h8, h9⟩
theorem RowKn.of_row {w : World} {base g n c : Nat} {cs : List Value} {rs : List (List Value)} (hok : ∀ r ∈ rs, okKn r) (hb : base ≤ g) (hr : Row w g 31 cs) (hn : n = rs.length) (hc : n ≤ c) (hm : c ≤ maxLen) (hl : cs.length = c * 4) (ht : cs.take (n * 4) = rs.flatten) : RowKn w base (.slice (some ⟨g, 0, none⟩) n c) rs := by
  subst hn
  exact ⟨hok, flatKn_len hok, .inr ⟨g, c, cs.toArray, rfl, hb, hr, hc, hm, by simpa using hl, ht⟩⟩
/-- a row of another type is another block -/
theorem RowKn.apart {w : World} {base g : Nat} {v : Value} {rs : List (List Value)} {t : TypeId} {cs : List Value} (h : RowKn w base v rs) (hr : Row w g t cs) (ht : t ≠ 31) : some g ≠ v.ownBlock := by
  intro he
  rcases h.2.2 with ⟨rfl, _⟩ | ⟨g', c', cur', rfl, _, h8, _⟩
  · simp [Value.ownBlock] at he
  · obtain rfl : g = g' := by simpa [Value.ownBlock] using he
    unfold Row at hr
    rw [hr] at h8
    simp at h8
    exact ht h8.2
/-- what is owned, of another type, outlives what is done with the row -/
theorem RowKn.past {w w' : World} {base b e k n : Nat} {v rv : Value} {xs : List Value} {rs : List (List Value)} (hr : RowKn w base rv rs) (he : e ≠ 31) (h : w.ownsRow b e k v n xs) (hg : w.grownBy w' rv.ownBlock) : w'.ownsRow b e k v n xs := by
  obtain ⟨h1, h2⟩ := h
  refine ⟨h1, ?_⟩
  rcases h2 with h2 | ⟨g, cap, cur, h3, h4, h5, h6⟩
  · exact .inl h2
  · refine .inr ⟨g, cap, cur, h3, h4, (hg.block g (Array.getElem?_eq_some_iff.1 h5).1 ?_).trans h5, h6⟩
    intro hq
    rcases hr.2.2 with ⟨rfl, _⟩ | ⟨g', c', cur', rfl, _, h8, _⟩
    · simp [Value.ownBlock] at hq
    · obtain rfl : g = g' := by simpa [Value.ownBlock] using hq
      rw [h5] at h8
      simp at h8
      exact he h8.2
end Go.Proofs.YtbjlfhabnjpdmaaGreatDoor
namespace Go.Proofs.YtbjlfhabnjpdmaaGreatDoor

/-- what is known of a block -/
structure Kn where
  height : Int
  time : Int
  root : List (BitVec 8)
  next : List (BitVec 8)
/-- a client -/
structure Cl where
  chain : ByteArray
  trust : Int
  frozen : Bool
  known : List Kn
/-- a header that is shown, from a height -/
structure Up where
  frm : Int
  sg : Sg
  trusted : List Vl
def Kn.none : Kn := ⟨0, 0, [], []⟩
def Cl.none : Cl := ⟨⟨#[]⟩, 0, false, []⟩
/-- as many bytes as the reach lets -/
def Kn.fits (k : Kn) : Prop := k.root.length ≤ 140737488351232 ∧ k.next.length ≤ 140737488351232
def Cl.fits (c : Cl) : Prop := c.chain.size ≤ 140737488351232 ∧ c.known.length < 2305843009213693952 ∧ ∀ k ∈ c.known, k.fits
def Up.fits (u : Up) : Prop := u.sg.fits ∧ u.trusted.length < 2305843009213693952 ∧ ∀ v ∈ u.trusted, v.ok

/-- what is wrong with what is known of a block -/
def wrongK (k : Kn) : Int := if k.height < 1 ∨ 1000000000000 < k.height ∨ k.time < 0 ∨ 1000000000000 < k.time then 3 else if k.root.length ≠ 32 ∨ k.next.length ≠ 32 then 2 else 0
theorem wrongK_3 {k : Kn} (h : k.height < 1 ∨ 1000000000000 < k.height ∨ k.time < 0 ∨ 1000000000000 < k.time) : wrongK k = 3 := by unfold wrongK; rw [if_pos h]
theorem wrongK_2 {k : Kn} (h : ¬ (k.height < 1 ∨ 1000000000000 < k.height ∨ k.time < 0 ∨ 1000000000000 < k.time)) (h2 : k.root.length ≠ 32 ∨ k.next.length ≠ 32) : wrongK k = 2 := by unfold wrongK; rw [if_neg h, if_pos h2]
theorem wrongK_0 {k : Kn} (h : ¬ (k.height < 1 ∨ 1000000000000 < k.height ∨ k.time < 0 ∨ 1000000000000 < k.time)) (h2 : ¬ (k.root.length ≠ 32 ∨ k.next.length ≠ 32)) : wrongK k = 0 := by unfold wrongK; rw [if_neg h, if_neg h2]
def aheadI : Option Int → Int → Bool
  | none, _ => false
  | some k, x => decide (x ≤ k)
/-- .. behind one of this height -/
def knGo (p : Option Int) : List Kn → Int
  | [] => 0
  | k :: r => if wrongK k ≠ 0 then wrongK k else if aheadI p k.height = true then 2 else knGo (some k.height) r
/-- the height ahead of the j-th -/
def prevKn (l : List Kn) (j : Nat) : Option Int := if j = 0 then none else (l[j - 1]?).map (·.height)
theorem prevKn_zero (l : List Kn) : prevKn l 0 = none := rfl
theorem prevKn_succ (l : List Kn) (j : Nat) (y : Kn) (h : l[j]? = some y) : prevKn l (j + 1) = some y.height := by simp [prevKn, h]
theorem knGo_at (l : List Kn) (j : Nat) (k : Kn) (h : l[j]? = some k) : knGo (prevKn l j) (l.drop j) =
    if wrongK k ≠ 0 then wrongK k else if aheadI (prevKn l j) k.height = true then 2 else knGo (prevKn l (j + 1)) (l.drop (j + 1)) := by
  obtain ⟨hk, rfl⟩ := List.getElem?_eq_some_iff.1 h
  rw [List.drop_eq_getElem_cons hk, knGo, prevKn_succ l j _ h]
theorem knGo_end (l : List Kn) (k : Nat) (h : l.length ≤ k) : knGo (prevKn l k) (l.drop k) = 0 := by
  rw [List.drop_eq_nil_of_le h, knGo]
/-- heights rise -/
def Rising (l : List Kn) : Prop := l.Pairwise fun a b => a.height < b.height
theorem knGo_iff : ∀ (l : List Kn) (p : Option Int), knGo p l = 0 ↔ (∀ k ∈ l, wrongK k = 0) ∧ (∀ h, p = some h → ∀ k ∈ l, h < k.height) ∧ Rising l
  | [], _ => by simp [knGo, Rising]
  | k :: r, p => by
    rw [knGo]
    constructor
    · intro h
      split at h
      · rename_i h1; exact absurd h h1
      · rename_i h1
        split at h
        · cases h
        · rename_i h2
          obtain ⟨i1, i2, i3⟩ := (knGo_iff r (some k.height)).1 h
          have i2' := i2 k.height rfl
          refine ⟨fun x hx => ?_, fun hh hp x hx => ?_, List.Pairwise.cons (fun x hx => i2' x hx) i3⟩
          · rcases List.mem_cons.1 hx with rfl | hx
            · omega
            · exact i1 x hx
          · subst hp
            simp [aheadI] at h2
            rcases List.mem_cons.1 hx with rfl | hx
            · exact h2
            · exact Int.lt_trans h2 (i2' x hx)
    · rintro ⟨h1, h2, h3⟩
      have h1k := h1 k List.mem_cons_self
      rw [if_neg (by omega), if_neg]
      · refine (knGo_iff r (some k.height)).2 ⟨fun x hx => h1 x (List.mem_cons_of_mem _ hx), fun hh hp x hx => ?_, (List.pairwise_cons.1 h3).2⟩
        obtain rfl : k.height = hh := by simpa using hp
        exact (List.pairwise_cons.1 h3).1 x hx
      · cases p with
        | none => simp [aheadI]
        | some hh =>
          have := h2 hh rfl k List.mem_cons_self
          simp [aheadI]
          omega
def wrongCl (c : Cl) : Int := if nameB c.chain = false then 7 else if c.trust < 1 ∨ 1000000000000 < c.trust then 3 else if c.known.length < 1 ∨ 30 < c.known.length then 5 else knGo none c.known
theorem wrongCl_iff (c : Cl) : wrongCl c = 0 ↔ nameB c.chain = true ∧ (1 ≤ c.trust ∧ c.trust ≤ 1000000000000) ∧ (1 ≤ c.known.length ∧ c.known.length ≤ 30) ∧ (∀ k ∈ c.known, wrongK k = 0) ∧ Rising c.known := by
  unfold wrongCl
  constructor
  · intro h
    split at h
    · cases h
    · rename_i h1
      split at h
      · cases h
      · rename_i h2
        split at h
        · cases h
        · rename_i h3
          obtain ⟨i1, _, i3⟩ := (knGo_iff _ _).1 h
          exact ⟨by simpa using h1, by omega, by omega, i1, i3⟩
  · rintro ⟨h1, h2, h3, h4, h5⟩
    rw [if_neg (by simp [h1]), if_neg (by omega), if_neg (by omega)]
    exact (knGo_iff _ _).2 ⟨h4, fun _ h => (by cases h), h5⟩
theorem wrongCl_7 {c : Cl} (h : nameB c.chain = false) : wrongCl c = 7 := by unfold wrongCl; rw [if_pos h]
theorem wrongCl_3 {c : Cl} (h : nameB c.chain = true) (h2 : c.trust < 1 ∨ 1000000000000 < c.trust) : wrongCl c = 3 := by unfold wrongCl; rw [if_neg (by simp [h]), if_pos h2]
theorem wrongCl_5 {c : Cl} (h : nameB c.chain = true) (h2 : ¬ (c.trust < 1 ∨ 1000000000000 < c.trust)) (h3 : c.known.length < 1 ∨ 30 < c.known.length) : wrongCl c = 5 := by unfold wrongCl; rw [if_neg (by simp [h]), if_neg h2, if_pos h3]
theorem wrongCl_go {c : Cl} (h : nameB c.chain = true) (h2 : ¬ (c.trust < 1 ∨ 1000000000000 < c.trust)) (h3 : ¬ (c.known.length < 1 ∨ 30 < c.known.length)) : wrongCl c = knGo (prevKn c.known 0) (c.known.drop 0) := by
  unfold wrongCl; rw [if_neg (by simp [h]), if_neg h2, if_neg h3]; rfl


theorem Rising.eq {l : List Kn} (h : Rising l) {a b : Kn} (ha : a ∈ l) (hb : b ∈ l) (e : a.height = b.height) : a = b := by
  induction l with
  | nil => cases ha
  | cons x r ih =>
    obtain ⟨h1, h2⟩ := List.pairwise_cons.1 h
    rcases List.mem_cons.1 ha with ha' | ha'
    · rcases List.mem_cons.1 hb with hb' | hb'
      · rw [ha', hb']
      · have := h1 b hb'; rw [← ha'] at this; omega
    · rcases List.mem_cons.1 hb with hb' | hb'
      · have := h1 a ha'; rw [← hb'] at this; omega
      · exact ih h2 ha' hb'





end Go.Proofs.YtbjlfhabnjpdmaaGreatDoor
namespace Go.Proofs.YtbjlfhabnjpdmaaGreatDoor

end Go.Proofs.YtbjlfhabnjpdmaaGreatDoor
namespace Go.Proofs.YtbjlfhabnjpdmaaGreatDoor
open Go.RowKit

/-- what is known of a block, and the two slices that hold its bytes -/
structure KnR where
  k : Kn
  r : Value
  n : Value
def knRow (q : KnR) : List Value := [.int .i64 q.k.height, .int .i64 q.k.time, q.r, q.n]
/-- the slices read as the bytes, in blocks below N -/
def KnR.ok (w : World) (N : Nat) (q : KnR) : Prop := Bytes w N q.r q.k.root ∧ Bytes w N q.n q.k.next
theorem KnR.ok.below {w w' : World} {N : Nat} {q : KnR} (h : q.ok w N) (hg : Below N w w') : q.ok w' N := ⟨h.1.below hg, h.2.below hg⟩
theorem KnR.ok.mono {w : World} {N M : Nat} {q : KnR} (h : q.ok w N) (hN : N ≤ M) : q.ok w M := ⟨h.1.mono hN, h.2.mono hN⟩
theorem KnR.ok.row {w : World} {N : Nat} {q : KnR} (h : q.ok w N) : okKn (knRow q) := by
  obtain ⟨o1, c1, e1, _⟩ := h.1.shape
  obtain ⟨o2, c2, e2, _⟩ := h.2.shape
  refine ⟨rfl, fun x hx => ?_⟩
  simp [knRow] at hx
  rcases hx with rfl | rfl | rfl | rfl
  · rfl
  · rfl
  · rw [e1]; rfl
  · rw [e2]; rfl
theorem knRow_len {ps : List KnR} : ∀ r ∈ ps.map knRow, r.length = 4 := fun r hr => by obtain ⟨_, _, rfl⟩ := List.mem_map.1 hr; rfl
/-- sv is a slice that reads as l, in blocks below N -/
def Knowns (w : World) (N : Nat) (sv : Value) (l : List Kn) : Prop := ∃ ps : List KnR, ps.map (·.k) = l ∧ Recs w N sv 4 (ps.map knRow) ∧ ∀ q ∈ ps, q.ok w N
theorem Knowns.below {w w' : World} {N : Nat} {sv : Value} {l : List Kn} (h : Knowns w N sv l) (hg : Below N w w') : Knowns w' N sv l := by
  obtain ⟨ps, h1, h2, h3⟩ := h
  exact ⟨ps, h1, h2.below hg, fun q hq => (h3 q hq).below hg⟩
theorem Knowns.mono {w : World} {N M : Nat} {sv : Value} {l : List Kn} (h : Knowns w N sv l) (hN : N ≤ M) : Knowns w M sv l := by
  obtain ⟨ps, h1, h2, h3⟩ := h
  exact ⟨ps, h1, h2.mono hN, fun q hq => (h3 q hq).mono hN⟩
theorem Knowns.shape {w : World} {N : Nat} {sv : Value} {l : List Kn} (h : Knowns w N sv l) : ∃ oa cap, sv = .slice oa l.length cap ∧ l.length ≤ cap := by
  obtain ⟨ps, h1, h2, _⟩ := h
  obtain ⟨oa, cap, e1, e2⟩ := h2.shape
  have : (ps.map knRow).length = l.length := by rw [← h1]; simp
  rw [this] at e1 e2
  exact ⟨oa, cap, e1, e2⟩
theorem Knowns.nil (w : World) (N : Nat) : Knowns w N (.slice none 0 0) [] := ⟨[], rfl, .inl ⟨rfl, rfl⟩, fun _ h => by cases h⟩
/-- a record's four cells -/
theorem Knowns.spot {w : World} {N : Nat} {oa : Option Addr} {n cap : Nat} {l : List Kn} (h : Knowns w N (.slice oa n cap) l) (hl : 0 < n) :
    ∃ b off, oa = some ⟨b, off, none⟩ ∧ ∀ i k, l[i]? = some k → b < N ∧ ∃ vr vn, w.cell? ⟨b, off + i * 4, none⟩ = some (.int .i64 k.height) ∧ w.cell? ⟨b, off + i * 4 + 1, none⟩ = some (.int .i64 k.time) ∧ w.cell? ⟨b, off + i * 4 + 2, none⟩ = some vr ∧ w.cell? ⟨b, off + i * 4 + 3, none⟩ = some vn ∧ Bytes w N vr k.root ∧ Bytes w N vn k.next := by
  obtain ⟨ps, h1, h2, h3⟩ := h
  obtain ⟨b, off, e, hc⟩ := h2.spot hl
  refine ⟨b, off, e, fun i k hk => ?_⟩
  rw [← h1, List.getElem?_map] at hk
  obtain ⟨q, hq, rfl⟩ : ∃ q, ps[i]? = some q ∧ q.k = k := by simpa using hk
  obtain ⟨g1, g2⟩ := hc i (knRow q) (by rw [List.getElem?_map, hq]; rfl)
  have hok := h3 q (List.mem_of_getElem? hq)
  exact ⟨g1, q.r, q.n, g2 0 _ rfl, g2 1 _ rfl, g2 2 _ rfl, g2 3 _ rfl, hok.1, hok.2⟩
/-- v reads as what is known of a block -/
def KnV (w : World) (N : Nat) (v : Value) (k : Kn) : Prop := ∃ rv nv, v = .agg #[.int .i64 k.height, .int .i64 k.time, rv, nv] ∧ Bytes w N rv k.root ∧ Bytes w N nv k.next
theorem KnV.below {w w' : World} {N : Nat} {v : Value} {k : Kn} (h : KnV w N v k) (hg : Below N w w') : KnV w' N v k := by
  obtain ⟨rv, nv, rfl, h1, h2⟩ := h
  exact ⟨rv, nv, rfl, h1.below hg, h2.below hg⟩
theorem KnV.mono {w : World} {N M : Nat} {v : Value} {k : Kn} (h : KnV w N v k) (hN : N ≤ M) : KnV w M v k := by
  obtain ⟨rv, nv, rfl, h1, h2⟩ := h
  exact ⟨rv, nv, rfl, h1.mono hN, h2.mono hN⟩
/-- v reads as a client -/
def ClV (w : World) (N : Nat) (v : Value) (c : Cl) : Prop := ∃ kv, v = .agg #[.string c.chain, .int .i64 c.trust, .bool c.frozen, kv] ∧ Knowns w N kv c.known
theorem ClV.below {w w' : World} {N : Nat} {v : Value} {c : Cl} (h : ClV w N v c) (hg : Below N w w') : ClV w' N v c := by
  obtain ⟨kv, rfl, h1⟩ := h
  exact ⟨kv, rfl, h1.below hg⟩
theorem ClV.mono {w : World} {N M : Nat} {v : Value} {c : Cl} (h : ClV w N v c) (hN : N ≤ M) : ClV w M v c := by
  obtain ⟨kv, rfl, h1⟩ := h
  exact ⟨kv, rfl, h1.mono hN⟩
/-- what is known, in a row that a call owns, with bytes that it owns -/
def OwnKn (w : World) (base : Nat) (v : Value) (ps : List KnR) : Prop := RowKn w base v (ps.map knRow) ∧ ∀ q ∈ ps, OwnB w base q.r q.k.root ∧ OwnB w base q.n q.k.next
theorem OwnKn.below {w w' : World} {base : Nat} {v : Value} {ps : List KnR} (h : OwnKn w base v ps) (hg : Below w.heap.size w w') : OwnKn w' base v ps :=
  ⟨h.1.below hg, fun q hq => ⟨ownsRow_belowR (h.2 q hq).1 hg, ownsRow_belowR (h.2 q hq).2 hg⟩⟩
theorem OwnKn.mono {w : World} {base base' : Nat} {v : Value} {ps : List KnR} (h : OwnKn w base v ps) (hb : base' ≤ base) : OwnKn w base' v ps := ⟨h.1.mono hb, fun q hq => ⟨(h.2 q hq).1.mono hb, (h.2 q hq).2.mono hb⟩⟩
theorem OwnKn.shape {w : World} {base : Nat} {v : Value} {ps : List KnR} (h : OwnKn w base v ps) : ∃ oa cap, v = .slice oa ps.length cap ∧ ps.length ≤ cap := by
  obtain ⟨oa, cap, h1, h2⟩ := h.1.shape
  rw [List.length_map] at h1 h2
  exact ⟨oa, cap, h1, h2⟩
theorem OwnKn.knowns {w : World} {base : Nat} {v : Value} {ps : List KnR} (h : OwnKn w base v ps) : Knowns w w.heap.size v (ps.map (·.k)) := ⟨ps, rfl, h.1.recs, fun q hq => ⟨(h.2 q hq).1.bytes, (h.2 q hq).2.bytes⟩⟩
theorem OwnKn.keep {w w' : World} {base : Nat} {v : Value} {ps : List KnR} (h : OwnKn w base v ps) (hk : ∀ g, base ≤ g → w'.heap[g]? = w.heap[g]?) : OwnKn w' base v ps := by
  refine ⟨⟨h.1.1, h.1.2.1, ?_⟩, fun q hq => ⟨(h.2 q hq).1.keep hk, (h.2 q hq).2.keep hk⟩⟩
  rcases h.1.2.2 with h2 | ⟨g, cap, cur, h3, h4, h5, h6⟩
  · exact .inl h2
  · exact .inr ⟨g, cap, cur, h3, h4, (hk g h4).trans h5, h6⟩
/-- what is done with the row leaves its bytes -/
theorem OwnKn.past {w w' : World} {base : Nat} {v v' : Value} {ps ps' : List KnR} (h : OwnKn w base v ps) (hg : w.grownBy w' v.ownBlock) (hr : RowKn w' base v' (ps'.map knRow)) (hm : ∀ q ∈ ps', q ∈ ps ∨ (OwnB w base q.r q.k.root ∧ OwnB w base q.n q.k.next)) : OwnKn w' base v' ps' := by
  refine ⟨hr, fun q hq => ?_⟩
  have key : ∀ q : KnR, OwnB w base q.r q.k.root ∧ OwnB w base q.n q.k.next → OwnB w' base q.r q.k.root ∧ OwnB w' base q.n q.k.next := fun q h1 => ⟨h.1.past (by decide) h1.1 hg, h.1.past (by decide) h1.2 hg⟩
  rcases hm q hq with h1 | h1
  · exact key q (h.2 q h1)
  · exact key q h1
/-- four cells of a row, written one by one -/
def set4 (w : World) (g : Nat) (a b c d : Value) : World := (((w.setCell ⟨g, 0, none⟩ a).setCell ⟨g, 1, none⟩ b).setCell ⟨g, 2, none⟩ c).setCell ⟨g, 3, none⟩ d
theorem set4_row {w : World} {g : Nat} {t : TypeId} {a0 b0 c0 d0 : Value} (h : Row w g t [a0, b0, c0, d0]) (a b c d : Value) : Row (set4 w g a b c d) g t [a, b, c, d] := (((h.set 0 a).set 1 b).set 2 c).set 3 d
theorem set4_other (w : World) (g : Nat) (a b c d : Value) : ∀ k, k ≠ g → (set4 w g a b c d).heap[k]? = w.heap[k]? := fun k hk => by
  unfold set4
  rw [heap_setCell_other _ _ _ _ hk, heap_setCell_other _ _ _ _ hk, heap_setCell_other _ _ _ _ hk, heap_setCell_other _ _ _ _ hk]
theorem set4_below {B : Nat} {w0 w : World} (h : Below B w0 w) {g : Nat} (hg : B ≤ g) (a b c d : Value) : Below B w0 (set4 w g a b c d) := (((h.setCell hg _).setCell hg _).setCell hg _).setCell hg _
theorem Row.four {w : World} {g : Nat} {t : TypeId} {a b c d : Value} (h : Row w g t [a, b, c, d]) :
    (w.cell? ⟨g, 0, none⟩ = some a ∧ w.cell? ⟨g, 1, none⟩ = some b ∧ w.cell? ⟨g, 2, none⟩ = some c ∧ w.cell? ⟨g, 3, none⟩ = some d) ∧ w.frozen? ⟨g, 0, none⟩ = false ∧ w.frozen? ⟨g, 1, none⟩ = false ∧ w.frozen? ⟨g, 2, none⟩ = false ∧ w.frozen? ⟨g, 3, none⟩ = false :=
  ⟨⟨h.cell 0, h.cell 1, h.cell 2, h.cell 3⟩, h.frozen 0, h.frozen 1, h.frozen 2, h.frozen 3⟩
end Go.Proofs.YtbjlfhabnjpdmaaGreatDoor
