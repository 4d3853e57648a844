/-
  Rows of records of one type that a call owns: appended to, inserted into, deleted from. (Made by rec/mkrec.py.)
  Plain mathematics of clients: what is wrong with them, what they know, believe and learn. No function of the program is named here.
  Plain mathematics of the laws of clients: what is followed twice, by way of another block, or voted for. No function of the program is named here.
  What clients know, in memory: records of four cells behind a slice value; clients and updates as values; rows of what is known that a call owns. No function of the program is named here.
-/
import Derived.Test.YtnoaohlajllngaaDoortlHdMems
import Derived.Test.YtnoaohlajllngaaDoortlMemB
namespace Go.Proofs.YtnoaohlajllngaaDoor
open Go.RowKit

/-- so many cells, each of them one -/
def okKn (r : List Value) : Prop := r.length = 4 ∧ ∀ x ∈ r, x.oneCell' = true
end Go.Proofs.YtnoaohlajllngaaDoor
namespace Go.Proofs.YtnoaohlajllngaaDoor

/-- what is known of a block -/
structure Kn where
  height : Int
  time : Int
  root : List (BitVec 8)
  next : List (BitVec 8)
/-- a client -/
structure Cl where
  chain : ByteArray
  trust : Int
  frozen : Bool
  known : List Kn
def Kn.none : Kn := ⟨0, 0, [], []⟩
def Cl.none : Cl := ⟨⟨#[]⟩, 0, false, []⟩
/-- as many bytes as the reach lets -/
def Kn.fits (k : Kn) : Prop := k.root.length ≤ 140737488351232 ∧ k.next.length ≤ 140737488351232
def Cl.fits (c : Cl) : Prop := c.chain.size ≤ 140737488351232 ∧ c.known.length < 2305843009213693952 ∧ ∀ k ∈ c.known, k.fits

/-- what is wrong with what is known of a block -/
def wrongK (k : Kn) : Int := if k.height < 1 ∨ 1000000000000 < k.height ∨ k.time < 0 ∨ 1000000000000 < k.time then 3 else if k.root.length ≠ 32 ∨ k.next.length ≠ 32 then 2 else 0
theorem wrongK_3 {k : Kn} (h : k.height < 1 ∨ 1000000000000 < k.height ∨ k.time < 0 ∨ 1000000000000 < k.time) : wrongK k = 3 := by unfold wrongK; rw [if_pos h]
theorem wrongK_2 {k : Kn} (h : ¬ (k.height < 1 ∨ 1000000000000 < k.height ∨ k.time < 0 ∨ 1000000000000 < k.time)) (h2 : k.root.length ≠ 32 ∨ k.next.length ≠ 32) : wrongK k = 2 := by unfold wrongK; rw [if_neg h, if_pos h2]
theorem wrongK_0 {k : Kn} (h : ¬ (k.height < 1 ∨ 1000000000000 < k.height ∨ k.time < 0 ∨ 1000000000000 < k.time)) (h2 : ¬ (k.root.length ≠ 32 ∨ k.next.length ≠ 32)) : wrongK k = 0 := by unfold wrongK; rw [if_neg h, if_neg h2]
def aheadI : Option Int → Int → Bool
  | none, _ => false
  | some k, x => decide (x ≤ k)
/-- .. behind one of this height -/
def knGo (p : Option Int) : List Kn → Int
  | [] => 0
  | k :: r => if wrongK k ≠ 0 then wrongK k else if aheadI p k.height = true then 2 else knGo (some k.height) r
/-- the height ahead of the j-th -/
def prevKn (l : List Kn) (j : Nat) : Option Int := if j = 0 then none else (l[j - 1]?).map (·.height)
theorem prevKn_zero (l : List Kn) : prevKn l 0 = none := rfl
theorem prevKn_succ (l : List Kn) (j : Nat) (y : Kn) (h : l[j]? = some y) : prevKn l (j + 1) = some y.height := by simp [prevKn, h]
theorem knGo_at (l : List Kn) (j : Nat) (k : Kn) (h : l[j]? = some k) : knGo (prevKn l j) (l.drop j) =
    if wrongK k ≠ 0 then wrongK k else if aheadI (prevKn l j) k.height = true then 2 else knGo (prevKn l (j + 1)) (l.drop (j + 1)) := by
  obtain ⟨hk, rfl⟩ := List.getElem?_eq_some_iff.1 h
  rw [List.drop_eq_getElem_cons hk, knGo, prevKn_succ l j _ h]
theorem knGo_end (l : List Kn) (k : Nat) (h : l.length ≤ k) : knGo (prevKn l k) (l.drop k) = 0 := by
  rw [List.drop_eq_nil_of_le h, knGo]
def wrongCl (c : Cl) : Int := if nameB c.chain = false then 7 else if c.trust < 1 ∨ 1000000000000 < c.trust then 3 else if c.known.length < 1 ∨ 30 < c.known.length then 5 else knGo none c.known
theorem wrongCl_7 {c : Cl} (h : nameB c.chain = false) : wrongCl c = 7 := by unfold wrongCl; rw [if_pos h]
theorem wrongCl_3 {c : Cl} (h : nameB c.chain = true) (h2 : c.trust < 1 ∨ 1000000000000 < c.trust) : wrongCl c = 3 := by unfold wrongCl; rw [if_neg (by simp [h]), if_pos h2]
theorem wrongCl_5 {c : Cl} (h : nameB c.chain = true) (h2 : ¬ (c.trust < 1 ∨ 1000000000000 < c.trust)) (h3 : c.known.length < 1 ∨ 30 < c.known.length) : wrongCl c = 5 := by unfold wrongCl; rw [if_neg (by simp [h]), if_neg h2, if_pos h3]
theorem wrongCl_go {c : Cl} (h : nameB c.chain = true) (h2 : ¬ (c.trust < 1 ∨ 1000000000000 < c.trust)) (h3 : ¬ (c.known.length < 1 ∨ 30 < c.known.length)) : wrongCl c = knGo (prevKn c.known 0) (c.known.drop 0) := by
  unfold wrongCl; rw [if_neg (by simp [h]), if_neg h2, if_neg h3]; rfl







end Go.Proofs.YtnoaohlajllngaaDoor
namespace Go.Proofs.YtnoaohlajllngaaDoor

end Go.Proofs.YtnoaohlajllngaaDoor
namespace Go.Proofs.YtnoaohlajllngaaDoor
open Go.RowKit

/-- what is known of a block, and the two slices that hold its bytes -/
structure KnR where
  k : Kn
  r : Value
  n : Value
def knRow (q : KnR) : List Value := [.int .i64 q.k.height, .int .i64 q.k.time, q.r, q.n]
/-- the slices read as the bytes, in blocks below N -/
def KnR.ok (w : World) (N : Nat) (q : KnR) : Prop := Bytes w N q.r q.k.root ∧ Bytes w N q.n q.k.next
theorem KnR.ok.below {w w' : World} {N : Nat} {q : KnR} (h : q.ok w N) (hg : Below N w w') : q.ok w' N := ⟨h.1.below hg, h.2.below hg⟩
theorem KnR.ok.mono {w : World} {N M : Nat} {q : KnR} (h : q.ok w N) (hN : N ≤ M) : q.ok w M := ⟨h.1.mono hN, h.2.mono hN⟩
theorem KnR.ok.row {w : World} {N : Nat} {q : KnR} (h : q.ok w N) : okKn (knRow q) := by
  obtain ⟨o1, c1, e1, _⟩ := h.1.shape
  obtain ⟨o2, c2, e2, _⟩ := h.2.shape
  refine ⟨rfl, fun x hx => ?_⟩
  simp [knRow] at hx
  rcases hx with rfl | rfl | rfl | rfl
  · rfl
  · rfl
  · rw [e1]; rfl
  · rw [e2]; rfl
/-- sv is a slice that reads as l, in blocks below N -/
def Knowns (w : World) (N : Nat) (sv : Value) (l : List Kn) : Prop := ∃ ps : List KnR, ps.map (·.k) = l ∧ Recs w N sv 4 (ps.map knRow) ∧ ∀ q ∈ ps, q.ok w N
theorem Knowns.below {w w' : World} {N : Nat} {sv : Value} {l : List Kn} (h : Knowns w N sv l) (hg : Below N w w') : Knowns w' N sv l := by
  obtain ⟨ps, h1, h2, h3⟩ := h
  exact ⟨ps, h1, h2.below hg, fun q hq => (h3 q hq).below hg⟩
theorem Knowns.mono {w : World} {N M : Nat} {sv : Value} {l : List Kn} (h : Knowns w N sv l) (hN : N ≤ M) : Knowns w M sv l := by
  obtain ⟨ps, h1, h2, h3⟩ := h
  exact ⟨ps, h1, h2.mono hN, fun q hq => (h3 q hq).mono hN⟩
theorem Knowns.shape {w : World} {N : Nat} {sv : Value} {l : List Kn} (h : Knowns w N sv l) : ∃ oa cap, sv = .slice oa l.length cap ∧ l.length ≤ cap := by
  obtain ⟨ps, h1, h2, _⟩ := h
  obtain ⟨oa, cap, e1, e2⟩ := h2.shape
  have : (ps.map knRow).length = l.length := by rw [← h1]; simp
  rw [this] at e1 e2
  exact ⟨oa, cap, e1, e2⟩
theorem Knowns.nil (w : World) (N : Nat) : Knowns w N (.slice none 0 0) [] := ⟨[], rfl, .inl ⟨rfl, rfl⟩, fun _ h => by cases h⟩
/-- a record's four cells -/
theorem Knowns.spot {w : World} {N : Nat} {oa : Option Addr} {n cap : Nat} {l : List Kn} (h : Knowns w N (.slice oa n cap) l) (hl : 0 < n) :
    ∃ b off, oa = some ⟨b, off, none⟩ ∧ ∀ i k, l[i]? = some k → b < N ∧ ∃ vr vn, w.cell? ⟨b, off + i * 4, none⟩ = some (.int .i64 k.height) ∧ w.cell? ⟨b, off + i * 4 + 1, none⟩ = some (.int .i64 k.time) ∧ w.cell? ⟨b, off + i * 4 + 2, none⟩ = some vr ∧ w.cell? ⟨b, off + i * 4 + 3, none⟩ = some vn ∧ Bytes w N vr k.root ∧ Bytes w N vn k.next := by
  obtain ⟨ps, h1, h2, h3⟩ := h
  obtain ⟨b, off, e, hc⟩ := h2.spot hl
  refine ⟨b, off, e, fun i k hk => ?_⟩
  rw [← h1, List.getElem?_map] at hk
  obtain ⟨q, hq, rfl⟩ : ∃ q, ps[i]? = some q ∧ q.k = k := by simpa using hk
  obtain ⟨g1, g2⟩ := hc i (knRow q) (by rw [List.getElem?_map, hq]; rfl)
  have hok := h3 q (List.mem_of_getElem? hq)
  exact ⟨g1, q.r, q.n, g2 0 _ rfl, g2 1 _ rfl, g2 2 _ rfl, g2 3 _ rfl, hok.1, hok.2⟩
/-- v reads as a client -/
def ClV (w : World) (N : Nat) (v : Value) (c : Cl) : Prop := ∃ kv, v = .agg #[.string c.chain, .int .i64 c.trust, .bool c.frozen, kv] ∧ Knowns w N kv c.known
theorem ClV.below {w w' : World} {N : Nat} {v : Value} {c : Cl} (h : ClV w N v c) (hg : Below N w w') : ClV w' N v c := by
  obtain ⟨kv, rfl, h1⟩ := h
  exact ⟨kv, rfl, h1.below hg⟩
theorem ClV.mono {w : World} {N M : Nat} {v : Value} {c : Cl} (h : ClV w N v c) (hN : N ≤ M) : ClV w M v c := by
  obtain ⟨kv, rfl, h1⟩ := h
  exact ⟨kv, rfl, h1.mono hN⟩
theorem Row.four {w : World} {g : Nat} {t : TypeId} {a b c d : Value} (h : Row w g t [a, b, c, d]) :
    (w.cell? ⟨g, 0, none⟩ = some a ∧ w.cell? ⟨g, 1, none⟩ = some b ∧ w.cell? ⟨g, 2, none⟩ = some c ∧ w.cell? ⟨g, 3, none⟩ = some d) ∧ w.frozen? ⟨g, 0, none⟩ = false ∧ w.frozen? ⟨g, 1, none⟩ = false ∧ w.frozen? ⟨g, 2, none⟩ = false ∧ w.frozen? ⟨g, 3, none⟩ = false :=
  ⟨⟨h.cell 0, h.cell 1, h.cell 2, h.cell 3⟩, h.frozen 0, h.frozen 1, h.frozen 2, h.frozen 3⟩
end Go.Proofs.YtnoaohlajllngaaDoor
