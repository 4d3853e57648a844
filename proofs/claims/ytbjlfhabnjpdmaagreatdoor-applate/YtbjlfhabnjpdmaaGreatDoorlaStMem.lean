/-
  Slices of records, and what reads as a state.
-/
import Derived.Test.YtbjlfhabnjpdmaaGreatDoorlaStMath
namespace Go.Proofs.YtbjlfhabnjpdmaaGreatDoor
open Go.RowKit

/-- sv is a slice whose entries are rows of k cells that read as those of l -/
def Many {α : Type} (R : World → Nat → List Value → α → Prop) (k : Nat) (w : World) (N : Nat) (sv : Value) (l : List α) : Prop :=
  ∃ rs : List (List Value), rs.length = l.length ∧ Recs w N sv k rs ∧ ∀ (i : Nat) r x, rs[i]? = some r → l[i]? = some x → R w N r x
/-- what stays true as memory grows -/
structure Stays {α : Type} (R : World → Nat → List Value → α → Prop) : Prop where
  below : ∀ {w w' : World} {N : Nat} {r : List Value} {x : α}, R w N r x → Below N w w' → R w' N r x
  mono : ∀ {w : World} {N M : Nat} {r : List Value} {x : α}, R w N r x → N ≤ M → R w M r x
theorem Many.below {α : Type} {R : World → Nat → List Value → α → Prop} {k : Nat} {w w' : World} {N : Nat} {sv : Value} {l : List α} (hR : Stays R) (h : Many R k w N sv l) (hg : Below N w w') : Many R k w' N sv l := by
  obtain ⟨rs, h1, h2, h3⟩ := h
  exact ⟨rs, h1, h2.below hg, fun i r x hr hx => hR.below (h3 i r x hr hx) hg⟩
theorem Many.mono {α : Type} {R : World → Nat → List Value → α → Prop} {k : Nat} {w : World} {N M : Nat} {sv : Value} {l : List α} (hR : Stays R) (h : Many R k w N sv l) (hN : N ≤ M) : Many R k w M sv l := by
  obtain ⟨rs, h1, h2, h3⟩ := h
  exact ⟨rs, h1, h2.mono hN, fun i r x hr hx => hR.mono (h3 i r x hr hx) hN⟩
theorem Many.shape {α : Type} {R : World → Nat → List Value → α → Prop} {k : Nat} {w : World} {N : Nat} {sv : Value} {l : List α} (h : Many R k w N sv l) : ∃ oa cap, sv = .slice oa l.length cap ∧ l.length ≤ cap := by
  obtain ⟨rs, h1, h2, -⟩ := h
  obtain ⟨oa, cap, h4, h5⟩ := h2.shape
  exact ⟨oa, cap, by rw [h4, h1], by omega⟩
theorem Many.nil {α : Type} (R : World → Nat → List Value → α → Prop) (k : Nat) (w : World) (N : Nat) : Many R k w N (.slice none 0 0) [] := ⟨[], rfl, .inl ⟨rfl, rfl⟩, fun i r x h => by simp at h⟩
theorem Many.spot {α : Type} {R : World → Nat → List Value → α → Prop} {k : Nat} {w : World} {N : Nat} {oa : Option Addr} {n cap : Nat} {l : List α} (h : Many R k w N (.slice oa n cap) l) (hl : 0 < n) :
    ∃ b off, oa = some ⟨b, off, none⟩ ∧ ∀ (i : Nat) x, l[i]? = some x → b < N ∧ ∃ r, R w N r x ∧ ∀ (j : Nat) v, r[j]? = some v → w.cell? ⟨b, off + i * k + j, none⟩ = some v := by
  obtain ⟨rs, h1, h2, h3⟩ := h
  obtain ⟨b, off, e, hc⟩ := h2.spot hl
  refine ⟨b, off, e, fun i x hx => ?_⟩
  have hi : i < rs.length := by rw [h1]; exact (List.getElem?_eq_some_iff.1 hx).1
  obtain ⟨r, hr⟩ : ∃ r, rs[i]? = some r := ⟨_, List.getElem?_eq_getElem hi⟩
  obtain ⟨g1, g2⟩ := hc i r hr
  exact ⟨g1, r, h3 i r x hr hx, g2⟩

def cnCells (c : Cn) : List Value := [.int .i64 c.state, .int .i64 c.client, .int .i64 c.oclient, .int .i64 c.oconn]
def chCells (c : Ch) : List Value := [.int .i64 c.state, .bool c.ordered, .int .i64 c.conn, .int .i64 c.ochan, .int .i64 c.send, .int .i64 c.recv, .int .i64 c.ack]
def puCells (p : Pu) : List Value := [.string p.owner, .string p.denom, .int .u64 (p.amount : Int)]
def CnR (_ : World) (_ : Nat) (r : List Value) (c : Cn) : Prop := r = cnCells c
def ChR (_ : World) (_ : Nat) (r : List Value) (c : Ch) : Prop := r = chCells c
def PuR (_ : World) (_ : Nat) (r : List Value) (p : Pu) : Prop := r = puCells p
def MkR (w : World) (N : Nat) (r : List Value) (m : Mk) : Prop := ∃ v, r = [.int .i64 m.chan, .int .i64 m.seq, v] ∧ Bytes w N v m.dig
def ClR (w : World) (N : Nat) (r : List Value) (c : Cl) : Prop := ∃ kv, r = [.string c.chain, .int .i64 c.trust, .bool c.frozen, kv] ∧ Knowns w N kv c.known
theorem CnR.stays : Stays CnR := ⟨fun h _ => h, fun h _ => h⟩
theorem ChR.stays : Stays ChR := ⟨fun h _ => h, fun h _ => h⟩
theorem PuR.stays : Stays PuR := ⟨fun h _ => h, fun h _ => h⟩
theorem MkR.stays : Stays MkR := ⟨fun ⟨v, h1, h2⟩ hg => ⟨v, h1, h2.below hg⟩, fun ⟨v, h1, h2⟩ hg => ⟨v, h1, h2.mono hg⟩⟩
theorem ClR.stays : Stays ClR := ⟨fun ⟨v, h1, h2⟩ hg => ⟨v, h1, h2.below hg⟩, fun ⟨v, h1, h2⟩ hg => ⟨v, h1, h2.mono hg⟩⟩
/-- what reads as a state -/
structure StMem (w : World) (N : Nat) (s : St) (v1 v2 v3 v4 v5 v6 v7 : Value) : Prop where
  clients : Many ClR 4 w N v1 s.clients
  conns : Many CnR 4 w N v2 s.conns
  chans : Many ChR 7 w N v3 s.chans
  sent : Many MkR 3 w N v4 s.sent
  got : Many MkR 3 w N v5 s.got
  acks : Many MkR 3 w N v6 s.acks
  purses : Many PuR 3 w N v7 s.purses
theorem StMem.below {w w' : World} {N : Nat} {s : St} {v1 v2 v3 v4 v5 v6 v7 : Value} (h : StMem w N s v1 v2 v3 v4 v5 v6 v7) (hg : Below N w w') : StMem w' N s v1 v2 v3 v4 v5 v6 v7 :=
  ⟨h.clients.below ClR.stays hg, h.conns.below CnR.stays hg, h.chans.below ChR.stays hg, h.sent.below MkR.stays hg, h.got.below MkR.stays hg, h.acks.below MkR.stays hg, h.purses.below PuR.stays hg⟩
theorem StMem.mono {w : World} {N M : Nat} {s : St} {v1 v2 v3 v4 v5 v6 v7 : Value} (h : StMem w N s v1 v2 v3 v4 v5 v6 v7) (hN : N ≤ M) : StMem w M s v1 v2 v3 v4 v5 v6 v7 :=
  ⟨h.clients.mono ClR.stays hN, h.conns.mono CnR.stays hN, h.chans.mono ChR.stays hN, h.sent.mono MkR.stays hN, h.got.mono MkR.stays hN, h.acks.mono MkR.stays hN, h.purses.mono PuR.stays hN⟩
def StV (w : World) (N : Nat) (v : Value) (s : St) : Prop := ∃ v1 v2 v3 v4 v5 v6 v7, v = .agg #[.string s.name, .int .i64 s.height, .int .i64 s.time, v1, v2, v3, v4, v5, v6, v7] ∧ StMem w N s v1 v2 v3 v4 v5 v6 v7
theorem StV.below {w w' : World} {N : Nat} {v : Value} {s : St} (h : StV w N v s) (hg : Below N w w') : StV w' N v s := by
  obtain ⟨v1, v2, v3, v4, v5, v6, v7, e, h⟩ := h
  exact ⟨v1, v2, v3, v4, v5, v6, v7, e, h.below hg⟩
theorem StV.mono {w : World} {N M : Nat} {v : Value} {s : St} (h : StV w N v s) (hN : N ≤ M) : StV w M v s := by
  obtain ⟨v1, v2, v3, v4, v5, v6, v7, e, h⟩ := h
  exact ⟨v1, v2, v3, v4, v5, v6, v7, e, h.mono hN⟩
/-- .. its slices in the open -/
theorem StV.open {w : World} {N : Nat} {v : Value} {s : St} (h : StV w N v s) : ∃ o1 c1 o2 c2 o3 c3 o4 c4 o5 c5 o6 c6 o7 c7, v = .agg #[.string s.name, .int .i64 s.height, .int .i64 s.time, .slice o1 s.clients.length c1, .slice o2 s.conns.length c2, .slice o3 s.chans.length c3, .slice o4 s.sent.length c4, .slice o5 s.got.length c5, .slice o6 s.acks.length c6, .slice o7 s.purses.length c7] ∧
    StMem w N s (.slice o1 s.clients.length c1) (.slice o2 s.conns.length c2) (.slice o3 s.chans.length c3) (.slice o4 s.sent.length c4) (.slice o5 s.got.length c5) (.slice o6 s.acks.length c6) (.slice o7 s.purses.length c7) := by
  obtain ⟨v1, v2, v3, v4, v5, v6, v7, rfl, h⟩ := h
  obtain ⟨o1, c1, rfl, -⟩ := h.clients.shape
  obtain ⟨o2, c2, rfl, -⟩ := h.conns.shape
  obtain ⟨o3, c3, rfl, -⟩ := h.chans.shape
  obtain ⟨o4, c4, rfl, -⟩ := h.sent.shape
  obtain ⟨o5, c5, rfl, -⟩ := h.got.shape
  obtain ⟨o6, c6, rfl, -⟩ := h.acks.shape
  obtain ⟨o7, c7, rfl, -⟩ := h.purses.shape
  exact ⟨_, _, _, _, _, _, _, _, _, _, _, _, _, _, rfl, h⟩
end Go.Proofs.YtbjlfhabnjpdmaaGreatDoor
