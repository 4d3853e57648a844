/-
  Packets: what is wrong with one, its digest, marks in their places, and what comes of sending, receiving and settling.
-/
import Derived.Test.YtbjlfhabnjpdmaaGreatDoorlaCoMath
namespace Go.Proofs.YtbjlfhabnjpdmaaGreatDoor
open Go.RowKit

/-- a connection's cells, a channel's -/
theorem Many.conn {w : World} {N k n cap : Nat} {oa : Option Addr} {l : List Cn} {x : Cn} (h : Many CnR 4 w N (.slice oa n cap) l) (hn : n = l.length) (hx : l[k]? = some x) : ∃ b f, oa = some ⟨b, f, none⟩ ∧ b < N ∧ w.cell? ⟨b, f + k * 4, none⟩ = some (.int .i64 x.state) ∧ w.cell? ⟨b, f + k * 4 + 1, none⟩ = some (.int .i64 x.client) ∧ w.cell? ⟨b, f + k * 4 + 2, none⟩ = some (.int .i64 x.oclient) ∧ w.cell? ⟨b, f + k * 4 + 3, none⟩ = some (.int .i64 x.oconn) := by
  have := (List.getElem?_eq_some_iff.1 hx).1
  obtain ⟨b, f, rfl, gx⟩ := h.spot (by omega)
  obtain ⟨hb, r, hr, cx⟩ := gx k x hx
  subst hr
  exact ⟨b, f, rfl, hb, cx 0 _ rfl, cx 1 _ rfl, cx 2 _ rfl, cx 3 _ rfl⟩
theorem Many.chan {w : World} {N k n cap : Nat} {oa : Option Addr} {l : List Ch} {x : Ch} (h : Many ChR 7 w N (.slice oa n cap) l) (hn : n = l.length) (hx : l[k]? = some x) : ∃ b f, oa = some ⟨b, f, none⟩ ∧ b < N ∧ w.cell? ⟨b, f + k * 7, none⟩ = some (.int .i64 x.state) ∧ w.cell? ⟨b, f + k * 7 + 1, none⟩ = some (.bool x.ordered) ∧ w.cell? ⟨b, f + k * 7 + 2, none⟩ = some (.int .i64 x.conn) ∧ w.cell? ⟨b, f + k * 7 + 3, none⟩ = some (.int .i64 x.ochan) ∧ w.cell? ⟨b, f + k * 7 + 4, none⟩ = some (.int .i64 x.send) ∧ w.cell? ⟨b, f + k * 7 + 5, none⟩ = some (.int .i64 x.recv) ∧ w.cell? ⟨b, f + k * 7 + 6, none⟩ = some (.int .i64 x.ack) := by
  have := (List.getElem?_eq_some_iff.1 hx).1
  obtain ⟨b, f, rfl, gx⟩ := h.spot (by omega)
  obtain ⟨hb, r, hr, cx⟩ := gx k x hx
  subst hr
  exact ⟨b, f, rfl, hb, cx 0 _ rfl, cx 1 _ rfl, cx 2 _ rfl, cx 3 _ rfl, cx 4 _ rfl, cx 5 _ rfl, cx 6 _ rfl⟩
end Go.Proofs.YtbjlfhabnjpdmaaGreatDoor
namespace Go.Proofs.YtbjlfhabnjpdmaaGreatDoor
open Go.RowKit

/-- a packet -/
structure Pk where
  src : Int
  dst : Int
  seq : Int
  data : List (BitVec 8)
  tmo : Int
def Pk.none : Pk := ⟨0, 0, 0, [], 0⟩
def Pk.fits (p : Pk) : Prop := p.data.length ≤ 140737488351232
def PkV (w : World) (N : Nat) (v : Value) (p : Pk) : Prop := ∃ dv, v = .agg #[.int .i64 p.src, .int .i64 p.dst, .int .i64 p.seq, dv, .int .i64 p.tmo] ∧ Bytes w N dv p.data
theorem PkV.below {w w' : World} {N : Nat} {v : Value} {p : Pk} (h : PkV w N v p) (hg : Below N w w') : PkV w' N v p := by
  obtain ⟨d, e, h⟩ := h
  exact ⟨d, e, h.below hg⟩
theorem PkV.mono {w : World} {N M : Nat} {v : Value} {p : Pk} (h : PkV w N v p) (hN : N ≤ M) : PkV w M v p := by
  obtain ⟨d, e, h⟩ := h
  exact ⟨d, e, h.mono hN⟩
theorem PkV.open {w : World} {N : Nat} {v : Value} {p : Pk} (h : PkV w N v p) : ∃ od cd, v = .agg #[.int .i64 p.src, .int .i64 p.dst, .int .i64 p.seq, .slice od p.data.length cd, .int .i64 p.tmo] ∧ Bytes w N (.slice od p.data.length cd) p.data := by
  obtain ⟨d, rfl, h⟩ := h
  obtain ⟨od, cd, rfl, -⟩ := h.shape
  exact ⟨od, cd, rfl, h⟩
theorem pkV_none (w : World) (N : Nat) : PkV w N (.agg #[.int .i64 0, .int .i64 0, .int .i64 0, .slice none 0 0, .int .i64 0]) Pk.none := ⟨_, rfl, .inl ⟨rfl, rfl⟩⟩



/-- what reads as a packet: below N, or from base on -/
def HoldsP (N base : Nat) (w : World) (v : Value) (p : Pk) : Prop := Held (fun b => (b < N ∨ base ≤ b) ∧ b < w.heap.size) w (fun w2 => PkV w2 w2.heap.size v p)
theorem holdsP_none (N base : Nat) (w : World) : HoldsP N base w (.agg #[.int .i64 0, .int .i64 0, .int .i64 0, .slice none 0 0, .int .i64 0]) Pk.none := ⟨fun _ h => h.2, fun w2 _ _ => pkV_none w2 _⟩
end Go.Proofs.YtbjlfhabnjpdmaaGreatDoor
