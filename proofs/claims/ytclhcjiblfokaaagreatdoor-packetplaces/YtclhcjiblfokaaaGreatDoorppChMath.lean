/-
  What comes of the steps of a channel.
-/
import Derived.Test.YtclhcjiblfokaaaGreatDoorppCoMath
namespace Go.Proofs.YtclhcjiblfokaaaGreatDoor
open Go.RowKit

def chAt (s : St) (i : Int) : Ch := (s.chans[i.toNat]?).getD ⟨0, false, 0, 0, 0, 0, 0⟩
theorem chAt_some {s : St} {k : Nat} {x : Ch} (h : s.chans[k]? = some x) : chAt s (k : Int) = x := by unfold chAt; rw [Int.toNat_natCast, h]; rfl
/-- a connection's cells, a channel's -/
theorem Many.conn {w : World} {N k n cap : Nat} {oa : Option Addr} {l : List Cn} {x : Cn} (h : Many CnR 4 w N (.slice oa n cap) l) (hn : n = l.length) (hx : l[k]? = some x) : ∃ b f, oa = some ⟨b, f, none⟩ ∧ b < N ∧ w.cell? ⟨b, f + k * 4, none⟩ = some (.int .i64 x.state) ∧ w.cell? ⟨b, f + k * 4 + 1, none⟩ = some (.int .i64 x.client) ∧ w.cell? ⟨b, f + k * 4 + 2, none⟩ = some (.int .i64 x.oclient) ∧ w.cell? ⟨b, f + k * 4 + 3, none⟩ = some (.int .i64 x.oconn) := by
  have := (List.getElem?_eq_some_iff.1 hx).1
  obtain ⟨b, f, rfl, gx⟩ := h.spot (by omega)
  obtain ⟨hb, r, hr, cx⟩ := gx k x hx
  subst hr
  exact ⟨b, f, rfl, hb, cx 0 _ rfl, cx 1 _ rfl, cx 2 _ rfl, cx 3 _ rfl⟩
theorem Many.chan {w : World} {N k n cap : Nat} {oa : Option Addr} {l : List Ch} {x : Ch} (h : Many ChR 7 w N (.slice oa n cap) l) (hn : n = l.length) (hx : l[k]? = some x) : ∃ b f, oa = some ⟨b, f, none⟩ ∧ b < N ∧ w.cell? ⟨b, f + k * 7, none⟩ = some (.int .i64 x.state) ∧ w.cell? ⟨b, f + k * 7 + 1, none⟩ = some (.bool x.ordered) ∧ w.cell? ⟨b, f + k * 7 + 2, none⟩ = some (.int .i64 x.conn) ∧ w.cell? ⟨b, f + k * 7 + 3, none⟩ = some (.int .i64 x.ochan) ∧ w.cell? ⟨b, f + k * 7 + 4, none⟩ = some (.int .i64 x.send) ∧ w.cell? ⟨b, f + k * 7 + 5, none⟩ = some (.int .i64 x.recv) ∧ w.cell? ⟨b, f + k * 7 + 6, none⟩ = some (.int .i64 x.ack) := by
  have := (List.getElem?_eq_some_iff.1 hx).1
  obtain ⟨b, f, rfl, gx⟩ := h.spot (by omega)
  obtain ⟨hb, r, hr, cx⟩ := gx k x hx
  subst hr
  exact ⟨b, f, rfl, hb, cx 0 _ rfl, cx 1 _ rfl, cx 2 _ rfl, cx 3 _ rfl, cx 4 _ rfl, cx 5 _ rfl, cx 6 _ rfl⟩
/-- what keeps a connection from being used -/
def overN (s : St) (i : Int) : Int := if i < 0 ∨ (s.conns.length : Int) ≤ i then 6 else if (cnAt s i).state ≠ 3 then 12 else if (cnAt s i).oconn < 0 then 8 else liveN s (cnAt s i).client
theorem overN_ok {s : St} {i : Int} (h : overN s i = 0) : (0 ≤ i ∧ i < (s.conns.length : Int)) ∧ (cnAt s i).state = 3 ∧ 0 ≤ (cnAt s i).oconn ∧ liveN s (cnAt s i).client = 0 := by
  unfold overN at h
  split at h
  · cases h
  split at h
  · cases h
  split at h
  · cases h
  rename_i h1 h2 h3
  exact ⟨by omega, by simpa using h2, by omega, h⟩
end Go.Proofs.YtclhcjiblfokaaaGreatDoor
