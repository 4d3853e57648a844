/-
  What comes of the steps of a channel.
-/
import Derived.Test.YtbgdpfeobklnhaaGreatDoorgoCoMath
namespace Go.Proofs.YtbgdpfeobklnhaaGreatDoor
open Go.RowKit

def chAt (s : St) (i : Int) : Ch := (s.chans[i.toNat]?).getD ⟨0, false, 0, 0, 0, 0, 0⟩
theorem chAt_some {s : St} {k : Nat} {x : Ch} (h : s.chans[k]? = some x) : chAt s (k : Int) = x := by unfold chAt; rw [Int.toNat_natCast, h]; rfl
/-- a connection's cells, a channel's -/
theorem Many.conn {w : World} {N k n cap : Nat} {oa : Option Addr} {l : List Cn} {x : Cn} (h : Many CnR 4 w N (.slice oa n cap) l) (hn : n = l.length) (hx : l[k]? = some x) : ∃ b f, oa = some ⟨b, f, none⟩ ∧ b < N ∧ w.cell? ⟨b, f + k * 4, none⟩ = some (.int .i64 x.state) ∧ w.cell? ⟨b, f + k * 4 + 1, none⟩ = some (.int .i64 x.client) ∧ w.cell? ⟨b, f + k * 4 + 2, none⟩ = some (.int .i64 x.oclient) ∧ w.cell? ⟨b, f + k * 4 + 3, none⟩ = some (.int .i64 x.oconn) := by
  have := (List.getElem?_eq_some_iff.1 hx).1
  obtain ⟨b, f, rfl, gx⟩ := h.spot (by omega)
  obtain ⟨hb, r, hr, cx⟩ := gx k x hx
  subst hr
  exact ⟨b, f, rfl, hb, cx 0 _ rfl, cx 1 _ rfl, cx 2 _ rfl, cx 3 _ rfl⟩
theorem Many.chan {w : World} {N k n cap : Nat} {oa : Option Addr} {l : List Ch} {x : Ch} (h : Many ChR 7 w N (.slice oa n cap) l) (hn : n = l.length) (hx : l[k]? = some x) : ∃ b f, oa = some ⟨b, f, none⟩ ∧ b < N ∧ w.cell? ⟨b, f + k * 7, none⟩ = some (.int .i64 x.state) ∧ w.cell? ⟨b, f + k * 7 + 1, none⟩ = some (.bool x.ordered) ∧ w.cell? ⟨b, f + k * 7 + 2, none⟩ = some (.int .i64 x.conn) ∧ w.cell? ⟨b, f + k * 7 + 3, none⟩ = some (.int .i64 x.ochan) ∧ w.cell? ⟨b, f + k * 7 + 4, none⟩ = some (.int .i64 x.send) ∧ w.cell? ⟨b, f + k * 7 + 5, none⟩ = some (.int .i64 x.recv) ∧ w.cell? ⟨b, f + k * 7 + 6, none⟩ = some (.int .i64 x.ack) := by
  have := (List.getElem?_eq_some_iff.1 hx).1
  obtain ⟨b, f, rfl, gx⟩ := h.spot (by omega)
  obtain ⟨hb, r, hr, cx⟩ := gx k x hx
  subst hr
  exact ⟨b, f, rfl, hb, cx 0 _ rfl, cx 1 _ rfl, cx 2 _ rfl, cx 3 _ rfl, cx 4 _ rfl, cx 5 _ rfl, cx 6 _ rfl⟩
/-- what keeps a connection from being used -/
def overN (s : St) (i : Int) : Int := if i < 0 ∨ (s.conns.length : Int) ≤ i then 6 else if (cnAt s i).state ≠ 3 then 12 else if (cnAt s i).oconn < 0 then 8 else liveN s (cnAt s i).client
def cstartN (s : St) (i : Int) : Int := if wrongS s ≠ 0 then wrongS s else overN s i
def cendN (s : St) (i st : Int) : Int := if wrongS s ≠ 0 then wrongS s else if i < 0 ∨ (s.chans.length : Int) ≤ i then 6 else if (chAt s i).state ≠ st then 12 else overN s (chAt s i).conn
def manyChN (s : St) : Int := if 8 ≤ s.chans.length then 5 else 0
def cinitN (s : St) (i : Int) : Int := if cstartN s i ≠ 0 then cstartN s i else manyChN s
def ctryN (s : St) (i o z : Int) : Int := if cstartN s i ≠ 0 then cstartN s i else if fromB 0 o = false then 3 else if z ≠ 0 then z else manyChN s
def cackN (s : St) (i o z : Int) : Int := if cendN s i 1 ≠ 0 then cendN s i 1 else if fromB 0 o = false then 3 else z
def alongN (s : St) (i st z : Int) : Int := if cendN s i st ≠ 0 then cendN s i st else if (chAt s i).ochan < 0 then 8 else z
def addCh (s : St) (n : Int) (c : Ch) : St := if n = 0 then { s with chans := s.chans ++ [c] } else St.none
def addChI (s : St) (n : Int) : Int := if n = 0 then (s.chans.length : Int) else 0
def putCh (s : St) (n i : Int) (c : Ch) : St := if n = 0 then { s with chans := s.chans.set i.toNat c } else St.none
def cinitS (s : St) (i : Int) (o : Bool) : St := addCh s (cinitN s i) ⟨1, o, i, -1, 1, 1, 1⟩
def ctryS (s : St) (i : Int) (o : Bool) (q z : Int) : St := addCh s (ctryN s i q z) ⟨2, o, i, q, 1, 1, 1⟩
def Ch.turned (c : Ch) (st q : Int) : Ch := ⟨st, c.ordered, c.conn, q, c.send, c.recv, c.ack⟩
def cackS (s : St) (i q z : Int) : St := putCh s (cackN s i q z) i ((chAt s i).turned 3 q)
def alongS (s : St) (i st z e : Int) : St := putCh s (alongN s i st z) i ((chAt s i).turned e (chAt s i).ochan)
def closeS (s : St) (i : Int) : St := putCh s (cendN s i 3) i ((chAt s i).turned 4 (chAt s i).ochan)
/-- whether the other end of a channel is shown -/
def askCh (s : St) (own : Ch) (st back : Int) (h : Sh) (z : Int) : Prop := MemberAt s (cnAt s own.conn).client h (keyL kwChan [own.ochan.toNat]) (chanB ⟨st, own.ordered, (cnAt s own.conn).oconn, back, 0, 0, 0⟩) z
theorem overN_ok {s : St} {i : Int} (h : overN s i = 0) : (0 ≤ i ∧ i < (s.conns.length : Int)) ∧ (cnAt s i).state = 3 ∧ 0 ≤ (cnAt s i).oconn ∧ liveN s (cnAt s i).client = 0 := by
  unfold overN at h
  split at h
  · cases h
  split at h
  · cases h
  split at h
  · cases h
  rename_i h1 h2 h3
  exact ⟨by omega, by simpa using h2, by omega, h⟩
theorem cstartN_ok {s : St} {i : Int} (h : cstartN s i = 0) : wrongS s = 0 ∧ overN s i = 0 := by
  unfold cstartN at h
  split at h
  · rename_i h1; exact absurd h h1
  · rename_i h1; exact ⟨by simpa using h1, h⟩
theorem cendN_ok {s : St} {i st : Int} (h : cendN s i st = 0) : wrongS s = 0 ∧ (0 ≤ i ∧ i < (s.chans.length : Int)) ∧ (chAt s i).state = st ∧ overN s (chAt s i).conn = 0 := by
  unfold cendN at h
  split at h
  · rename_i h1; exact absurd h h1
  rename_i h1
  split at h
  · cases h
  split at h
  · cases h
  rename_i h2 h3
  exact ⟨by simpa using h1, by omega, by simpa using h3, h⟩
end Go.Proofs.YtbgdpfeobklnhaaGreatDoor
