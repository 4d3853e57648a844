/-
  What comes of a gift.
-/
import Derived.Test.YtbjlfhabnjpdmaaGreatDoorlaPkMath
import Derived.Test.YtbjlfhabnjpdmaaGreatDoorlaBkTr
import Derived.Test.YtbjlfhabnjpdmaaGreatDoorlaClMem
import Derived.Test.YtbjlfhabnjpdmaaGreatDoorlaBkPack
import Derived.Test.YtbjlfhabnjpdmaaGreatDoorlaBkMath
namespace Go.Proofs.YtbjlfhabnjpdmaaGreatDoor
open Go.RowKit

/-- a message -/
structure Ms where
  kind : Int
  chain : ByteArray
  trust : Int
  known : Kn
  client : Int
  upd : Up
  sec : Up
  other : Int
  oend : Int
  fin : Int
  ordered : Bool
  sh : Sh
  tr : Tr
  tmo : Int
  next : Int
  pk : Pk
  ack : List (BitVec 8)
def Ms.fits (m : Ms) : Prop := m.chain.size ≤ 140737488351232 ∧ m.known.fits ∧ m.upd.fits ∧ m.sec.fits ∧ m.sh.fits ∧ m.tr.fits ∧ m.pk.fits ∧ m.ack.length ≤ 140737488351232
/-- its cells -/
def msC (m : Ms) (o : Nat → Option Addr) (c : Nat → Nat) : List Value := [.int .i64 m.kind, .string m.chain, .int .i64 m.trust, .int .i64 m.known.height, .int .i64 m.known.time, .slice (o 0) m.known.root.length (c 0), .slice (o 1) m.known.next.length (c 1), .int .i64 m.client, .int .i64 m.upd.frm, .string m.upd.sg.hd.chain, .int .i64 m.upd.sg.hd.height, .int .i64 m.upd.sg.hd.time, .slice (o 2) m.upd.sg.hd.root.length (c 2), .slice (o 3) m.upd.sg.hd.vals.length (c 3), .slice (o 4) m.upd.sg.hd.next.length (c 4), .slice (o 5) m.upd.sg.vals.length (c 5), .slice (o 6) m.upd.sg.votes.length (c 6), .slice (o 7) m.upd.trusted.length (c 7), .int .i64 m.sec.frm, .string m.sec.sg.hd.chain, .int .i64 m.sec.sg.hd.height, .int .i64 m.sec.sg.hd.time, .slice (o 8) m.sec.sg.hd.root.length (c 8), .slice (o 9) m.sec.sg.hd.vals.length (c 9), .slice (o 10) m.sec.sg.hd.next.length (c 10), .slice (o 11) m.sec.sg.vals.length (c 11), .slice (o 12) m.sec.sg.votes.length (c 12), .slice (o 13) m.sec.trusted.length (c 13), .int .i64 m.other, .int .i64 m.oend, .int .i64 m.fin, .bool m.ordered, .int .i64 m.sh.height, .int .i64 m.sh.prf.index, .int .i64 m.sh.prf.size, .slice (o 14) m.sh.prf.key.length (c 14), .slice (o 15) m.sh.prf.val.length (c 15), .slice (o 16) m.sh.prf.path.length (c 16), .bool m.sh.gap.hasL, .bool m.sh.gap.hasR, .int .i64 m.sh.gap.left.index, .int .i64 m.sh.gap.left.size, .slice (o 17) m.sh.gap.left.key.length (c 17), .slice (o 18) m.sh.gap.left.val.length (c 18), .slice (o 19) m.sh.gap.left.path.length (c 19), .int .i64 m.sh.gap.right.index, .int .i64 m.sh.gap.right.size, .slice (o 20) m.sh.gap.right.key.length (c 20), .slice (o 21) m.sh.gap.right.val.length (c 21), .slice (o 22) m.sh.gap.right.path.length (c 22), .string m.tr.denom, .int .u64 (m.tr.amount : Int), .string m.tr.sender, .string m.tr.reader, .int .i64 m.tmo, .int .i64 m.next, .int .i64 m.pk.src, .int .i64 m.pk.dst, .int .i64 m.pk.seq, .slice (o 23) m.pk.data.length (c 23), .int .i64 m.pk.tmo, .slice (o 24) m.ack.length (c 24)]
end Go.Proofs.YtbjlfhabnjpdmaaGreatDoor
namespace Go.Proofs.YtbjlfhabnjpdmaaGreatDoor
open Go.RowKit

theorem wrAll_max {l : List Pc} {x : List (BitVec 8)} (h : wrAll l = .ok x) : x.length ≤ 20000 := by
  unfold wrAll at h
  split at h
  · cases h
  · refine (wrGo_ok _ _ _ _ h).2.2 ?_
    have := numB_length 10 l.length (by simp; omega) (by omega)
    omega
theorem bytesT_max (t : Tr) : (bytesT t).length ≤ 20000 := by
  unfold bytesT
  split
  · rename_i x hx
    exact wrAll_max hx
  · simp
/-- is an owner called, at its beginning, as safes are? -/
def safeB (o : ByteArray) : Bool := Lib.hasPrefix o.data.toList [35]
/-- what keeps a transfer from being made -/
def trN (t : Tr) (l : List ByteArray) : Int := if parseE (bytesT t) ≠ 0 then parseE (bytesT t) else if l.any safeB = true then 7 else 0
/-- what comes of a message -/
structure Out where
  st : St
  err : Int
  num : Int
  pk : Pk
abbrev outC (s : St) (e : Int) : Out := ⟨s, e, 0, Pk.none⟩
def giveE (s : St) (t : Tr) : Int := if trN t [t.sender, t.reader] ≠ 0 then trN t [t.sender, t.reader] else moveE s.purses t.sender t.reader t.denom t.amount
def giveS (s : St) (t : Tr) : St := if giveE s t = 0 then { s with purses := moveL s.purses t.sender t.reader t.denom t.amount } else St.none
def giveO (s : St) (m : Ms) : Out := outC (giveS s m.tr) (giveE s m.tr)
end Go.Proofs.YtbjlfhabnjpdmaaGreatDoor
