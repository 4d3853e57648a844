/-
  What a state is, what is wrong with one, and its book.
-/
import Derived.Test.YtnoaohlajllngaatuClMem
import Derived.Test.YtnoaohlajllngaatuPairsAll
import Derived.Test.YtnoaohlajllngaatuBookMath
import Derived.Test.YtnoaohlajllngaatuRef1All
import Derived.Test.YtnoaohlajllngaatuShaAll
import Derived.Test.YtnoaohlajllngaatuSameB
import Derived.Test.YtnoaohlajllngaatuWireBoth
import Derived.Lib.ItoaNum
import Derived.Lib.BytesEntry
import Derived.Lib.Bytealg
import Derived.Laws.Externs
import Derived.Lib.SliceRun
import Derived.Lib.AppendZerosOnto
import Derived.Deep.RegionWith
import Derived.Deep.Slices
import Derived.Deep.RegionHeld3
namespace Go.Proofs.Ytnoaohlajllngaa
open Go.RowKit

/-- a connection's end -/
structure Cn where
  state : Int
  client : Int
  oclient : Int
  oconn : Int
/-- a channel's end -/
structure Ch where
  state : Int
  ordered : Bool
  conn : Int
  ochan : Int
  send : Int
  recv : Int
  ack : Int
/-- a mark -/
structure Mk where
  chan : Int
  seq : Int
  dig : List (BitVec 8)
/-- a purse -/
structure Pu where
  owner : ByteArray
  denom : ByteArray
  amount : Nat
/-- a state -/
structure St where
  name : ByteArray
  height : Int
  time : Int
  clients : List Cl
  conns : List Cn
  chans : List Ch
  sent : List Mk
  got : List Mk
  acks : List Mk
  purses : List Pu
def St.none : St := ⟨⟨#[]⟩, 0, 0, [], [], [], [], [], [], []⟩
def Mk.fits (m : Mk) : Prop := m.dig.length ≤ 140737488351232
def Pu.fits (p : Pu) : Prop := p.owner.size ≤ 140737488351232 ∧ p.denom.size ≤ 140737488351232 ∧ p.amount < 18446744073709551616
def St.fits (s : St) : Prop := s.name.size ≤ 140737488351232 ∧ (s.clients.length < 2305843009213693952 ∧ ∀ c ∈ s.clients, c.fits) ∧ s.conns.length < 2305843009213693952 ∧ s.chans.length < 2305843009213693952 ∧
  (s.sent.length < 2305843009213693952 ∧ ∀ m ∈ s.sent, m.fits) ∧ (s.got.length < 2305843009213693952 ∧ ∀ m ∈ s.got, m.fits) ∧ (s.acks.length < 2305843009213693952 ∧ ∀ m ∈ s.acks, m.fits) ∧ s.purses.length < 2305843009213693952 ∧ ∀ p ∈ s.purses, p.fits

def wordB (s : ByteArray) : Bool := decide (1 ≤ s.size) && decide (s.size ≤ 40)
def lessS (a b : ByteArray) : Bool := Op.bytesLess a.toList b.toList
def lessPu (a b : Pu) : Bool := lessS a.owner b.owner || (decide (a.owner = b.owner) && lessS a.denom b.denom)
def orN : List Int → Int
  | [] => 0
  | x :: r => if x ≠ 0 then x else orN r

theorem orN_iff : ∀ (l : List Int), orN l = 0 ↔ ∀ x ∈ l, x = 0
  | [] => by simp [orN]
  | x :: r => by
    rw [orN]
    by_cases h : x = 0
    · rw [if_neg (by simp [h]), orN_iff r]; simp [h]
    · rw [if_pos h]; simp [h]

/-- a number's digits -/
def digN (n : Nat) : List (BitVec 8) := (Lib.decDigits n).map fun x => x.toBitVec

/-- a key: a word, and numbers behind strokes -/
def keyL (k : List (BitVec 8)) : List Nat → List (BitVec 8)
  | [] => k
  | n :: l => k ++ 47 :: keyL (digN n) l

/-- the bytes of numbers -/
def numPc (n : Int) : Pc := ⟨1, n.toNat, []⟩
def numsB (l : List Int) : List (BitVec 8) := numB l.length ++ wrs (l.map numPc)
def connB (c : Cn) : List (BitVec 8) := numsB [c.state, c.client, c.oclient, c.oconn + 1]
def chanB (c : Ch) : List (BitVec 8) := numsB [c.state, if c.ordered = true then 1 else 0, c.conn, c.ochan + 1]
def kwConn : List (BitVec 8) := [99, 111, 110, 110]
def kwChan : List (BitVec 8) := [99, 104, 97, 110]
def kwNext : List (BitVec 8) := [110, 101, 120, 116]
def kwSent : List (BitVec 8) := [115, 101, 110, 116]
def kwGot : List (BitVec 8) := [103, 111, 116]
def kwAck : List (BitVec 8) := [97, 99, 107]
def entCn (x : Cn × Nat) : Dg := ⟨keyL kwConn [x.2], connB x.1, false⟩
def entCh (x : Ch × Nat) : List Dg := [⟨keyL kwChan [x.2], chanB x.1, false⟩, ⟨keyL kwNext [x.2], numsB [x.1.recv], false⟩]
def entMk (k : List (BitVec 8)) (m : Mk) : Dg := ⟨keyL k [m.chan.toNat, m.seq.toNat], m.dig, false⟩
/-- what makes a state's book -/
def entries (s : St) : List Dg := s.conns.zipIdx.map entCn ++ (s.chans.zipIdx.flatMap entCh ++ (s.sent.map (entMk kwSent) ++ (s.got.map (entMk kwGot) ++ s.acks.map (entMk kwAck))))




end Go.Proofs.Ytnoaohlajllngaa
