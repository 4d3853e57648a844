/-
  What a state is, what is wrong with one, and its book.
-/
import Derived.Test.YtbjlfhabnjpdmaaGreatDoorlaClMem
import Derived.Test.YtbjlfhabnjpdmaaGreatDoorlaPairsAll
import Derived.Test.YtbjlfhabnjpdmaaGreatDoorlaBookMath
import Derived.Test.YtbjlfhabnjpdmaaGreatDoorlaBookTree
import Derived.Test.YtbjlfhabnjpdmaaGreatDoorlaShaAll
import Derived.Test.YtbjlfhabnjpdmaaGreatDoorlaSameB
import Derived.Test.YtbjlfhabnjpdmaaGreatDoorlaWireBoth
import Derived.Lib.ItoaNum
import Derived.Lib.BytesEntry
import Derived.Lib.Bytealg
import Derived.Laws.Externs
import Derived.Lib.SliceRun
namespace Go.Proofs.YtbjlfhabnjpdmaaGreatDoor
open Go.RowKit

/-- a connection's end -/
structure Cn where
  state : Int
  client : Int
  oclient : Int
  oconn : Int
/-- a channel's end -/
structure Ch where
  state : Int
  ordered : Bool
  conn : Int
  ochan : Int
  send : Int
  recv : Int
  ack : Int
/-- a mark -/
structure Mk where
  chan : Int
  seq : Int
  dig : List (BitVec 8)
/-- a purse -/
structure Pu where
  owner : ByteArray
  denom : ByteArray
  amount : Nat
/-- a state -/
structure St where
  name : ByteArray
  height : Int
  time : Int
  clients : List Cl
  conns : List Cn
  chans : List Ch
  sent : List Mk
  got : List Mk
  acks : List Mk
  purses : List Pu
def St.none : St := ⟨⟨#[]⟩, 0, 0, [], [], [], [], [], [], []⟩
def Mk.fits (m : Mk) : Prop := m.dig.length ≤ 140737488351232
def Pu.fits (p : Pu) : Prop := p.owner.size ≤ 140737488351232 ∧ p.denom.size ≤ 140737488351232 ∧ p.amount < 18446744073709551616
def St.fits (s : St) : Prop := s.name.size ≤ 140737488351232 ∧ (s.clients.length < 2305843009213693952 ∧ ∀ c ∈ s.clients, c.fits) ∧ s.conns.length < 2305843009213693952 ∧ s.chans.length < 2305843009213693952 ∧
  (s.sent.length < 2305843009213693952 ∧ ∀ m ∈ s.sent, m.fits) ∧ (s.got.length < 2305843009213693952 ∧ ∀ m ∈ s.got, m.fits) ∧ (s.acks.length < 2305843009213693952 ∧ ∀ m ∈ s.acks, m.fits) ∧ s.purses.length < 2305843009213693952 ∧ ∀ p ∈ s.purses, p.fits

/-- from lo on, and no greater than numbers may be -/
def fromB (lo n : Int) : Bool := decide (lo ≤ n) && decide (n ≤ 1000000000000)
theorem fromB_iff (lo n : Int) : fromB lo n = true ↔ lo ≤ n ∧ n ≤ 1000000000000 := by simp [fromB]
def wrongCn (c : Cn) : Int := if c.state < 1 ∨ 3 < c.state then 1 else if (fromB 0 c.client && (fromB 0 c.oclient && fromB (-1) c.oconn)) = false then 3 else 0
def wrongCh (c : Ch) : Int := if c.state < 1 ∨ 4 < c.state then 1 else if (fromB 0 c.conn && (fromB (-1) c.ochan && (fromB 1 c.send && (fromB 1 c.recv && fromB 1 c.ack)))) = false then 3 else 0
def wrongMk (m : Mk) : Int := if (fromB 0 m.chan && fromB 1 m.seq) = false then 3 else if m.dig.length ≠ 32 then 2 else 0
def lessMk (a b : Mk) : Bool := decide (a.chan < b.chan ∨ a.chan = b.chan ∧ a.seq < b.seq)
def wordB (s : ByteArray) : Bool := decide (1 ≤ s.size) && decide (s.size ≤ 40)
def wrongPu (p : Pu) : Int := if (wordB p.owner && wordB p.denom) = false then 4 else if p.amount = 0 then 3 else 0
def lessS (a b : ByteArray) : Bool := Op.bytesLess a.toList b.toList
def lessPu (a b : Pu) : Bool := lessS a.owner b.owner || (decide (a.owner = b.owner) && lessS a.denom b.denom)
/-- what is wrong with the first one that is wrong -/
def firstW {α : Type} (f : α → Int) : List α → Int
  | [] => 0
  | x :: r => if f x ≠ 0 then f x else firstW f r
def aheadOk {α : Type} (lt : α → α → Bool) : Option α → α → Bool
  | none, _ => true
  | some a, x => lt a x
/-- .. where each one must be greater than the one ahead -/
def upGo {α : Type} (f : α → Int) (lt : α → α → Bool) (p : Option α) : List α → Int
  | [] => 0
  | x :: r => if f x ≠ 0 then f x else if aheadOk lt p x = false then 2 else upGo f lt (some x) r
def orN : List Int → Int
  | [] => 0
  | x :: r => if x ≠ 0 then x else orN r
def manyB (s : St) : Bool := decide (4 < s.clients.length ∨ 8 < s.conns.length ∨ 8 < s.chans.length ∨ 50 < s.sent.length ∨ 50 < s.got.length ∨ 50 < s.acks.length ∨ 60 < s.purses.length)
def marksN (l : List Mk) : Int := upGo wrongMk lessMk none l
def pursesN (l : List Pu) : Int := upGo wrongPu lessPu none l
def deepS (s : St) : Int := orN [firstW wrongCl s.clients, firstW wrongCn s.conns, firstW wrongCh s.chans, marksN s.sent, marksN s.got, marksN s.acks, pursesN s.purses]
def wrongS (s : St) : Int := if nameB s.name = false then 7 else if (fromB 0 s.height && fromB 0 s.time) = false then 3 else if manyB s = true then 5 else deepS s

theorem firstW_iff {α : Type} (f : α → Int) : ∀ (l : List α), firstW f l = 0 ↔ ∀ x ∈ l, f x = 0
  | [] => by simp [firstW]
  | x :: r => by
    rw [firstW]
    by_cases h : f x = 0
    · rw [if_neg (by simp [h]), firstW_iff f r]; simp [h]
    · rw [if_pos h]; simp [h]
theorem orN_iff : ∀ (l : List Int), orN l = 0 ↔ ∀ x ∈ l, x = 0
  | [] => by simp [orN]
  | x :: r => by
    rw [orN]
    by_cases h : x = 0
    · rw [if_neg (by simp [h]), orN_iff r]; simp [h]
    · rw [if_pos h]; simp [h]
theorem upGo_ok {α : Type} {f : α → Int} {lt : α → α → Bool} (ht : ∀ a b c, lt a b = true → lt b c = true → lt a c = true) : ∀ (l : List α) (p : Option α), upGo f lt p l = 0 → (∀ x ∈ l, f x = 0) ∧ (∀ a, p = some a → ∀ x ∈ l, lt a x = true) ∧ l.Pairwise fun a b => lt a b = true
  | [], _, _ => ⟨fun _ h => (by cases h), fun _ _ _ h => (by cases h), List.Pairwise.nil⟩
  | x :: r, p, h => by
    rw [upGo] at h
    by_cases h1 : f x = 0
    · rw [if_neg (by simp [h1])] at h
      cases h2 : aheadOk lt p x with
      | false => rw [h2, if_pos rfl] at h; cases h
      | true =>
        rw [h2, if_neg (by simp)] at h
        obtain ⟨g1, g2, g3⟩ := upGo_ok ht r (some x) h
        refine ⟨fun y hy => ?_, fun a ha y hy => ?_, List.pairwise_cons.2 ⟨g2 x rfl, g3⟩⟩
        · rcases List.mem_cons.1 hy with rfl | hy
          · exact h1
          · exact g1 y hy
        · subst ha
          have hx : lt a x = true := h2
          rcases List.mem_cons.1 hy with rfl | hy
          · exact hx
          · exact ht _ _ _ hx (g2 x rfl y hy)
    · rw [if_pos h1] at h; exact absurd h h1

/-- a number's digits -/
def digN (n : Nat) : List (BitVec 8) := (Lib.decDigits n).map fun x => x.toBitVec

/-- a key: a word, and numbers behind strokes -/
def keyL (k : List (BitVec 8)) : List Nat → List (BitVec 8)
  | [] => k
  | n :: l => k ++ 47 :: keyL (digN n) l

/-- the bytes of numbers -/
def numPc (n : Int) : Pc := ⟨1, n.toNat, []⟩
def numsB (l : List Int) : List (BitVec 8) := numB l.length ++ wrs (l.map numPc)
def connB (c : Cn) : List (BitVec 8) := numsB [c.state, c.client, c.oclient, c.oconn + 1]
def chanB (c : Ch) : List (BitVec 8) := numsB [c.state, if c.ordered = true then 1 else 0, c.conn, c.ochan + 1]
def kwConn : List (BitVec 8) := [99, 111, 110, 110]
def kwChan : List (BitVec 8) := [99, 104, 97, 110]
def kwNext : List (BitVec 8) := [110, 101, 120, 116]
def kwSent : List (BitVec 8) := [115, 101, 110, 116]
def kwGot : List (BitVec 8) := [103, 111, 116]
def kwAck : List (BitVec 8) := [97, 99, 107]
def entCn (x : Cn × Nat) : Dg := ⟨keyL kwConn [x.2], connB x.1, false⟩
def entCh (x : Ch × Nat) : List Dg := [⟨keyL kwChan [x.2], chanB x.1, false⟩, ⟨keyL kwNext [x.2], numsB [x.1.recv], false⟩]
def entMk (k : List (BitVec 8)) (m : Mk) : Dg := ⟨keyL k [m.chan.toNat, m.seq.toNat], m.dig, false⟩
/-- what makes a state's book -/
def entries (s : St) : List Dg := s.conns.zipIdx.map entCn ++ (s.chans.zipIdx.flatMap entCh ++ (s.sent.map (entMk kwSent) ++ (s.got.map (entMk kwGot) ++ s.acks.map (entMk kwAck))))




end Go.Proofs.YtbjlfhabnjpdmaaGreatDoor
