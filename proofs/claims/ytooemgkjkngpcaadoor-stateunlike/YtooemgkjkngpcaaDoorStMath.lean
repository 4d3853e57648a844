/-
  What a state is, what is wrong with one, and its book.
-/
import Derived.Test.YtooemgkjkngpcaaDoorClMem
import Derived.Test.YtooemgkjkngpcaaDoorBookGet
import Derived.Test.YtooemgkjkngpcaaDoorWireBoth
import Derived.Lib.ItoaNum
namespace Go.Proofs.YtooemgkjkngpcaaDoor
open Go.RowKit

/-- a connection's end -/
structure Cn where
  state : Int
  client : Int
  oclient : Int
  oconn : Int
/-- a channel's end -/
structure Ch where
  state : Int
  ordered : Bool
  conn : Int
  ochan : Int
  send : Int
  recv : Int
  ack : Int
/-- a mark -/
structure Mk where
  chan : Int
  seq : Int
  dig : List (BitVec 8)
/-- a purse -/
structure Pu where
  owner : ByteArray
  denom : ByteArray
  amount : Nat
/-- a state -/
structure St where
  name : ByteArray
  height : Int
  time : Int
  clients : List Cl
  conns : List Cn
  chans : List Ch
  sent : List Mk
  got : List Mk
  acks : List Mk
  purses : List Pu
def St.none : St := ⟨⟨#[]⟩, 0, 0, [], [], [], [], [], [], []⟩
def Mk.fits (m : Mk) : Prop := m.dig.length ≤ 140737488351232
def Pu.fits (p : Pu) : Prop := p.owner.size ≤ 140737488351232 ∧ p.denom.size ≤ 140737488351232 ∧ p.amount < 18446744073709551616
def St.fits (s : St) : Prop := s.name.size ≤ 140737488351232 ∧ (s.clients.length < 2305843009213693952 ∧ ∀ c ∈ s.clients, c.fits) ∧ s.conns.length < 2305843009213693952 ∧ s.chans.length < 2305843009213693952 ∧
  (s.sent.length < 2305843009213693952 ∧ ∀ m ∈ s.sent, m.fits) ∧ (s.got.length < 2305843009213693952 ∧ ∀ m ∈ s.got, m.fits) ∧ (s.acks.length < 2305843009213693952 ∧ ∀ m ∈ s.acks, m.fits) ∧ s.purses.length < 2305843009213693952 ∧ ∀ p ∈ s.purses, p.fits

/-- from lo on, and no greater than numbers may be -/
def fromB (lo n : Int) : Bool := decide (lo ≤ n) && decide (n ≤ 1000000000000)
theorem fromB_iff (lo n : Int) : fromB lo n = true ↔ lo ≤ n ∧ n ≤ 1000000000000 := by simp [fromB]
def wrongCn (c : Cn) : Int := if c.state < 1 ∨ 3 < c.state then 1 else if (fromB 0 c.client && (fromB 0 c.oclient && fromB (-1) c.oconn)) = false then 3 else 0
def wrongCh (c : Ch) : Int := if c.state < 1 ∨ 4 < c.state then 1 else if (fromB 0 c.conn && (fromB (-1) c.ochan && (fromB 1 c.send && (fromB 1 c.recv && fromB 1 c.ack)))) = false then 3 else 0
def wrongMk (m : Mk) : Int := if (fromB 0 m.chan && fromB 1 m.seq) = false then 3 else if m.dig.length ≠ 32 then 2 else 0
def lessMk (a b : Mk) : Bool := decide (a.chan < b.chan ∨ a.chan = b.chan ∧ a.seq < b.seq)
def wordB (s : ByteArray) : Bool := decide (1 ≤ s.size) && decide (s.size ≤ 40)
def wrongPu (p : Pu) : Int := if (wordB p.owner && wordB p.denom) = false then 4 else if p.amount = 0 then 3 else 0
def lessS (a b : ByteArray) : Bool := Op.bytesLess a.toList b.toList
def lessPu (a b : Pu) : Bool := lessS a.owner b.owner || (decide (a.owner = b.owner) && lessS a.denom b.denom)
/-- what is wrong with the first one that is wrong -/
def firstW {α : Type} (f : α → Int) : List α → Int
  | [] => 0
  | x :: r => if f x ≠ 0 then f x else firstW f r
def aheadOk {α : Type} (lt : α → α → Bool) : Option α → α → Bool
  | none, _ => true
  | some a, x => lt a x
/-- .. where each one must be greater than the one ahead -/
def upGo {α : Type} (f : α → Int) (lt : α → α → Bool) (p : Option α) : List α → Int
  | [] => 0
  | x :: r => if f x ≠ 0 then f x else if aheadOk lt p x = false then 2 else upGo f lt (some x) r
def orN : List Int → Int
  | [] => 0
  | x :: r => if x ≠ 0 then x else orN r
def manyB (s : St) : Bool := decide (4 < s.clients.length ∨ 8 < s.conns.length ∨ 8 < s.chans.length ∨ 50 < s.sent.length ∨ 50 < s.got.length ∨ 50 < s.acks.length ∨ 60 < s.purses.length)
def marksN (l : List Mk) : Int := upGo wrongMk lessMk none l
def pursesN (l : List Pu) : Int := upGo wrongPu lessPu none l
def deepS (s : St) : Int := orN [firstW wrongCl s.clients, firstW wrongCn s.conns, firstW wrongCh s.chans, marksN s.sent, marksN s.got, marksN s.acks, pursesN s.purses]
def wrongS (s : St) : Int := if nameB s.name = false then 7 else if (fromB 0 s.height && fromB 0 s.time) = false then 3 else if manyB s = true then 5 else deepS s

theorem firstW_iff {α : Type} (f : α → Int) : ∀ (l : List α), firstW f l = 0 ↔ ∀ x ∈ l, f x = 0
  | [] => by simp [firstW]
  | x :: r => by
    rw [firstW]
    by_cases h : f x = 0
    · rw [if_neg (by simp [h]), firstW_iff f r]; simp [h]
    · rw [if_pos h]; simp [h]
theorem orN_iff : ∀ (l : List Int), orN l = 0 ↔ ∀ x ∈ l, x = 0
  | [] => by simp [orN]
  | x :: r => by
    rw [orN]
    by_cases h : x = 0
    · rw [if_neg (by simp [h]), orN_iff r]; simp [h]
    · rw [if_pos h]; simp [h]
theorem lessMk_trans {a b c : Mk} (h1 : lessMk a b = true) (h2 : lessMk b c = true) : lessMk a c = true := by
  simp [lessMk] at *; omega
theorem upGo_ok {α : Type} {f : α → Int} {lt : α → α → Bool} (ht : ∀ a b c, lt a b = true → lt b c = true → lt a c = true) : ∀ (l : List α) (p : Option α), upGo f lt p l = 0 → (∀ x ∈ l, f x = 0) ∧ (∀ a, p = some a → ∀ x ∈ l, lt a x = true) ∧ l.Pairwise fun a b => lt a b = true
  | [], _, _ => ⟨fun _ h => (by cases h), fun _ _ _ h => (by cases h), List.Pairwise.nil⟩
  | x :: r, p, h => by
    rw [upGo] at h
    by_cases h1 : f x = 0
    · rw [if_neg (by simp [h1])] at h
      cases h2 : aheadOk lt p x with
      | false => rw [h2, if_pos rfl] at h; cases h
      | true =>
        rw [h2, if_neg (by simp)] at h
        obtain ⟨g1, g2, g3⟩ := upGo_ok ht r (some x) h
        refine ⟨fun y hy => ?_, fun a ha y hy => ?_, List.pairwise_cons.2 ⟨g2 x rfl, g3⟩⟩
        · rcases List.mem_cons.1 hy with rfl | hy
          · exact h1
          · exact g1 y hy
        · subst ha
          have hx : lt a x = true := h2
          rcases List.mem_cons.1 hy with rfl | hy
          · exact hx
          · exact ht _ _ _ hx (g2 x rfl y hy)
    · rw [if_pos h1] at h; exact absurd h h1
/-- what a right state is -/
structure Right (s : St) : Prop where
  many : s.conns.length ≤ 8 ∧ s.chans.length ≤ 8 ∧ s.sent.length ≤ 50 ∧ s.got.length ≤ 50 ∧ s.acks.length ≤ 50
  conns : ∀ c ∈ s.conns, wrongCn c = 0
  chans : ∀ c ∈ s.chans, wrongCh c = 0
  sent : (∀ m ∈ s.sent, wrongMk m = 0) ∧ s.sent.Pairwise fun a b => lessMk a b = true
  got : (∀ m ∈ s.got, wrongMk m = 0) ∧ s.got.Pairwise fun a b => lessMk a b = true
  acks : (∀ m ∈ s.acks, wrongMk m = 0) ∧ s.acks.Pairwise fun a b => lessMk a b = true
theorem marksN_ok {l : List Mk} (h : marksN l = 0) : (∀ m ∈ l, wrongMk m = 0) ∧ l.Pairwise fun a b => lessMk a b = true :=
  have := upGo_ok (f := wrongMk) (lt := lessMk) (fun _ _ _ h1 h2 => lessMk_trans h1 h2) l none h
  ⟨this.1, this.2.2⟩
theorem wrongS_right {s : St} (h : wrongS s = 0) : Right s := by
  unfold wrongS at h
  split at h
  · cases h
  split at h
  · cases h
  split at h
  · cases h
  rename_i hm
  have hm' : ¬ (4 < s.clients.length ∨ 8 < s.conns.length ∨ 8 < s.chans.length ∨ 50 < s.sent.length ∨ 50 < s.got.length ∨ 50 < s.acks.length ∨ 60 < s.purses.length) := fun e => hm (decide_eq_true e)
  have h' := (orN_iff _).1 h
  simp only [List.mem_cons, List.not_mem_nil, or_false, forall_eq_or_imp, forall_eq] at h'
  obtain ⟨_, h2, h3, h4, h5, h6, _⟩ := h'
  exact ⟨by omega, (firstW_iff _ _).1 h2, (firstW_iff _ _).1 h3, marksN_ok h4, marksN_ok h5, marksN_ok h6⟩

/-- a number's digits -/
def digN (n : Nat) : List (BitVec 8) := (Lib.decDigits n).map fun x => x.toBitVec
theorem digN_small {n : Nat} (h : n < 10) : digN n = [BitVec.ofNat 8 (48 + n)] := by unfold digN; rw [Lib.decDigits, dif_pos h]; rfl
theorem digN_big {n : Nat} (h : ¬ n < 10) : digN n = digN (n / 10) ++ [BitVec.ofNat 8 (48 + n % 10)] := by unfold digN; rw [Lib.decDigits, dif_neg h, List.map_append]; rfl
theorem digN_dig : ∀ (n : Nat), ∀ x ∈ digN n, 48 ≤ x.toNat ∧ x.toNat < 58 := by
  intro n
  induction n using Nat.strongRecOn with
  | _ n ih =>
    intro x hx
    by_cases h : n < 10
    · rw [digN_small h] at hx
      obtain rfl := List.mem_singleton.1 hx
      simp; omega
    · rw [digN_big h] at hx
      rcases List.mem_append.1 hx with hx | hx
      · exact ih (n / 10) (by omega) x hx
      · obtain rfl := List.mem_singleton.1 hx
        simp; omega
theorem digN_ne (n : Nat) : digN n ≠ [] := by
  by_cases h : n < 10
  · rw [digN_small h]; simp
  · rw [digN_big h]; simp
theorem digN_inj : ∀ (n m : Nat), digN n = digN m → n = m := by
  intro n
  induction n using Nat.strongRecOn with
  | _ n ih =>
    intro m e
    by_cases h : n < 10
    · by_cases h' : m < 10
      · rw [digN_small h, digN_small h'] at e
        have := congrArg BitVec.toNat (List.cons.inj e).1
        simp at this; omega
      · rw [digN_small h, digN_big h'] at e
        have e1 := congrArg List.length e
        have e2 := List.length_pos_iff.2 (digN_ne (m / 10))
        rw [List.length_append, List.length_singleton, List.length_singleton] at e1; omega
    · by_cases h' : m < 10
      · rw [digN_big h, digN_small h'] at e
        have e1 := congrArg List.length e
        have e2 := List.length_pos_iff.2 (digN_ne (n / 10))
        rw [List.length_append, List.length_singleton, List.length_singleton] at e1; omega
      · rw [digN_big h, digN_big h'] at e
        obtain ⟨e1, e2⟩ := List.append_inj' e rfl
        have := ih (n / 10) (by omega) _ e1
        have e3 := congrArg BitVec.toNat (List.cons.inj e2).1
        simp at e3
        omega
theorem digN_len : ∀ (k n : Nat), n < 10 ^ (k + 1) → (digN n).length ≤ k + 1
  | 0, n, h => by rw [digN_small (by simpa using h)]; simp
  | k + 1, n, h => by
    by_cases h1 : n < 10
    · rw [digN_small h1]; simp
    · rw [digN_big h1, List.length_append]
      have := digN_len k (n / 10) (by rw [Nat.pow_succ] at h; omega)
      simp; omega

/-- a key: a word, and numbers behind strokes -/
def keyL (k : List (BitVec 8)) : List Nat → List (BitVec 8)
  | [] => k
  | n :: l => k ++ 47 :: keyL (digN n) l
def bare47 (k : List (BitVec 8)) : Prop := ∀ x ∈ k, x ≠ 47
theorem digN_bare (n : Nat) : bare47 (digN n) := fun x hx e => by
  have := digN_dig n x hx
  subst e
  simp at this
theorem stroke_inj : ∀ {a b r s : List (BitVec 8)}, bare47 a → bare47 b → a ++ 47 :: r = b ++ 47 :: s → a = b ∧ r = s
  | [], [], r, s, _, _, e => ⟨rfl, by simpa using e⟩
  | [], y :: b, r, s, _, hb, e => by
    have := (List.cons.inj e).1
    exact absurd this.symm (hb y List.mem_cons_self)
  | x :: a, [], r, s, ha, _, e => by
    have := (List.cons.inj e).1
    exact absurd this (ha x List.mem_cons_self)
  | x :: a, y :: b, r, s, ha, hb, e => by
    obtain ⟨e1, e2⟩ := List.cons.inj e
    obtain ⟨h1, h2⟩ := stroke_inj (fun z hz => ha z (List.mem_cons_of_mem _ hz)) (fun z hz => hb z (List.mem_cons_of_mem _ hz)) e2
    exact ⟨by rw [e1, h1], h2⟩
theorem stroke_not {a b r : List (BitVec 8)} (ha : bare47 a) (e : a = b ++ 47 :: r) : False := ha 47 (by rw [e]; simp) rfl
theorem keyL_inj : ∀ (l m : List Nat) (a b : List (BitVec 8)), bare47 a → bare47 b → keyL a l = keyL b m → a = b ∧ l = m
  | [], [], a, b, _, _, e => ⟨e, rfl⟩
  | [], n :: m, a, b, ha, _, e => (stroke_not ha e).elim
  | n :: l, [], a, b, _, hb, e => (stroke_not hb e.symm).elim
  | n :: l, k :: m, a, b, ha, hb, e => by
    obtain ⟨e1, e2⟩ := stroke_inj ha hb e
    obtain ⟨e3, e4⟩ := keyL_inj l m _ _ (digN_bare n) (digN_bare k) e2
    exact ⟨e1, by rw [digN_inj _ _ e3, e4]⟩

/-- the bytes of numbers -/
def numPc (n : Int) : Pc := ⟨1, n.toNat, []⟩
def numsB (l : List Int) : List (BitVec 8) := numB l.length ++ wrs (l.map numPc)
def connB (c : Cn) : List (BitVec 8) := numsB [c.state, c.client, c.oclient, c.oconn + 1]
def chanB (c : Ch) : List (BitVec 8) := numsB [c.state, if c.ordered = true then 1 else 0, c.conn, c.ochan + 1]
def kwConn : List (BitVec 8) := [99, 111, 110, 110]
def kwChan : List (BitVec 8) := [99, 104, 97, 110]
def kwNext : List (BitVec 8) := [110, 101, 120, 116]
def kwSent : List (BitVec 8) := [115, 101, 110, 116]
def kwGot : List (BitVec 8) := [103, 111, 116]
def kwAck : List (BitVec 8) := [97, 99, 107]
def entCn (x : Cn × Nat) : Dg := ⟨keyL kwConn [x.2], connB x.1, false⟩
def entCh (x : Ch × Nat) : List Dg := [⟨keyL kwChan [x.2], chanB x.1, false⟩, ⟨keyL kwNext [x.2], numsB [x.1.recv], false⟩]
def entMk (k : List (BitVec 8)) (m : Mk) : Dg := ⟨keyL k [m.chan.toNat, m.seq.toNat], m.dig, false⟩
/-- what makes a state's book -/
def entries (s : St) : List Dg := s.conns.zipIdx.map entCn ++ (s.chans.zipIdx.flatMap entCh ++ (s.sent.map (entMk kwSent) ++ (s.got.map (entMk kwGot) ++ s.acks.map (entMk kwAck))))

/-- numbers are written, and in one way alone -/
theorem nums_wr (l : List Int) (hl : l.length ≤ 4) (hn : ∀ n ∈ l, n.toNat < 18446744073709551616) : wrAll (l.map numPc) = .ok (numsB l) ∧ (numsB l).length ≤ 60 := by
  have hw : ∀ (m : List Int), (∀ n ∈ m, n.toNat < 18446744073709551616) → (wrs (m.map numPc)).length ≤ 11 * m.length := by
    intro m
    induction m with
    | nil => intro _; simp [wrs]
    | cons a m ih =>
      intro h
      have h1 := ih (fun n hn => h n (List.mem_cons_of_mem _ hn))
      have h2 := numB_ten a.toNat (h a List.mem_cons_self)
      have e : wrs ((a :: m).map numPc) = (0 :: numB a.toNat) ++ wrs (m.map numPc) := by simp [wrs, numPc, Pc.wr]
      rw [e, List.length_append, List.length_cons, List.length_cons]
      omega
  have h1 := hw l hn
  have h2 := numB_ten l.length (by omega)
  have h3 : (numsB l).length ≤ 60 := by unfold numsB; rw [List.length_append]; omega
  refine ⟨?_, h3⟩
  unfold wrAll
  rw [if_neg (by rw [List.length_map]; omega), List.length_map, wrGo_of _ _ _ (fun p hp => by obtain ⟨n, _, rfl⟩ := List.mem_map.1 hp; exact .inl rfl) (by have := h3; unfold numsB at this; omega)]
  rfl
theorem nums_inj (l m : List Int) (hl : l.length ≤ 4) (hm : m.length ≤ 4) (hn : ∀ n ∈ l, n.toNat < 18446744073709551616) (hk : ∀ n ∈ m, n.toNat < 18446744073709551616) (e : numsB l = numsB m) : l.map (·.toNat) = m.map (·.toNat) := by
  have h := (wr_inj _ _ _ _ (fun p hp => by obtain ⟨n, h, rfl⟩ := List.mem_map.1 hp; exact hn n h) (fun p hp => by obtain ⟨n, h, rfl⟩ := List.mem_map.1 hp; exact hk n h) (nums_wr l hl hn).1 (nums_wr m hm hk).1).1 e
  have h' := congrArg (List.map (·.n)) h
  simpa [List.map_map, Function.comp_def, numPc, Pc.norm] using h'

theorem set_perm (p : Pr) (l : List Pr) (h : ∀ q ∈ l, q.key ≠ p.key) : (setP p l).Perm (p :: l) := by
  have e : dropK p.key l = l := List.filter_eq_self.2 fun q hq => by simpa using h q hq
  unfold setP
  rw [e]
  have := List.perm_middle (a := p) (l₁ := ahead p.key l) (l₂ := behind p.key l)
  rwa [ahead_behind] at this
theorem sorted_perm : ∀ {l m : List Pr}, Sorted l → Sorted m → l.Perm m → l = m
  | [], m, _, _, h => (List.nil_perm.1 h).symm
  | a :: l, [], _, _, h => by have := h.length_eq; simp at this
  | a :: l, b :: m, hl, hm, h => by
    obtain ⟨l1, l2⟩ := List.pairwise_cons.1 hl
    obtain ⟨m1, m2⟩ := List.pairwise_cons.1 hm
    have e : a = b := by
      rcases List.mem_cons.1 (h.mem_iff.1 List.mem_cons_self : a ∈ b :: m) with e | ha
      · exact e
      rcases List.mem_cons.1 (h.mem_iff.2 List.mem_cons_self : b ∈ a :: l) with e | hb
      · exact e.symm
      have := lessB_asymm _ _ (m1 a ha)
      rw [l1 b hb] at this
      cases this
    subst e
    rw [sorted_perm l2 m2 (h.cons_inv)]
def prOf (d : Dg) : Pr := ⟨d.key, d.val⟩
def ApartD (l : List Dg) : Prop := l.Pairwise fun a b => a.key ≠ b.key
def DgOk (d : Dg) : Prop := d.key.length ≤ 60 ∧ d.val.length ≤ 200 ∧ d.gone = false
/-- doings of different keys make a book of them all -/
theorem playGo_perm : ∀ (l : List Dg) (i : Nat) (out : List Pr), Sorted out → ApartD l → (∀ d ∈ l, DgOk d) → (∀ d ∈ l, ∀ q ∈ out, q.key ≠ d.key) → out.length + l.length ≤ 200 → ∃ x, playGo i out l = .ok x ∧ x.Perm (l.map prOf ++ out) ∧ Sorted x
  | [], i, out, hs, _, _, _, _ => ⟨out, rfl, by simp, hs⟩
  | d :: l, i, out, hs, ha, ho, hq, hn => by
    obtain ⟨h1, h2, h3⟩ := ho d List.mem_cons_self
    obtain ⟨a1, a2⟩ := List.pairwise_cons.1 ha
    have hp := set_perm (prOf d) out (hq d List.mem_cons_self)
    have hlen := hp.length_eq
    rw [List.length_cons] at hlen hn
    have hs' : Sorted (setP (prOf d) out) := sorted_set _ _ hs
    obtain ⟨x, e, hx, hxs⟩ := playGo_perm l (i + 1) (setP (prOf d) out) hs' a2 (fun e he => ho e (List.mem_cons_of_mem _ he)) (fun e he q hq' => by
      rcases List.mem_cons.1 (hp.mem_iff.1 hq') with rfl | h
      · exact a1 e he
      · exact hq e (List.mem_cons_of_mem _ he) q h) (by omega)
    refine ⟨x, ?_, ?_, hxs⟩
    · rw [playGo, if_neg (by omega), h3, if_neg (by simp), if_neg (by show ¬ 200 < (setP (prOf d) out).length; omega)]
      exact e
    · refine hx.trans ?_
      rw [List.map_cons, List.cons_append]
      exact (List.Perm.append_left _ hp).trans List.perm_middle
theorem play_perm {l : List Dg} (ha : ApartD l) (ho : ∀ d ∈ l, DgOk d) (hn : l.length ≤ 200) : ∃ x, playL l = .ok x ∧ x.Perm (l.map prOf) ∧ Sorted x := by
  obtain ⟨x, h1, h2, h3⟩ := playGo_perm l 0 [] List.Pairwise.nil ha ho (fun _ _ _ h => (by cases h)) (by simpa using hn)
  exact ⟨x, h1, by simpa using h2, h3⟩
/-- setting one after the other -/
def setAll : List Dg → List Pr → List Pr
  | [], out => out
  | d :: l, out => setAll l (setP (prOf d) out)
theorem setAll_append : ∀ (l m : List Dg) (out : List Pr), setAll (l ++ m) out = setAll m (setAll l out)
  | [], _, _ => rfl
  | d :: l, m, out => by rw [List.cons_append, setAll, setAll, setAll_append l m]
theorem setAll_perm : ∀ (l : List Dg) (out : List Pr), Sorted out → ApartD l → (∀ d ∈ l, ∀ q ∈ out, q.key ≠ d.key) → (setAll l out).Perm (l.map prOf ++ out) ∧ Sorted (setAll l out)
  | [], out, hs, _, _ => ⟨by simp [setAll], hs⟩
  | d :: l, out, hs, ha, hq => by
    obtain ⟨a1, a2⟩ := List.pairwise_cons.1 ha
    have hp := set_perm (prOf d) out (hq d List.mem_cons_self)
    have hs' : Sorted (setP (prOf d) out) := sorted_set _ _ hs
    obtain ⟨hx, hxs⟩ := setAll_perm l (setP (prOf d) out) hs' a2 (fun e he q hq' => by
      rcases List.mem_cons.1 (hp.mem_iff.1 hq') with rfl | h
      · exact a1 e he
      · exact hq e (List.mem_cons_of_mem _ he) q h)
    refine ⟨?_, hxs⟩
    refine hx.trans ?_
    rw [List.map_cons, List.cons_append]
    exact (List.Perm.append_left _ hp).trans List.perm_middle

theorem bConn : bare47 kwConn := by unfold bare47 kwConn; decide
theorem bChan : bare47 kwChan := by unfold bare47 kwChan; decide
theorem bNext : bare47 kwNext := by unfold bare47 kwNext; decide
theorem bSent : bare47 kwSent := by unfold bare47 kwSent; decide
theorem bGot : bare47 kwGot := by unfold bare47 kwGot; decide
theorem bAck : bare47 kwAck := by unfold bare47 kwAck; decide
theorem wrongCn_ok {c : Cn} (h : wrongCn c = 0) : (1 ≤ c.state ∧ c.state ≤ 3) ∧ (0 ≤ c.client ∧ c.client ≤ 1000000000000) ∧ (0 ≤ c.oclient ∧ c.oclient ≤ 1000000000000) ∧ (-1 ≤ c.oconn ∧ c.oconn ≤ 1000000000000) := by
  unfold wrongCn at h
  split at h
  · cases h
  split at h
  · cases h
  rename_i h1 h2
  simp only [Bool.not_eq_false, Bool.and_eq_true, fromB_iff] at h2
  exact ⟨by omega, h2.1, h2.2.1, h2.2.2⟩
theorem wrongCh_ok {c : Ch} (h : wrongCh c = 0) : (1 ≤ c.state ∧ c.state ≤ 4) ∧ (0 ≤ c.conn ∧ c.conn ≤ 1000000000000) ∧ (-1 ≤ c.ochan ∧ c.ochan ≤ 1000000000000) ∧ (1 ≤ c.send ∧ c.send ≤ 1000000000000) ∧ (1 ≤ c.recv ∧ c.recv ≤ 1000000000000) ∧ (1 ≤ c.ack ∧ c.ack ≤ 1000000000000) := by
  unfold wrongCh at h
  split at h
  · cases h
  split at h
  · cases h
  rename_i h1 h2
  simp only [Bool.not_eq_false, Bool.and_eq_true, fromB_iff] at h2
  exact ⟨by omega, h2.1, h2.2.1, h2.2.2.1, h2.2.2.2.1, h2.2.2.2.2⟩
theorem wrongMk_ok {m : Mk} (h : wrongMk m = 0) : (0 ≤ m.chan ∧ m.chan ≤ 1000000000000) ∧ (1 ≤ m.seq ∧ m.seq ≤ 1000000000000) ∧ m.dig.length = 32 := by
  unfold wrongMk at h
  split at h
  · cases h
  split at h
  · cases h
  rename_i h1 h2
  simp only [Bool.not_eq_false, Bool.and_eq_true, fromB_iff] at h1
  exact ⟨h1.1, h1.2, by omega⟩

theorem keyL_len1 {k : List (BitVec 8)} {n : Nat} (hk : k.length ≤ 4) (hn : n < 10 ^ 13) : (keyL k [n]).length ≤ 60 := by
  have := digN_len 12 n hn
  simp [keyL]; omega
theorem keyL_len2 {k : List (BitVec 8)} {n m : Nat} (hk : k.length ≤ 4) (hn : n < 10 ^ 13) (hm : m < 10 ^ 13) : (keyL k [n, m]).length ≤ 60 := by
  have := digN_len 12 n hn
  have := digN_len 12 m hm
  simp [keyL]; omega
theorem mem_zip {α : Type} {l : List α} {x : α × Nat} (h : x ∈ l.zipIdx) : x.2 < l.length ∧ l[x.2]? = some x.1 := by
  obtain ⟨a, i⟩ := x
  have := List.mem_zipIdx_iff_getElem?.1 h
  exact ⟨(List.getElem?_eq_some_iff.1 this).1, this⟩
theorem connB_wr {c : Cn} (h : wrongCn c = 0) : (∀ n ∈ [c.state, c.client, c.oclient, c.oconn + 1], n.toNat < 18446744073709551616) := by
  obtain ⟨h1, h2, h3, h4⟩ := wrongCn_ok h
  intro n hn
  simp only [List.mem_cons, List.not_mem_nil, or_false] at hn
  omega
theorem chanB_wr {c : Ch} (h : wrongCh c = 0) : (∀ n ∈ [c.state, if c.ordered = true then 1 else 0, c.conn, c.ochan + 1], n.toNat < 18446744073709551616) := by
  obtain ⟨h1, h2, h3, h4, h5, h6⟩ := wrongCh_ok h
  intro n hn
  simp only [List.mem_cons, List.not_mem_nil, or_false] at hn
  split at hn <;> omega
theorem recvB_wr {c : Ch} (h : wrongCh c = 0) : (∀ n ∈ [c.recv], n.toNat < 18446744073709551616) := by
  obtain ⟨h1, h2, h3, h4, h5, h6⟩ := wrongCh_ok h
  intro n hn
  simp only [List.mem_cons, List.not_mem_nil, or_false] at hn
  omega
theorem entCn_ok {s : St} (h : Right s) : ∀ d ∈ s.conns.zipIdx.map entCn, DgOk d := by
  intro d hd
  obtain ⟨x, hx, rfl⟩ := List.mem_map.1 hd
  obtain ⟨h1, h2⟩ := mem_zip hx
  have := h.many.1
  exact ⟨keyL_len1 (by decide) (by omega), Nat.le_trans (nums_wr _ (by simp) (connB_wr (h.conns _ (List.mem_of_getElem? h2)))).2 (by decide), rfl⟩
theorem entCh_ok {s : St} (h : Right s) : ∀ d ∈ s.chans.zipIdx.flatMap entCh, DgOk d := by
  intro d hd
  obtain ⟨x, hx, hd⟩ := List.mem_flatMap.1 hd
  obtain ⟨h1, h2⟩ := mem_zip hx
  have := h.many.2.1
  have hc := h.chans _ (List.mem_of_getElem? h2)
  simp only [entCh, List.mem_cons, List.not_mem_nil, or_false] at hd
  rcases hd with rfl | rfl
  · exact ⟨keyL_len1 (by decide) (by omega), Nat.le_trans (nums_wr _ (by simp) (chanB_wr hc)).2 (by decide), rfl⟩
  · exact ⟨keyL_len1 (by decide) (by omega), Nat.le_trans (nums_wr _ (by simp) (recvB_wr hc)).2 (by decide), rfl⟩
theorem entMk_ok {k : List (BitVec 8)} {l : List Mk} (hk : k.length ≤ 4) (h : ∀ m ∈ l, wrongMk m = 0) : ∀ d ∈ l.map (entMk k), DgOk d := by
  intro d hd
  obtain ⟨m, hm, rfl⟩ := List.mem_map.1 hd
  obtain ⟨h1, h2, h3⟩ := wrongMk_ok (h m hm)
  exact ⟨keyL_len2 hk (by omega) (by omega), by show m.dig.length ≤ 200; omega, rfl⟩
theorem entries_ok {s : St} (h : Right s) : ∀ d ∈ entries s, DgOk d := by
  intro d hd
  unfold entries at hd
  simp only [List.mem_append] at hd
  rcases hd with hd | hd | hd | hd | hd
  · exact entCn_ok h d hd
  · exact entCh_ok h d hd
  · exact entMk_ok (by decide) h.sent.1 d hd
  · exact entMk_ok (by decide) h.got.1 d hd
  · exact entMk_ok (by decide) h.acks.1 d hd
/-- what a key of the book is of -/
def Kind (k : List (BitVec 8)) (d : Dg) : Prop := ∃ l, d.key = keyL k l
theorem kind_apart {a b : List (BitVec 8)} (ha : bare47 a) (hb : bare47 b) (hne : a ≠ b) {d e : Dg} (hd : Kind a d) (he : Kind b e) : d.key ≠ e.key := by
  obtain ⟨l, h1⟩ := hd
  obtain ⟨m, h2⟩ := he
  rw [h1, h2]
  exact fun h => hne (keyL_inj _ _ _ _ ha hb h).1
theorem kind_cn {s : St} : ∀ d ∈ s.conns.zipIdx.map entCn, Kind kwConn d := fun d hd => by
  obtain ⟨x, _, rfl⟩ := List.mem_map.1 hd
  exact ⟨_, rfl⟩
theorem kind_ch {s : St} : ∀ d ∈ s.chans.zipIdx.flatMap entCh, Kind kwChan d ∨ Kind kwNext d := fun d hd => by
  obtain ⟨x, _, hd⟩ := List.mem_flatMap.1 hd
  simp only [entCh, List.mem_cons, List.not_mem_nil, or_false] at hd
  rcases hd with rfl | rfl
  · exact .inl ⟨_, rfl⟩
  · exact .inr ⟨_, rfl⟩
theorem kind_mk {k : List (BitVec 8)} {l : List Mk} : ∀ d ∈ l.map (entMk k), Kind k d := fun d hd => by
  obtain ⟨x, _, rfl⟩ := List.mem_map.1 hd
  exact ⟨_, rfl⟩
theorem apart_cn : ∀ (l : List Cn) (i : Nat), ApartD ((l.zipIdx i).map entCn)
  | [], _ => List.Pairwise.nil
  | c :: l, i => by
    rw [List.zipIdx_cons, List.map_cons]
    refine List.pairwise_cons.2 ⟨fun d hd => ?_, apart_cn l (i + 1)⟩
    obtain ⟨x, hx, rfl⟩ := List.mem_map.1 hd
    have := List.le_snd_of_mem_zipIdx hx
    intro e
    have := (keyL_inj _ _ _ _ bConn bConn e).2
    simp at this
    omega
theorem apart_ch : ∀ (l : List Ch) (i : Nat), ApartD ((l.zipIdx i).flatMap entCh)
  | [], _ => List.Pairwise.nil
  | c :: l, i => by
    rw [List.zipIdx_cons, List.flatMap_cons]
    have hfar : ∀ d ∈ (l.zipIdx (i + 1)).flatMap entCh, ∀ k, (k = kwChan ∨ k = kwNext) → keyL k [i] ≠ d.key := by
      intro d hd k hk e
      obtain ⟨x, hx, hd⟩ := List.mem_flatMap.1 hd
      have := List.le_snd_of_mem_zipIdx hx
      have hb : bare47 k := by rcases hk with rfl | rfl; exact bChan; exact bNext
      simp only [entCh, List.mem_cons, List.not_mem_nil, or_false] at hd
      rcases hd with rfl | rfl
      · have := (keyL_inj _ _ _ _ hb bChan e).2
        simp at this
        omega
      · have := (keyL_inj _ _ _ _ hb bNext e).2
        simp at this
        omega
    refine List.pairwise_cons.2 ⟨fun d hd => ?_, List.pairwise_cons.2 ⟨fun d hd => ?_, ?_⟩⟩
    · rcases List.mem_cons.1 hd with rfl | hd
      · exact kind_apart bChan bNext (by decide) ⟨_, rfl⟩ ⟨_, rfl⟩
      · exact hfar d (by simpa using hd) _ (.inl rfl)
    · exact hfar d (by simpa using hd) _ (.inr rfl)
    · show ApartD ([] ++ (l.zipIdx (i + 1)).flatMap entCh)
      exact apart_ch l (i + 1)
theorem apart_mk {k : List (BitVec 8)} (hk : bare47 k) : ∀ (l : List Mk), (∀ m ∈ l, wrongMk m = 0) → (l.Pairwise fun a b => lessMk a b = true) → ApartD (l.map (entMk k))
  | [], _, _ => List.Pairwise.nil
  | m :: l, h, hp => by
    obtain ⟨p1, p2⟩ := List.pairwise_cons.1 hp
    rw [List.map_cons]
    refine List.pairwise_cons.2 ⟨fun d hd => ?_, apart_mk hk l (fun x hx => h x (List.mem_cons_of_mem _ hx)) p2⟩
    obtain ⟨x, hx, rfl⟩ := List.mem_map.1 hd
    intro e
    have := (keyL_inj _ _ _ _ hk hk e).2
    have h1 := wrongMk_ok (h m List.mem_cons_self)
    have h2 := wrongMk_ok (h x (List.mem_cons_of_mem _ hx))
    have h3 := p1 x hx
    simp [lessMk] at this h3
    omega
theorem apart_append {l m : List Dg} (hl : ApartD l) (hm : ApartD m) (h : ∀ d ∈ l, ∀ e ∈ m, d.key ≠ e.key) : ApartD (l ++ m) := List.pairwise_append.2 ⟨hl, hm, h⟩
theorem apart_marks {s : St} (h : Right s) : ApartD (s.sent.map (entMk kwSent) ++ (s.got.map (entMk kwGot) ++ s.acks.map (entMk kwAck))) := by
  refine apart_append (apart_mk bSent _ h.sent.1 h.sent.2) (apart_append (apart_mk bGot _ h.got.1 h.got.2) (apart_mk bAck _ h.acks.1 h.acks.2) ?_) ?_
  · exact fun d hd e he => kind_apart bGot bAck (by decide) (kind_mk d hd) (kind_mk e he)
  · intro d hd e he
    rcases List.mem_append.1 he with he | he
    · exact kind_apart bSent bGot (by decide) (kind_mk d hd) (kind_mk e he)
    · exact kind_apart bSent bAck (by decide) (kind_mk d hd) (kind_mk e he)
theorem entries_apart {s : St} (h : Right s) : ApartD (entries s) := by
  have hm : ∀ e ∈ s.sent.map (entMk kwSent) ++ (s.got.map (entMk kwGot) ++ s.acks.map (entMk kwAck)), Kind kwSent e ∨ Kind kwGot e ∨ Kind kwAck e := by
    intro e he
    simp only [List.mem_append] at he
    rcases he with he | he | he
    · exact .inl (kind_mk e he)
    · exact .inr (.inl (kind_mk e he))
    · exact .inr (.inr (kind_mk e he))
  refine apart_append (apart_cn _ 0) (apart_append (apart_ch _ 0) (apart_marks h) ?_) ?_
  · intro d hd e he
    rcases kind_ch d hd with h1 | h1 <;> rcases hm e he with h2 | h2 | h2
    · exact kind_apart bChan bSent (by decide) h1 h2
    · exact kind_apart bChan bGot (by decide) h1 h2
    · exact kind_apart bChan bAck (by decide) h1 h2
    · exact kind_apart bNext bSent (by decide) h1 h2
    · exact kind_apart bNext bGot (by decide) h1 h2
    · exact kind_apart bNext bAck (by decide) h1 h2
  · intro d hd e he
    have h1 := kind_cn d hd
    rcases List.mem_append.1 he with he | he
    · rcases kind_ch e he with h2 | h2
      · exact kind_apart bConn bChan (by decide) h1 h2
      · exact kind_apart bConn bNext (by decide) h1 h2
    · rcases hm e he with h2 | h2 | h2
      · exact kind_apart bConn bSent (by decide) h1 h2
      · exact kind_apart bConn bGot (by decide) h1 h2
      · exact kind_apart bConn bAck (by decide) h1 h2
theorem flat2_len : ∀ (l : List Ch) (i : Nat), ((l.zipIdx i).flatMap entCh).length = 2 * l.length
  | [], _ => rfl
  | c :: l, i => by
    rw [List.zipIdx_cons, List.flatMap_cons, List.length_append, flat2_len l (i + 1), List.length_cons]
    simp [entCh]; omega
theorem entries_len (s : St) : (entries s).length = s.conns.length + 2 * s.chans.length + s.sent.length + s.got.length + s.acks.length := by
  unfold entries
  simp only [List.length_append, List.length_map, List.length_zipIdx, flat2_len]
  omega
/-- a right state's book -/
def bookS (s : St) : List Pr := pout (entries s)
theorem book_of {s : St} (h : Right s) : playL (entries s) = .ok (bookS s) ∧ (bookS s).Perm ((entries s).map prOf) ∧ Sorted (bookS s) := by
  have hl : (entries s).length ≤ 200 := by rw [entries_len]; have := h.many; omega
  obtain ⟨x, h1, h2, h3⟩ := play_perm (entries_apart h) (entries_ok h) hl
  have e : bookS s = x := by unfold bookS pout; rw [h1]
  rw [e]
  exact ⟨h1, h2, h3⟩
theorem book_len {s : St} (h : Right s) : (bookS s).length = s.conns.length + 2 * s.chans.length + s.sent.length + s.got.length + s.acks.length := by
  rw [(book_of h).2.1.length_eq, List.length_map, entries_len]
end Go.Proofs.YtooemgkjkngpcaaDoor
