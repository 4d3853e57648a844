/-
  Plain mathematics of validators, headers and votes: what is wrong with them, their bytes and digests, who votes, how much power that is. No function of the program is named here.
  Records behind a slice value, so many cells each; validators, votes, headers as values. No function of the program is named here. What reads as bytes, validators or votes does so still when a row of another kind is written: its block is another one. A whole row that is written cell by cell.
  What isName and Wrong answer: whether a text is a name; what keeps a header from being one. They turn no memory that was there. What Vals answers, the landed one and the document's: what keeps a list from being validators. They turn no memory that was there.
  What power answers, with the two functions that it is handed: how much power those have whose places count, and how much all have.
  What slices.BinarySearchFunc answers over validators whose keys rise: where a key stands, or would stand; what voted answers. What voted and Overlap answer: whether a key votes; whether those who voted have more than a third of what is trusted.
-/
import Derived.Test.YtiflkkelbnpniaaGreatDoorSealGood
import Derived.Test.YtiflkkelbnpniaaGreatDoorWireBoth
import Derived.Test.YtiflkkelbnpniaaGreatDoorMemB
import Derived.Deep.QuietTactic
import Derived.BigQuiet
namespace Go.Proofs.YtiflkkelbnpniaaGreatDoor

/-- a validator -/
structure Vl where
  key : Nat
  power : Nat
/-- a vote -/
structure Vt where
  is : Bool
  r : Nat
  s : Nat
/-- a header -/
structure Hd where
  chain : ByteArray
  height : Int
  time : Int
  root : List (BitVec 8)
  vals : List (BitVec 8)
  next : List (BitVec 8)
/-- a header, validators, votes -/
structure Sg where
  hd : Hd
  vals : List Vl
  votes : List Vt
def Vl.ok (v : Vl) : Prop := v.key < 18446744073709551616 ∧ v.power < 18446744073709551616
def Vt.ok (v : Vt) : Prop := v.r < 18446744073709551616 ∧ v.s < 18446744073709551616
def Vt.none : Vt := ⟨false, 0, 0⟩
def Hd.none : Hd := ⟨⟨#[]⟩, 0, 0, [], [], []⟩
def Sg.none : Sg := ⟨Hd.none, [], []⟩
/-- as many bytes as the reach lets -/
def Hd.fits (h : Hd) : Prop := h.chain.size ≤ 140737488351232 ∧ h.root.length ≤ 140737488351232 ∧ h.vals.length ≤ 140737488351232 ∧ h.next.length ≤ 140737488351232
def Sg.fits (s : Sg) : Prop := s.hd.fits ∧ s.vals.length < 2305843009213693952 ∧ s.votes.length < 2305843009213693952 ∧ (∀ v ∈ s.vals, v.ok) ∧ ∀ v ∈ s.votes, v.ok

/-- what is wrong with validators, behind one with this key -/
def aheadB : Option Nat → Nat → Bool
  | none, _ => false
  | some k, x => decide (x ≤ k)
def valsGo (p : Option Nat) : List Vl → Int
  | [] => 0
  | v :: r => if v.power < 1 ∨ 1000000 < v.power then 3 else if aheadB p v.key = true then 2 else valsGo (some v.key) r
def valsN (l : List Vl) : Int := if l.length < 1 ∨ 10 < l.length then 5 else valsGo none l
/-- the key ahead of the k-th -/
def prevV (l : List Vl) (k : Nat) : Option Nat := if k = 0 then none else (l[k - 1]?).map (·.key)
theorem valsGo_at (l : List Vl) (k : Nat) (v : Vl) (h : l[k]? = some v) : valsGo (prevV l k) (l.drop k) =
    if v.power < 1 ∨ 1000000 < v.power then 3 else if aheadB (prevV l k) v.key = true then 2 else valsGo (prevV l (k + 1)) (l.drop (k + 1)) := by
  obtain ⟨hk, rfl⟩ := List.getElem?_eq_some_iff.1 h
  rw [List.drop_eq_getElem_cons hk, valsGo]
  have e : prevV l (k + 1) = some l[k].key := by unfold prevV; simp [hk]
  rw [e]
theorem valsGo_end (l : List Vl) (k : Nat) (h : l.length ≤ k) : valsGo (prevV l k) (l.drop k) = 0 := by
  rw [List.drop_eq_nil_of_le h, valsGo]
/-- right validators: few, of right power, keys rising -/
theorem valsGo_ok : ∀ (l : List Vl) (p : Option Nat), valsGo p l = 0 → (∀ v ∈ l, 1 ≤ v.power ∧ v.power ≤ 1000000) ∧ (∀ k, p = some k → ∀ v ∈ l, k < v.key) ∧ l.Pairwise (fun a b => a.key < b.key)
  | [], _, _ => ⟨by simp, by simp, List.Pairwise.nil⟩
  | v :: r, p, h => by
    rw [valsGo] at h
    split at h
    · cases h
    · rename_i h1
      split at h
      · cases h
      · rename_i h2
        obtain ⟨ih1, ih2, ih3⟩ := valsGo_ok r _ h
        have ih2' := ih2 v.key rfl
        refine ⟨fun x hx => ?_, fun k hk x hx => ?_, List.Pairwise.cons (fun x hx => ih2' x hx) ih3⟩
        · rcases List.mem_cons.1 hx with rfl | hx
          · omega
          · exact ih1 x hx
        · subst hk
          simp [aheadB] at h2
          rcases List.mem_cons.1 hx with rfl | hx
          · exact h2
          · exact Nat.lt_trans h2 (ih2' x hx)
theorem valsN_ok {l : List Vl} (h : valsN l = 0) : 1 ≤ l.length ∧ l.length ≤ 10 ∧ (∀ v ∈ l, 1 ≤ v.power ∧ v.power ≤ 1000000) ∧ l.Pairwise (fun a b => a.key < b.key) := by
  unfold valsN at h
  split at h
  · cases h
  · rename_i h1
    obtain ⟨h2, _, h3⟩ := valsGo_ok l none h
    exact ⟨by omega, by omega, h2, h3⟩

/-- a letter of a name -/
def nameC (c : UInt8) : Bool := (decide (97 ≤ c.toNat) && decide (c.toNat ≤ 122)) || (decide (48 ≤ c.toNat) && decide (c.toNat ≤ 57))
def nameB (s : ByteArray) : Bool := decide (1 ≤ s.size) && decide (s.size ≤ 20) && s.data.toList.all nameC
theorem nameB_short {s : ByteArray} (h : s.size < 1 ∨ 20 < s.size) : nameB s = false := by
  unfold nameB
  rcases h with h | h
  · rw [decide_eq_false (by omega)]; rfl
  · rw [decide_eq_false (by omega : ¬ s.size ≤ 20)]; simp
theorem nameB_at {s : ByteArray} (k : Nat) (hk : k < s.size) (h : nameC s[k] = false) : nameB s = false := by
  unfold nameB
  have : s.data.toList.all nameC = false := by
    rw [List.all_eq_false]
    refine ⟨s[k], ?_, by rw [h]; decide⟩
    exact Array.mem_toList_iff.2 (Array.getElem_mem (xs := s.data) hk)
  rw [this, Bool.and_false]
theorem nameB_all {s : ByteArray} (h1 : 1 ≤ s.size) (h2 : s.size ≤ 20) (h : ∀ k (hk : k < s.size), nameC s[k] = true) : nameB s = true := by
  unfold nameB
  rw [decide_eq_true h1, decide_eq_true h2]
  simp only [Bool.and_self, Bool.true_and]
  rw [List.all_eq_true]
  intro x hx
  obtain ⟨k, hk, rfl⟩ := List.getElem_of_mem hx
  exact h k (by simpa using hk)
theorem nameB_size {s : ByteArray} (h : nameB s = true) : 1 ≤ s.size ∧ s.size ≤ 20 := by
  unfold nameB at h
  simp at h
  exact ⟨h.1.1, h.1.2⟩
def wrongH (h : Hd) : Int :=
  if nameB h.chain = false then 7 else if h.height < 1 ∨ 1000000000000 < h.height ∨ h.time < 0 ∨ 1000000000000 < h.time then 3
  else if h.root.length ≠ 32 ∨ h.vals.length ≠ 32 ∨ h.next.length ≠ 32 then 2 else 0
theorem wrongH_ok {h : Hd} (e : wrongH h = 0) : (nameB h.chain = true ∧ 1 ≤ h.chain.size ∧ h.chain.size ≤ 20) ∧ (1 ≤ h.height ∧ h.height ≤ 1000000000000 ∧ 0 ≤ h.time ∧ h.time ≤ 1000000000000) ∧ h.root.length = 32 ∧ h.vals.length = 32 ∧ h.next.length = 32 := by
  unfold wrongH at e
  split at e
  · cases e
  · rename_i h1
    split at e
    · cases e
    · rename_i h2
      split at e
      · cases e
      · rename_i h3
        have hn : nameB h.chain = true := by simpa using h1
        exact ⟨⟨hn, nameB_size hn⟩, by omega, by omega⟩
/-- a text's letters -/
def lets (s : ByteArray) : List (BitVec 8) := s.data.toList.map UInt8.toBitVec
theorem lets_length (s : ByteArray) : (lets s).length = s.size := by simp [lets]
theorem lets_inj {s t : ByteArray} (h : lets s = lets t) : s = t := by
  have : s.data.toList = t.data.toList := by
    refine List.map_inj_right (f := UInt8.toBitVec) ?_ |>.1 h
    intro x y e
    exact UInt8.eq_of_toBitVec_eq e
  obtain ⟨a⟩ := s
  obtain ⟨b⟩ := t
  simp at this
  rw [this]

/-- a validator's two pieces -/
def vPieces (l : List Vl) : List Pc := l.flatMap fun v => [⟨1, v.key, []⟩, ⟨1, v.power, []⟩]
theorem vPieces_length (l : List Vl) : (vPieces l).length = 2 * l.length := by
  induction l with
  | nil => rfl
  | cons v r ih => simp [vPieces] at ih ⊢; omega
theorem vPieces_take (l : List Vl) (k : Nat) (v : Vl) (h : l[k]? = some v) : vPieces (l.take (k + 1)) = vPieces (l.take k) ++ [⟨1, v.key, []⟩, ⟨1, v.power, []⟩] := by
  obtain ⟨hk, rfl⟩ := List.getElem?_eq_some_iff.1 h
  rw [List.take_succ_eq_append_getElem hk]
  unfold vPieces
  rw [List.flatMap_append]
  rfl
def vBytes (l : List Vl) : List (BitVec 8) := numB (vPieces l).length ++ wrs (vPieces l)
def digV (l : List Vl) : List (BitVec 8) := sha (vBytes l)
theorem digV_length (l : List Vl) : (digV l).length = 32 := sha_length _
theorem wrs_vals : ∀ (l : List Vl), (∀ v ∈ l, v.ok) → (wrs (vPieces l)).length ≤ 22 * l.length
  | [], _ => by simp [wrs, vPieces]
  | v :: r, h => by
    have ih := wrs_vals r (fun x hx => h x (List.mem_cons_of_mem _ hx))
    obtain ⟨h1, h2⟩ := h v List.mem_cons_self
    have e1 := numB_ten v.key h1
    have e2 := numB_ten v.power h2
    have : wrs (vPieces (v :: r)) = (0 :: numB v.key) ++ ((0 :: numB v.power) ++ wrs (vPieces r)) := by
      simp [wrs, vPieces, Pc.wr]
    rw [this]
    simp
    omega
theorem wrAll_vals (l : List Vl) (hl : l.length ≤ 10) (h : ∀ v ∈ l, v.ok) : wrAll (vPieces l) = .ok (vBytes l) := by
  have hn := vPieces_length l
  unfold wrAll vBytes
  rw [if_neg (by omega)]
  have h1 := wrs_vals l h
  have h2 := numB_ten (vPieces l).length (by omega)
  refine wrGo_of _ _ _ (fun p hp => ?_) (by simp; omega)
  obtain ⟨v, _, hv⟩ := List.mem_flatMap.1 hp
  simp at hv
  rcases hv with rfl | rfl
  · exact .inl rfl
  · exact .inl rfl
theorem vBytes_length (l : List Vl) (hl : l.length ≤ 10) (h : ∀ v ∈ l, v.ok) : (vBytes l).length ≤ 300 := by
  have hn := vPieces_length l
  have h1 := wrs_vals l h
  have h2 := numB_ten (vPieces l).length (by omega)
  unfold vBytes
  simp
  omega
/-- a header's six pieces -/
def hPieces (h : Hd) : List Pc := [⟨2, 0, lets h.chain⟩, ⟨1, h.height.toNat, []⟩, ⟨1, h.time.toNat, []⟩, ⟨2, 0, h.root⟩, ⟨2, 0, h.vals⟩, ⟨2, 0, h.next⟩]
def bytesH (h : Hd) : List (BitVec 8) := numB 6 ++ wrs (hPieces h)
theorem wrs_head (h : Hd) (e : wrongH h = 0) : (bytesH h).length ≤ 300 := by
  obtain ⟨⟨_, h1, h2⟩, h3, h4, h5, h6⟩ := wrongH_ok e
  have e1 := numB_ten h.height.toNat (by omega)
  have e2 := numB_ten h.time.toNat (by omega)
  have e3 := numB_ten 6 (by omega)
  have e4 := numB_ten (lets h.chain).length (by rw [lets_length]; omega)
  have e5 := numB_ten 32 (by omega)
  have hl := lets_length h.chain
  unfold bytesH
  simp [wrs, hPieces, Pc.wr, h4, h5, h6]
  omega
theorem wrAll_head (h : Hd) (e : wrongH h = 0) : wrAll (hPieces h) = .ok (bytesH h) := by
  have h1 := wrs_head h e
  unfold wrAll
  rw [if_neg (by simp [hPieces])]
  refine wrGo_of _ _ _ (fun p hp => ?_) (by exact Nat.le_trans h1 (by omega))
  simp [hPieces] at hp
  rcases hp with rfl | rfl | rfl | rfl | rfl | rfl <;> simp
theorem hPieces_fits (h : Hd) (e : wrongH h = 0) : ∀ p ∈ hPieces h, p.ok ∧ p.b.length ≤ 140737488351232 := by
  obtain ⟨⟨_, h1, h2⟩, h3, h4, h5, h6⟩ := wrongH_ok e
  have hl := lets_length h.chain
  intro p hp
  simp [hPieces] at hp
  rcases hp with rfl | rfl | rfl | rfl | rfl | rfl <;> simp [Pc.ok] <;> omega
/-- right headers with the same bytes are the same -/
theorem bytesH_inj {a b : Hd} (ha : wrongH a = 0) (hb : wrongH b = 0) (e : bytesH a = bytesH b) : a = b := by
  have h := (wr_inj (hPieces a) (hPieces b) _ _ (fun p hp => (hPieces_fits a ha p hp).1) (fun p hp => (hPieces_fits b hb p hp).1) (wrAll_head a ha) (wrAll_head b hb)).1 e
  obtain ⟨_, h3, _⟩ := wrongH_ok ha
  obtain ⟨_, k3, _⟩ := wrongH_ok hb
  simp [hPieces, Pc.norm] at h
  obtain ⟨e1, e2, e3, e4, e5, e6⟩ := h
  have e1' := lets_inj e1
  obtain ⟨a1, a2, a3, a4, a5, a6⟩ := a
  obtain ⟨b1, b2, b3, b4, b5, b6⟩ := b
  simp at e1' e2 e3 e4 e5 e6 h3 k3
  obtain rfl : a2 = b2 := by omega
  obtain rfl : a3 = b3 := by omega
  rw [e1', e4, e5, e6]

/-- what keeps h from being a header of these validators -/
def togetherN (h : Hd) (l : List Vl) : Int := if wrongH h ≠ 0 then wrongH h else if valsN l ≠ 0 then valsN l else if h.vals = digV l then 0 else 8
theorem togetherN_ok {h : Hd} {l : List Vl} (e : togetherN h l = 0) : wrongH h = 0 ∧ valsN l = 0 ∧ h.vals = digV l := by
  unfold togetherN at e
  split at e
  · rename_i h1; exact absurd e h1
  · rename_i h1
    split at e
    · rename_i h2; exact absurd e h2
    · rename_i h2
      split at e
      · rename_i h3; exact ⟨by omega, by omega, h3⟩
      · cases e
/-- a good seal, by what it is reckoned of -/
def goodB (key : Nat) (m : List (BitVec 8)) (r s : Nat) : Bool :=
  decide (1 ≤ key ∧ key < 1152921504606849707) && (decide (1 ≤ r ∧ r < 1152921504606849707) && (decide (s < 576460752303424853) && (decide (powQ key = 1) && decide (powP 4 s = mulP r (powP key (askN r key m))))))
theorem goodB_iff (key : Nat) (m : List (BitVec 8)) (r s : Nat) : goodB key m r s = true ↔ goodN key m r s := by
  unfold goodB goodN
  simp only [Bool.and_eq_true, decide_eq_true_eq]
theorem goodB_of {key : Nat} {m : List (BitVec 8)} {r s : Nat} {b : Bool} (h : b = true ↔ goodN key m r s) : b = goodB key m r s := by
  rw [Bool.eq_iff_iff, goodB_iff]; exact h
/-- all votes are good -/
def goodAll (m : List (BitVec 8)) : List Vl → List Vt → Bool
  | v :: l, t :: r => (!t.is || goodB v.key m t.r t.s) && goodAll m l r
  | _, _ => true
/-- how much power votes have -/
def yesP : List Vl → List Vt → Nat
  | v :: l, t :: r => (if t.is then v.power else 0) + yesP l r
  | _, _ => 0
def allP (l : List Vl) : Nat := (l.map (·.power)).sum
def checkN (s : Sg) : Int :=
  if togetherN s.hd s.vals ≠ 0 then togetherN s.hd s.vals else if s.votes.length ≠ s.vals.length then 8
  else if goodAll (bytesH s.hd) s.vals s.votes = false then 10 else if 3 * yesP s.vals s.votes ≤ 2 * allP s.vals then 10 else 0
theorem checkN_ok {s : Sg} (e : checkN s = 0) : togetherN s.hd s.vals = 0 ∧ s.votes.length = s.vals.length ∧ goodAll (bytesH s.hd) s.vals s.votes = true ∧ 2 * allP s.vals < 3 * yesP s.vals s.votes := by
  unfold checkN at e
  split at e
  · rename_i h1; exact absurd e h1
  · rename_i h1
    split at e
    · cases e
    · rename_i h2
      split at e
      · cases e
      · rename_i h3
        split at e
        · cases e
        · rename_i h4
          exact ⟨by omega, by omega, by simpa using h3, by omega⟩
/-- does who has this key vote -/
def votedB (key : Nat) : List Vl → List Vt → Bool
  | v :: l, t :: r => (decide (v.key = key) && t.is) || votedB key l r
  | _, _ => false
/-- how much of what is trusted votes -/
def overP (s : Sg) : List Vl → Nat
  | [] => 0
  | v :: l => (if votedB v.key s.vals s.votes then v.power else 0) + overP s l
def overB (t : List Vl) (s : Sg) : Bool := decide (allP t < 3 * overP s t)

/-- the last seed that has this key -/
def lastSeed (seeds : List (List (BitVec 8))) (k : Nat) : Option (List (BitVec 8)) := seeds.reverse.find? fun s => decide (keyN s = k)
def voteOf (seeds : List (List (BitVec 8))) (m : List (BitVec 8)) (k : Nat) : Vt :=
  match lastSeed seeds k with
  | none => Vt.none
  | some s => ⟨true, sealR s m, sealS s m⟩
def votesOf (seeds : List (List (BitVec 8))) (m : List (BitVec 8)) (l : List Vl) : List Vt := l.map fun v => voteOf seeds m v.key
/-- what Sign answers -/
def signS (h : Hd) (l : List Vl) (seeds : List (List (BitVec 8))) : Sg := if togetherN h l = 0 then ⟨h, l, votesOf seeds (bytesH h) l⟩ else Sg.none

theorem allP_le : ∀ (l : List Vl), (∀ v ∈ l, v.power ≤ 1000000) → allP l ≤ 1000000 * l.length
  | [], _ => by simp [allP]
  | v :: r, h => by
    have ih := allP_le r (fun x hx => h x (List.mem_cons_of_mem _ hx))
    have := h v List.mem_cons_self
    simp [allP] at ih ⊢
    omega
theorem yesP_le : ∀ (l : List Vl) (m : List Vt), yesP l m ≤ allP l
  | [], _ => by simp [yesP]
  | v :: l, [] => by simp [yesP]
  | v :: l, t :: m => by
    have ih := yesP_le l m
    simp [yesP, allP] at ih ⊢
    split <;> omega
theorem overP_le (s : Sg) : ∀ (l : List Vl), overP s l ≤ allP l
  | [] => by simp [overP]
  | v :: l => by
    have ih := overP_le s l
    simp [overP, allP] at ih ⊢
    split <;> omega
end Go.Proofs.YtiflkkelbnpniaaGreatDoor
namespace Go.Proofs.YtiflkkelbnpniaaGreatDoor
open Go.RowKit

/-- sv is a slice whose entries are rows of k cells, below block number N -/
def Recs (w : World) (N : Nat) (sv : Value) (k : Nat) (rs : List (List Value)) : Prop :=
  (sv = .slice none 0 0 ∧ rs = []) ∨ (∃ a cap, sv = .slice (some a) 0 cap ∧ rs = []) ∨
  ∃ b off cap, sv = .slice (some ⟨b, off, none⟩) rs.length cap ∧ rs.length ≤ cap ∧ ∀ i r, rs[i]? = some r → b < N ∧ ∀ j x, r[j]? = some x → w.cell? ⟨b, off + i * k + j, none⟩ = some x
theorem Recs.shape {w : World} {N k : Nat} {sv : Value} {rs : List (List Value)} (h : Recs w N sv k rs) : ∃ oa cap, sv = .slice oa rs.length cap ∧ rs.length ≤ cap := by
  rcases h with ⟨rfl, rfl⟩ | ⟨a, cap, rfl, rfl⟩ | ⟨b, off, cap, rfl, hc, _⟩
  · exact ⟨none, 0, rfl, Nat.le_refl _⟩
  · exact ⟨_, cap, rfl, Nat.zero_le _⟩
  · exact ⟨_, cap, rfl, hc⟩
theorem Recs.spot {w : World} {N k : Nat} {oa : Option Addr} {n cap : Nat} {rs : List (List Value)} (h : Recs w N (.slice oa n cap) k rs) (hl : 0 < n) :
    ∃ b off, oa = some ⟨b, off, none⟩ ∧ ∀ i r, rs[i]? = some r → b < N ∧ ∀ j x, r[j]? = some x → w.cell? ⟨b, off + i * k + j, none⟩ = some x := by
  rcases h with ⟨h1, _⟩ | ⟨_, _, h1, _⟩ | ⟨b, off, c, h1, _, h3⟩
  · simp at h1; omega
  · simp at h1; omega
  · simp at h1
    exact ⟨b, off, h1.1, h3⟩
theorem Recs.below {w w' : World} {N k : Nat} {sv : Value} {rs : List (List Value)} (h : Recs w N sv k rs) (hg : Below N w w') : Recs w' N sv k rs := by
  rcases h with h | h | ⟨b, off, cap, h1, h2, h3⟩
  · exact .inl h
  · exact .inr (.inl h)
  · refine .inr (.inr ⟨b, off, cap, h1, h2, fun i r hr => ?_⟩)
    obtain ⟨hb, hc⟩ := h3 i r hr
    exact ⟨hb, fun j x hx => (hg.cell hb).trans (hc j x hx)⟩
theorem Recs.mono {w : World} {N M k : Nat} {sv : Value} {rs : List (List Value)} (h : Recs w N sv k rs) (hN : N ≤ M) : Recs w M sv k rs := by
  rcases h with h | h | ⟨b, off, cap, h1, h2, h3⟩
  · exact .inl h
  · exact .inr (.inl h)
  · exact .inr (.inr ⟨b, off, cap, h1, h2, fun i r hr => ⟨Nat.lt_of_lt_of_le (h3 i r hr).1 hN, (h3 i r hr).2⟩⟩)
theorem flatten_get {k : Nat} : ∀ (rs : List (List Value)) (i j : Nat) (r : List Value), (∀ r ∈ rs, r.length = k) → rs[i]? = some r → j < k → rs.flatten[i * k + j]? = r[j]?
  | [], i, j, r, _, h, _ => by simp at h
  | a :: rs, i, j, r, hk, h, hj => by
    have ha := hk a List.mem_cons_self
    rw [List.flatten_cons]
    cases i with
    | zero =>
      obtain rfl : a = r := by simpa using h
      rw [Nat.zero_mul, Nat.zero_add, List.getElem?_append_left (by omega)]
    | succ i =>
      rw [List.getElem?_append_right (by rw [ha, Nat.succ_mul]; omega), ha, show (i + 1) * k + j - k = i * k + j by rw [Nat.succ_mul]; omega]
      exact flatten_get rs i j r (fun r hr => hk r (List.mem_cons_of_mem _ hr)) (by simpa using h) hj
/-- what is owned reads as records -/
theorem ownsRow_recs {w : World} {base e k : Nat} {v : Value} {rs : List (List Value)} (h : w.ownsRow base e k v rs.length rs.flatten) (hk : ∀ r ∈ rs, r.length = k) : Recs w w.heap.size v k rs := by
  obtain ⟨h1, h2⟩ := h
  rcases h2 with ⟨rfl, h0⟩ | ⟨g, cap, cur, rfl, _, hg, hn, _, hc, hx⟩
  · exact .inl ⟨rfl, List.length_eq_zero_iff.1 h0⟩
  · refine .inr (.inr ⟨g, 0, cap, rfl, hn, fun i r hr => ⟨(Array.getElem?_eq_some_iff.1 hg).1, fun j x hj => ?_⟩⟩)
    have hlt : j < k := by
      have := (List.getElem?_eq_some_iff.1 hj).1
      rw [hk r (List.mem_of_getElem? hr)] at this
      exact this
    have hil : i < rs.length := (List.getElem?_eq_some_iff.1 hr).1
    rw [cell_of_row w g _ cur _ _ hg, Nat.zero_add, ← hj, ← flatten_get rs i j r hk hr hlt, ← hx, List.getElem?_take, if_pos, Array.getElem?_toList]
    have : (i + 1) * k ≤ rs.length * k := Nat.mul_le_mul_right k hil
    rw [Nat.succ_mul] at this
    omega
/-- .. and as a source of cells -/
theorem Recs.source {w : World} {N k : Nat} {x : Value} {rs : List (List Value)} (h : Recs w N x k rs) (hk : ∀ r ∈ rs, r.length = k) (h0 : 0 < k) :
    (x = .slice none 0 0 ∧ rs = []) ∨ ∃ ad cap, x = .slice (some ad) rs.length cap ∧ ∀ j v, rs.flatten[j]? = some v → w.cell? (ad.add j) = some v := by
  rcases h with h | ⟨a, cap, rfl, rfl⟩ | ⟨b, off, cap, rfl, _, hc⟩
  · exact .inl h
  · exact .inr ⟨a, cap, rfl, fun j v hv => by simp at hv⟩
  · refine .inr ⟨_, cap, rfl, fun j v hv => ?_⟩
    have hadd : (⟨b, off, none⟩ : Addr).add j = ⟨b, off + j, none⟩ := by unfold Addr.add; split <;> simp_all
    have hlen : rs.flatten.length = rs.length * k := by
      rw [List.length_flatten]
      have : ∀ (l : List (List Value)), (∀ r ∈ l, r.length = k) → (l.map List.length).sum = l.length * k := by
        intro l
        induction l with
        | nil => simp
        | cons a l ih =>
          intro h
          rw [List.map_cons, List.sum_cons, ih (fun r hr => h r (List.mem_cons_of_mem _ hr)), h a List.mem_cons_self, List.length_cons, Nat.succ_mul]
          omega
      exact this rs hk
    have hj : j < rs.length * k := by rw [← hlen]; exact (List.getElem?_eq_some_iff.1 hv).1
    have hi : j / k < rs.length := Nat.div_lt_of_lt_mul (by rw [Nat.mul_comm]; exact hj)
    obtain ⟨r, hr⟩ : ∃ r, rs[j / k]? = some r := ⟨_, List.getElem?_eq_getElem hi⟩
    have e : j / k * k + j % k = j := Nat.div_add_mod' j k
    rw [← e, flatten_get rs (j / k) (j % k) r hk hr (Nat.mod_lt _ h0)] at hv
    have := (hc (j / k) r hr).2 _ _ hv
    rw [hadd]
    rwa [Nat.add_assoc, e] at this

def vlRow (v : Vl) : List Value := [.int .u64 (v.key : Int), .int .u64 (v.power : Int)]
def vtRow (v : Vt) : List Value := [.bool v.is, .int .u64 (v.r : Int), .int .u64 (v.s : Int)]
/-- a slice that reads as validators -/
def Vals (w : World) (N : Nat) (sv : Value) (l : List Vl) : Prop := Recs w N sv 2 (l.map vlRow)
/-- a slice that reads as votes -/
def Votes (w : World) (N : Nat) (sv : Value) (l : List Vt) : Prop := Recs w N sv 3 (l.map vtRow)
theorem Vals.below {w w' : World} {N : Nat} {sv : Value} {l : List Vl} (h : Vals w N sv l) (hg : Below N w w') : Vals w' N sv l := Recs.below h hg
theorem Votes.below {w w' : World} {N : Nat} {sv : Value} {l : List Vt} (h : Votes w N sv l) (hg : Below N w w') : Votes w' N sv l := Recs.below h hg
theorem Vals.mono {w : World} {N M : Nat} {sv : Value} {l : List Vl} (h : Vals w N sv l) (hg : N ≤ M) : Vals w M sv l := Recs.mono h hg
theorem Votes.mono {w : World} {N M : Nat} {sv : Value} {l : List Vt} (h : Votes w N sv l) (hg : N ≤ M) : Votes w M sv l := Recs.mono h hg
theorem Vals.shape {w : World} {N : Nat} {sv : Value} {l : List Vl} (h : Vals w N sv l) : ∃ oa cap, sv = .slice oa l.length cap ∧ l.length ≤ cap := by
  obtain ⟨oa, cap, h1, h2⟩ := Recs.shape h
  rw [List.length_map] at h1 h2
  exact ⟨oa, cap, h1, h2⟩
theorem Votes.shape {w : World} {N : Nat} {sv : Value} {l : List Vt} (h : Votes w N sv l) : ∃ oa cap, sv = .slice oa l.length cap ∧ l.length ≤ cap := by
  obtain ⟨oa, cap, h1, h2⟩ := Recs.shape h
  rw [List.length_map] at h1 h2
  exact ⟨oa, cap, h1, h2⟩
theorem Vals.spot {w : World} {N : Nat} {oa : Option Addr} {n cap : Nat} {l : List Vl} (h : Vals w N (.slice oa n cap) l) (hl : 0 < n) :
    ∃ b off, oa = some ⟨b, off, none⟩ ∧ ∀ i v, l[i]? = some v → b < N ∧ w.cell? ⟨b, off + i * 2, none⟩ = some (.int .u64 (v.key : Int)) ∧ w.cell? ⟨b, off + i * 2 + 1, none⟩ = some (.int .u64 (v.power : Int)) := by
  obtain ⟨b, off, h1, h2⟩ := Recs.spot h hl
  refine ⟨b, off, h1, fun i v hv => ?_⟩
  obtain ⟨h3, h4⟩ := h2 i (vlRow v) (by simp [hv])
  exact ⟨h3, h4 0 _ rfl, h4 1 _ rfl⟩
theorem Votes.spot {w : World} {N : Nat} {oa : Option Addr} {n cap : Nat} {l : List Vt} (h : Votes w N (.slice oa n cap) l) (hl : 0 < n) :
    ∃ b off, oa = some ⟨b, off, none⟩ ∧ ∀ i v, l[i]? = some v → b < N ∧ w.cell? ⟨b, off + i * 3, none⟩ = some (.bool v.is) ∧ w.cell? ⟨b, off + i * 3 + 1, none⟩ = some (.int .u64 (v.r : Int)) ∧ w.cell? ⟨b, off + i * 3 + 2, none⟩ = some (.int .u64 (v.s : Int)) := by
  obtain ⟨b, off, h1, h2⟩ := Recs.spot h hl
  refine ⟨b, off, h1, fun i v hv => ?_⟩
  obtain ⟨h3, h4⟩ := h2 i (vtRow v) (by simp [hv])
  exact ⟨h3, h4 0 _ rfl, h4 1 _ rfl, h4 2 _ rfl⟩
theorem vlRow_len {l : List Vl} : ∀ r ∈ l.map vlRow, r.length = 2 := fun r hr => by obtain ⟨_, _, rfl⟩ := List.mem_map.1 hr; rfl
theorem vtRow_len {l : List Vt} : ∀ r ∈ l.map vtRow, r.length = 3 := fun r hr => by obtain ⟨_, _, rfl⟩ := List.mem_map.1 hr; rfl
/-- v reads as the header h, in blocks below N -/
def HdV (w : World) (N : Nat) (v : Value) (h : Hd) : Prop := ∃ rv vv nv, v = .agg #[.string h.chain, .int .i64 h.height, .int .i64 h.time, rv, vv, nv] ∧ Bytes w N rv h.root ∧ Bytes w N vv h.vals ∧ Bytes w N nv h.next
theorem HdV.below {w w' : World} {N : Nat} {v : Value} {h : Hd} (k : HdV w N v h) (hg : Below N w w') : HdV w' N v h := by
  obtain ⟨rv, vv, nv, rfl, h1, h2, h3⟩ := k
  exact ⟨rv, vv, nv, rfl, h1.below hg, h2.below hg, h3.below hg⟩
theorem HdV.mono {w : World} {N M : Nat} {v : Value} {h : Hd} (k : HdV w N v h) (hg : N ≤ M) : HdV w M v h := by
  obtain ⟨rv, vv, nv, rfl, h1, h2, h3⟩ := k
  exact ⟨rv, vv, nv, rfl, h1.mono hg, h2.mono hg, h3.mono hg⟩
/-- v reads as a signed header -/
def SgV (w : World) (N : Nat) (v : Value) (s : Sg) : Prop := ∃ rv vv nv lv tv, v = .agg #[.string s.hd.chain, .int .i64 s.hd.height, .int .i64 s.hd.time, rv, vv, nv, lv, tv] ∧ Bytes w N rv s.hd.root ∧ Bytes w N vv s.hd.vals ∧ Bytes w N nv s.hd.next ∧ Vals w N lv s.vals ∧ Votes w N tv s.votes
theorem SgV.below {w w' : World} {N : Nat} {v : Value} {s : Sg} (k : SgV w N v s) (hg : Below N w w') : SgV w' N v s := by
  obtain ⟨rv, vv, nv, lv, tv, rfl, h1, h2, h3, h4, h5⟩ := k
  exact ⟨rv, vv, nv, lv, tv, rfl, h1.below hg, h2.below hg, h3.below hg, h4.below hg, h5.below hg⟩
theorem SgV.mono {w : World} {N M : Nat} {v : Value} {s : Sg} (k : SgV w N v s) (hg : N ≤ M) : SgV w M v s := by
  obtain ⟨rv, vv, nv, lv, tv, rfl, h1, h2, h3, h4, h5⟩ := k
  exact ⟨rv, vv, nv, lv, tv, rfl, h1.mono hg, h2.mono hg, h3.mono hg, h4.mono hg, h5.mono hg⟩
theorem Lists.up {w : World} {N M : Nat} {sv : Value} {ls : List (List (BitVec 8))} (h : Lists w N sv ls) (hN : N ≤ M) : Lists w M sv ls := by
  rcases h with h | h | ⟨b, off, cap, h1, h2, h3⟩
  · exact .inl h
  · exact .inr (.inl h)
  · refine .inr (.inr ⟨b, off, cap, h1, h2, fun i hi => ?_⟩)
    obtain ⟨hb, x, hx, hbx⟩ := h3 i hi
    exact ⟨Nat.lt_of_lt_of_le hb hN, x, hx, hbx.mono hN⟩
/-- six cells of a header in a box; eight of a signed one -/
theorem Row.six {w : World} {g : Nat} {t : TypeId} {a b c d e f : Value} (h : Row w g t [a, b, c, d, e, f]) :
    w.cell? ⟨g, 0, none⟩ = some a ∧ w.cell? ⟨g, 1, none⟩ = some b ∧ w.cell? ⟨g, 2, none⟩ = some c ∧ w.cell? ⟨g, 3, none⟩ = some d ∧ w.cell? ⟨g, 4, none⟩ = some e ∧ w.cell? ⟨g, 5, none⟩ = some f :=
  ⟨h.cell 0, h.cell 1, h.cell 2, h.cell 3, h.cell 4, h.cell 5⟩
theorem Row.eight {w : World} {g : Nat} {t : TypeId} {a b c d e f x y : Value} (h : Row w g t [a, b, c, d, e, f, x, y]) :
    w.cell? ⟨g, 0, none⟩ = some a ∧ w.cell? ⟨g, 1, none⟩ = some b ∧ w.cell? ⟨g, 2, none⟩ = some c ∧ w.cell? ⟨g, 3, none⟩ = some d ∧ w.cell? ⟨g, 4, none⟩ = some e ∧ w.cell? ⟨g, 5, none⟩ = some f ∧ w.cell? ⟨g, 6, none⟩ = some x ∧ w.cell? ⟨g, 7, none⟩ = some y :=
  ⟨h.cell 0, h.cell 1, h.cell 2, h.cell 3, h.cell 4, h.cell 5, h.cell 6, h.cell 7⟩
end Go.Proofs.YtiflkkelbnpniaaGreatDoor
namespace Go.Proofs.YtiflkkelbnpniaaGreatDoor
open Go.RowKit

/-- texts, numbers of the plain kind, slices -/
def plainV : Value → Bool
  | .string _ => true
  | .int .i64 _ => true
  | .slice _ _ _ => true
  | _ => false
theorem only_cell {w w' : World} {g b o : Nat} {t : TypeId} {cs : List Value} {x : Value} (hr : Row w g t cs) (hp : cs.all plainV = true) (ho : ∀ k, k ≠ g → w'.heap[k]? = w.heap[k]?) (hc : w.cell? ⟨b, o, none⟩ = some x) (hx : plainV x = false) : w'.cell? ⟨b, o, none⟩ = some x := by
  have hb : b ≠ g := by
    rintro rfl
    rw [hr.cell] at hc
    have := List.all_eq_true.1 hp x (List.mem_of_getElem? hc)
    rw [hx] at this
    cases this
  rw [← hc]
  exact World.cell?_of_block (ho b hb)
theorem Bytes.only {w w' : World} {N g : Nat} {t : TypeId} {cs : List Value} {sv : Value} {l : List (BitVec 8)} (h : Bytes w N sv l) (hr : Row w g t cs) (hp : cs.all plainV = true) (ho : ∀ k, k ≠ g → w'.heap[k]? = w.heap[k]?) : Bytes w' N sv l := by
  rcases h with h | h | ⟨b, off, cap, h1, h2, h3⟩
  · exact .inl h
  · exact .inr (.inl h)
  · exact .inr (.inr ⟨b, off, cap, h1, h2, fun i hi => ⟨(h3 i hi).1, only_cell hr hp ho (h3 i hi).2 rfl⟩⟩)
theorem Recs.only {w w' : World} {N g k : Nat} {t : TypeId} {cs : List Value} {sv : Value} {rs : List (List Value)} (h : Recs w N sv k rs) (hr : Row w g t cs) (hp : cs.all plainV = true) (hq : ∀ r ∈ rs, ∀ x ∈ r, plainV x = false) (ho : ∀ k, k ≠ g → w'.heap[k]? = w.heap[k]?) : Recs w' N sv k rs := by
  rcases h with h | h | ⟨b, off, cap, h1, h2, h3⟩
  · exact .inl h
  · exact .inr (.inl h)
  · exact .inr (.inr ⟨b, off, cap, h1, h2, fun i r hi => ⟨(h3 i r hi).1, fun j x hx => only_cell hr hp ho ((h3 i r hi).2 j x hx) (hq r (List.mem_of_getElem? hi) x (List.mem_of_getElem? hx))⟩⟩)
theorem Vals.only {w w' : World} {N g : Nat} {t : TypeId} {cs : List Value} {sv : Value} {l : List Vl} (h : Vals w N sv l) (hr : Row w g t cs) (hp : cs.all plainV = true) (ho : ∀ k, k ≠ g → w'.heap[k]? = w.heap[k]?) : Vals w' N sv l :=
  Recs.only h hr hp (fun r hr x hx => by
    obtain ⟨v, _, rfl⟩ := List.mem_map.1 hr
    simp [vlRow] at hx
    rcases hx with rfl | rfl <;> rfl) ho
theorem Votes.only {w w' : World} {N g : Nat} {t : TypeId} {cs : List Value} {sv : Value} {l : List Vt} (h : Votes w N sv l) (hr : Row w g t cs) (hp : cs.all plainV = true) (ho : ∀ k, k ≠ g → w'.heap[k]? = w.heap[k]?) : Votes w' N sv l :=
  Recs.only h hr hp (fun r hr x hx => by
    obtain ⟨v, _, rfl⟩ := List.mem_map.1 hr
    simp [vtRow] at hx
    rcases hx with rfl | rfl | rfl <;> rfl) ho
/-- eight cells of a row, written one by one -/
def set8 (w : World) (g : Nat) (a b c d e f x y : Value) : World := (((((((w.setCell ⟨g, 0, none⟩ a).setCell ⟨g, 1, none⟩ b).setCell ⟨g, 2, none⟩ c).setCell ⟨g, 3, none⟩ d).setCell ⟨g, 4, none⟩ e).setCell ⟨g, 5, none⟩ f).setCell ⟨g, 6, none⟩ x).setCell ⟨g, 7, none⟩ y
theorem set8_row {w : World} {g : Nat} {t : TypeId} {a0 b0 c0 d0 e0 f0 x0 y0 : Value} (h : Row w g t [a0, b0, c0, d0, e0, f0, x0, y0]) (a b c d e f x y : Value) : Row (set8 w g a b c d e f x y) g t [a, b, c, d, e, f, x, y] :=
  (((((((h.set 0 a).set 1 b).set 2 c).set 3 d).set 4 e).set 5 f).set 6 x).set 7 y
theorem set8_other (w : World) (g : Nat) (a b c d e f x y : Value) : ∀ k, k ≠ g → (set8 w g a b c d e f x y).heap[k]? = w.heap[k]? := fun k hk => by
  unfold set8
  rw [heap_setCell_other _ _ _ _ hk, heap_setCell_other _ _ _ _ hk, heap_setCell_other _ _ _ _ hk, heap_setCell_other _ _ _ _ hk, heap_setCell_other _ _ _ _ hk, heap_setCell_other _ _ _ _ hk, heap_setCell_other _ _ _ _ hk, heap_setCell_other _ _ _ _ hk]
theorem set8_below {B : Nat} {w0 w : World} (h : Below B w0 w) {g : Nat} (hg : B ≤ g) (a b c d e f x y : Value) : Below B w0 (set8 w g a b c d e f x y) :=
  (((((((h.setCell hg _).setCell hg _).setCell hg _).setCell hg _).setCell hg _).setCell hg _).setCell hg _).setCell hg _
theorem set8_size (w : World) (g : Nat) (a b c d e f x y : Value) : (set8 w g a b c d e f x y).heap.size = w.heap.size := by
  simp [set8, World.setCell]
theorem SgV.only {w w' : World} {N g : Nat} {t : TypeId} {cs : List Value} {v : Value} {s : Sg} (h : SgV w N v s) (hr : Row w g t cs) (hp : cs.all plainV = true) (ho : ∀ k, k ≠ g → w'.heap[k]? = w.heap[k]?) : SgV w' N v s := by
  obtain ⟨rv, vv, nv, lv, tv, rfl, h1, h2, h3, h4, h5⟩ := h
  exact ⟨rv, vv, nv, lv, tv, rfl, h1.only hr hp ho, h2.only hr hp ho, h3.only hr hp ho, h4.only hr hp ho, h5.only hr hp ho⟩
end Go.Proofs.YtiflkkelbnpniaaGreatDoor
namespace Go.Proofs.YtiflkkelbnpniaaGreatDoor
open Go.RowKit

theorem isNameByte_any (c : UInt8) (w : World) : Calls Tryz.prog 59 #[.int .u8 (c.toNat : Int)] w fun e w' => e = .returned (.bool (nameC c)) ∧ w' = w := by
  have hc := c.toNat_lt
  unfold nameC
  by_cases h1 : 97 ≤ c.toNat
  · have e1 : decide ((97 : Int) ≤ (c.toNat : Int)) = true := by simp; omega
    by_cases h2 : c.toNat ≤ 122
    · have e2 : decide ((c.toNat : Int) ≤ 122) = true := by simp; omega
      go_enter Tryz.func59, Tryz.ntmps59
      go_wp2
      go_ret
      exact ⟨by simp [h1, h2], rfl⟩
    · have e2 : decide ((c.toNat : Int) ≤ 122) = false := by simp; omega
      have e3 : decide ((48 : Int) ≤ (c.toNat : Int)) = true := by simp; omega
      have e4 : decide ((c.toNat : Int) ≤ 57) = false := by simp; omega
      go_enter Tryz.func59, Tryz.ntmps59
      go_wp2
      go_ret
      exact ⟨by have : ¬ c.toNat ≤ 57 := by omega
                simp [h2, this], rfl⟩
  · have e1 : decide ((97 : Int) ≤ (c.toNat : Int)) = false := by simp; omega
    by_cases h3 : 48 ≤ c.toNat
    · have e3 : decide ((48 : Int) ≤ (c.toNat : Int)) = true := by simp; omega
      by_cases h4 : c.toNat ≤ 57
      · have e4 : decide ((c.toNat : Int) ≤ 57) = true := by simp; omega
        go_enter Tryz.func59, Tryz.ntmps59
        go_wp2
        go_ret
        exact ⟨by simp [h1, h3, h4], rfl⟩
      · have e4 : decide ((c.toNat : Int) ≤ 57) = false := by simp; omega
        go_enter Tryz.func59, Tryz.ntmps59
        go_wp2
        go_ret
        exact ⟨by simp [h1, h4], rfl⟩
    · have e3 : decide ((48 : Int) ≤ (c.toNat : Int)) = false := by simp; omega
      go_enter Tryz.func59, Tryz.ntmps59
      go_wp2
      go_ret
      exact ⟨by simp [h1, h3], rfl⟩
theorem isName_any (s : ByteArray) (w : World) (hs : s.size ≤ 140737488351232) : Calls Tryz.prog 26 #[.string s] w fun e w' => e = .returned (.bool (nameB s)) ∧ w' = w := by
  by_cases h1 : s.size < 1
  · have e1 : decide ((s.size : Int) < 1) = true := by simp; omega
    have HN := hid (nameB_short (.inl h1))
    go_enter Tryz.func26, Tryz.ntmps26
    go_wp2
    go_ret
    exact ⟨by rw [HN.out]; first | done | rfl, rfl⟩
  · have e1 : decide ((s.size : Int) < 1) = false := by simp; omega
    by_cases h2 : 20 < s.size
    · have e2 : decide ((20 : Int) < (s.size : Int)) = true := by simp; omega
      have HN := hid (nameB_short (.inr h2))
      go_enter Tryz.func26, Tryz.ntmps26
      go_wp2
      go_ret
      exact ⟨by rw [HN.out]; first | done | rfl, rfl⟩
    · have e2 : decide ((20 : Int) < (s.size : Int)) = false := by simp; omega
      go_enter Tryz.func26, Tryz.ntmps26
      go_wp2
      go_loop [3, 14] (fun _ i => ∃ k : Nat, k ≤ s.size ∧ i = .int .i64 (k : Int) ∧ Hid (∀ j (hj : j < s.size), j < k → nameC s[j] = true)) (fun _ i => s.size - (intOf i).toNat)
      case atStart => exact ⟨0, by omega, rfl, hid (fun j _ hj => absurd hj (by omega))⟩
      case round =>
        obtain ⟨k, hk, rfl, HR⟩ := hrel
        by_cases hlt : k < s.size
        · have hlt' : (k : Int) < (s.size : Int) := by omega
          by_cases hc : nameC s[k] = true
          · go_wp2_with (go_at_call 59; refine (isNameByte_any _ _).mono ?_; rintro e w' ⟨rfl, rfl⟩)
            go_round
            case rel => exact ⟨k + 1, by omega, by go_num, hid (fun j hj hj2 => by
              by_cases e : j = k
              · subst e; exact hc
              · exact HR.out j hj (by omega))⟩
            case measure => simp [intOf]; omega
          · have hc' : nameC s[k] = false := by simpa using hc
            have HN := hid (nameB_at k hlt hc')
            go_wp2_with (go_at_call 59; refine (isNameByte_any _ _).mono ?_; rintro e w' ⟨rfl, rfl⟩)
            go_ret
            exact ⟨by rw [HN.out]; first | done | rfl, rfl⟩
        · have hge : decide ((k : Int) < (s.size : Int)) = false := by simp; omega
          go_wp2
          go_ret
          exact ⟨by rw [nameB_all (by omega) (by omega) (fun j hj => HR.out j hj (by omega))]; first | done | rfl, rfl⟩
set_option maxHeartbeats 2000000 in
theorem wrong_any (h : Hd) (v : Value) (N : Nat) (w : World) (hv : HdV w N v h) (hf : h.fits) :
    Calls Tryz.prog 76 #[v] w fun e w' => e = .returned (.int .i64 (wrongH h)) ∧ Below w.heap.size w w' := by
  obtain ⟨rv, vv, nv, rfl, h1, h2, h3⟩ := hv
  obtain ⟨o1, c1, rfl, _⟩ := h1.shape
  obtain ⟨o2, c2, rfl, _⟩ := h2.shape
  obtain ⟨o3, c3, rfl, _⟩ := h3.shape
  obtain ⟨f1, f2, f3, f4⟩ := hf
  clear h1 h2 h3
  obtain ⟨w0, hw0⟩ : ∃ w0, w.alloc (.cells #[.string h.chain, .int .i64 h.height, .int .i64 h.time, .slice o1 h.root.length c1, .slice o2 h.vals.length c2, .slice o3 h.next.length c3] 29) = w0 := ⟨_, rfl⟩
  have HB0 := hid (show Below w.heap.size w w0 by rw [← hw0]; exact (Below.refl _ _).alloc (Nat.le_refl _) _)
  obtain ⟨k0, k1, k2, k3, k4, k5⟩ := (show Row w0 w.heap.size 29 [.string h.chain, .int .i64 h.height, .int .i64 h.time, .slice o1 h.root.length c1, .slice o2 h.vals.length c2, .slice o3 h.next.length c3] by rw [← hw0]; exact Row.new _ _ _).six
  by_cases hn : nameB h.chain = true
  · by_cases hr : h.height < 1 ∨ 1000000000000 < h.height ∨ h.time < 0 ∨ 1000000000000 < h.time
    · have HW := hid (show wrongH h = 3 by unfold wrongH; rw [if_neg (by rw [hn]; decide), if_pos hr])
      by_cases r1 : h.height < 1
      all_goals by_cases r2 : 1000000000000 < h.height
      all_goals by_cases r3 : h.time < 0
      all_goals by_cases r4 : 1000000000000 < h.time
      all_goals first | (exfalso; omega) | skip
      all_goals
        go_enter Tryz.func76, Tryz.ntmps76
        go_wp2_with (go_at_call 26; refine (isName_any _ _ f1).mono ?_; rintro e w' ⟨rfl, rfl⟩)
        go_ret
        exact ⟨by rw [HW.out]; first | done | rfl, HB0.out⟩
    · have r1 : decide (h.height < 1) = false := by simp; omega
      have r2 : decide (1000000000000 < h.height) = false := by simp; omega
      have r3 : decide (h.time < 0) = false := by simp; omega
      have r4 : decide (1000000000000 < h.time) = false := by simp; omega
      by_cases q1 : h.root.length = 32
      · have p1 : ((h.root.length : Int) != 32) = false := by simp; omega
        by_cases q2 : h.vals.length = 32
        · have p2 : ((h.vals.length : Int) != 32) = false := by simp; omega
          by_cases q3 : h.next.length = 32
          · have p3 : ((h.next.length : Int) != 32) = false := by simp; omega
            have HW := hid (show wrongH h = 0 by unfold wrongH; rw [if_neg (by rw [hn]; decide), if_neg hr, if_neg (by omega)])
            clear hr q1 q2 q3
            go_enter Tryz.func76, Tryz.ntmps76
            go_wp2_with (go_at_call 26; refine (isName_any _ _ f1).mono ?_; rintro e w' ⟨rfl, rfl⟩)
            go_ret
            exact ⟨by rw [HW.out]; first | done | rfl, HB0.out⟩
          · have p3 : ((h.next.length : Int) != 32) = true := by simp; omega
            have HW := hid (show wrongH h = 2 by unfold wrongH; rw [if_neg (by rw [hn]; decide), if_neg hr, if_pos (by omega)])
            clear hr q1 q2 q3
            go_enter Tryz.func76, Tryz.ntmps76
            go_wp2_with (go_at_call 26; refine (isName_any _ _ f1).mono ?_; rintro e w' ⟨rfl, rfl⟩)
            go_ret
            exact ⟨by rw [HW.out]; first | done | rfl, HB0.out⟩
        · have p2 : ((h.vals.length : Int) != 32) = true := by simp; omega
          have HW := hid (show wrongH h = 2 by unfold wrongH; rw [if_neg (by rw [hn]; decide), if_neg hr, if_pos (by omega)])
          clear hr q1 q2
          go_enter Tryz.func76, Tryz.ntmps76
          go_wp2_with (go_at_call 26; refine (isName_any _ _ f1).mono ?_; rintro e w' ⟨rfl, rfl⟩)
          go_ret
          exact ⟨by rw [HW.out]; first | done | rfl, HB0.out⟩
      · have p1 : ((h.root.length : Int) != 32) = true := by simp; omega
        have HW := hid (show wrongH h = 2 by unfold wrongH; rw [if_neg (by rw [hn]; decide), if_neg hr, if_pos (by omega)])
        clear hr q1
        go_enter Tryz.func76, Tryz.ntmps76
        go_wp2_with (go_at_call 26; refine (isName_any _ _ f1).mono ?_; rintro e w' ⟨rfl, rfl⟩)
        go_ret
        exact ⟨by rw [HW.out]; first | done | rfl, HB0.out⟩
  · have hn' : nameB h.chain = false := by simpa using hn
    have HW := hid (show wrongH h = 7 by unfold wrongH; rw [if_pos hn'])
    clear hn
    go_enter Tryz.func76, Tryz.ntmps76
    go_wp2_with (go_at_call 26; refine (isName_any _ _ f1).mono ?_; rintro e w' ⟨rfl, rfl⟩)
    go_ret
    exact ⟨by rw [HW.out]; first | done | rfl, HB0.out⟩
end Go.Proofs.YtiflkkelbnpniaaGreatDoor
namespace Go.Proofs.YtiflkkelbnpniaaGreatDoor
open Go.RowKit

/-- what Vals is to answer -/
def ValsC (f : FuncId) : Prop := ∀ (l : List Vl) (sv : Value) (N : Nat) (w : World), Vals w N sv l → N ≤ w.heap.size → l.length < 2305843009213693952 →
  Calls Tryz.prog f #[sv] w fun e w' => e = .returned (.int .i64 (valsN l)) ∧ Below w.heap.size w w'
theorem below_drewH (w : World) (n N : Nat) : Below N w (w.drewN n) := ⟨rfl, rfl, rfl, Nat.le_refl _, fun _ _ => rfl⟩
theorem vals_many (l : List Vl) (h : l.length < 1 ∨ 10 < l.length) : valsN l = 5 := by unfold valsN; rw [if_pos h]
theorem vals_few (l : List Vl) (h : ¬ (l.length < 1 ∨ 10 < l.length)) : valsN l = valsGo (prevV l 0) (l.drop 0) := by unfold valsN; rw [if_neg h]; rfl
theorem prevV_zero (l : List Vl) : prevV l 0 = none := rfl
theorem prevV_succ (l : List Vl) (j : Nat) (y : Vl) (h : l[j]? = some y) : prevV l (j + 1) = some y.key := by simp [prevV, h]
set_option maxRecDepth 100000 in
set_option maxHeartbeats 2000000 in
theorem valsC : ValsC 77 := by
  intro l sv N w hb hN hlen
  obtain ⟨oa, ca, rfl, hca⟩ := hb.shape
  have HB := hid hb
  clear hb
  generalize hn : l.length = n at *
  have HN := hid hn
  clear hn
  by_cases h1 : n < 1
  · have e1 : decide ((n : Int) < 1) = true := by simp; omega
    have HV := hid (vals_many l (.inl (by rw [HN.out]; exact h1)))
    go_enter Tryz.func77, Tryz.ntmps77
    go_wp2
    go_ret
    exact ⟨by rw [HV.out]; first | done | rfl, Below.refl _ _⟩
  · have e1 : decide ((n : Int) < 1) = false := by simp; omega
    by_cases h2 : 10 < n
    · have e2 : decide ((10 : Int) < (n : Int)) = true := by simp; omega
      have HV := hid (vals_many l (.inr (by rw [HN.out]; exact h2)))
      go_enter Tryz.func77, Tryz.ntmps77
      go_wp2
      go_ret
      exact ⟨by rw [HV.out]; first | done | rfl, Below.refl _ _⟩
    · have e2 : decide ((10 : Int) < (n : Int)) = false := by simp; omega
      have HV := hid (vals_few l (by rw [HN.out]; omega))
      go_enter Tryz.func77, Tryz.ntmps77
      go_wp2
      go_loopw [3, 4, 15] (fun _ _ i wr => ∃ k : Nat, k ≤ n ∧ i = .int .i64 (k : Int) ∧ Hid (Below w.heap.size w wr ∧ valsN l = valsGo (prevV l k) (l.drop k))) (fun _ _ i _ => n - (intOf i).toNat)
      case atStart => exact ⟨0, by omega, rfl, hid ⟨Below.refl _ _, HV.out⟩⟩
      case round =>
        obtain ⟨k, hk, rfl, HT⟩ := hrel
        have hszr := HT.out.1.size
        by_cases hlt : k < n
        · obtain ⟨v, hv⟩ : ∃ v, l[k]? = some v := ⟨l[k]'(by rw [HN.out]; exact hlt), List.getElem?_eq_getElem _⟩
          obtain ⟨b, o, rfl, hcells⟩ := HB.out.spot (by omega)
          obtain ⟨hbN, d0, d1⟩ := hcells k v hv
          have hbl : b < w.heap.size := by omega
          have f0 := (HT.out.1.cell (p := ⟨b, o + k * 2, none⟩) hbl).trans d0
          have f1 := (HT.out.1.cell (p := ⟨b, o + k * 2 + 1, none⟩) hbl).trans d1
          have HST := hid (valsGo_at l k v hv)
          have hlt' : (k : Int) < (n : Int) := by omega
          obtain ⟨w2, hw2⟩ : ∃ w2, wr.alloc (.cells #[.int .u64 (v.key : Int), .int .u64 (v.power : Int)] 89) = w2 := ⟨_, rfl⟩
          have hbr2 : Below wr.heap.size wr w2 := by rw [← hw2]; exact (Below.refl _ _).alloc (Nat.le_refl _) _
          have HB2 := hid (HT.out.1.trans (hbr2.mono hszr))
          have hrow2 : Row w2 wr.heap.size 89 [.int .u64 (v.key : Int), .int .u64 (v.power : Int)] := by rw [← hw2]; exact Row.new _ _ _
          have q0 := hrow2.cell 0
          have q1 := hrow2.cell 1
          have HW2 := hid hw2
          clear d0 d1 hbr2 hrow2 hw2
          by_cases hp1 : v.power < 1
          · have g1 : decide ((v.power : Int) < 1) = true := by simp; omega
            have HV2 := hid (show valsN l = 3 by rw [HT.out.2, HST.out, if_pos (.inl hp1)])
            go_wp2_with fail
            rw [HW2.out]
            go_wp2
            go_ret
            exact ⟨by rw [HV2.out]; first | done | rfl, HB2.out⟩
          · have g1 : decide ((v.power : Int) < 1) = false := by simp; omega
            by_cases hp2 : 1000000 < v.power
            · have g2 : decide ((1000000 : Int) < (v.power : Int)) = true := by simp; omega
              have HV2 := hid (show valsN l = 3 by rw [HT.out.2, HST.out, if_pos (.inr hp2)])
              go_wp2_with fail
              rw [HW2.out]
              go_wp2
              go_ret
              exact ⟨by rw [HV2.out]; first | done | rfl, HB2.out⟩
            · have g2 : decide ((1000000 : Int) < (v.power : Int)) = false := by simp; omega
              have HST2 := hid (HST.out.trans (if_neg (by omega)))
              cases k with
              | zero =>
                have HV2 := hid (show valsN l = valsGo (prevV l 1) (l.drop 1) by rw [HT.out.2, HST2.out, if_neg (by simp [prevV_zero, aheadB])])
                have f0' : wr.cell? ⟨b, o, none⟩ = some (.int .u64 (v.key : Int)) := by simpa using f0
                have f1' : wr.cell? ⟨b, o + 1, none⟩ = some (.int .u64 (v.power : Int)) := by simpa using f1
                clear hcells
                go_wp2_with fail
                rw [HW2.out]
                go_wp2_with fail
                go_quiet (fail)
                go_wp2
                go_roundw
                case rel => exact ⟨1, by omega, by go_num, hid ⟨HB2.out.trans (below_drewH _ _ _), HV2.out⟩⟩
                case measure => simp [intOf]; omega
              | succ j =>
                obtain ⟨y, hy⟩ : ∃ y, l[j]? = some y := ⟨l[j]'(by rw [HN.out]; omega), List.getElem?_eq_getElem _⟩
                obtain ⟨_, t0, t1⟩ := hcells j y hy
                have t0' := (HB2.out.cell (p := ⟨b, o + j * 2, none⟩) hbl).trans t0
                have HPV := hid (prevV_succ l j y hy)
                have hj1 : ((j + 1 : Nat) : Int) - 1 = (j : Int) := by omega
                have hj2 : IntKind.i64.wrap (((j + 1 : Nat) : Int) - 1) = (j : Int) := by rw [hj1]; simp [IntKind.wrap, IntKind.bits, IntKind.signed]; split <;> omega
                have hjn : (j : Int) < (n : Int) := by omega
                have e4 : decide ((0 : Int) < ((j + 1 : Nat) : Int)) = true := decide_eq_true (by omega)
                clear hcells hy t0 t1
                by_cases hle : v.key ≤ y.key
                · have g5 : decide ((v.key : Int) ≤ (y.key : Int)) = true := by simp; omega
                  have HV2 := hid (show valsN l = 2 by rw [HT.out.2, HST2.out, HPV.out, if_pos (by simpa [aheadB] using hle)])
                  go_wp2_with fail
                  rw [HW2.out]
                  go_wp2_with fail
                  go_quiet (fail)
                  go_wp2
                  go_ret
                  exact ⟨by rw [HV2.out]; first | done | rfl, HB2.out.trans (below_drewH _ _ _)⟩
                · have g5 : decide ((v.key : Int) ≤ (y.key : Int)) = false := by simp; omega
                  have HV2 := hid (show valsN l = valsGo (prevV l (j + 2)) (l.drop (j + 2)) by rw [HT.out.2, HST2.out, HPV.out, if_neg (by simpa [aheadB] using hle)])
                  go_wp2_with fail
                  rw [HW2.out]
                  go_wp2_with fail
                  go_quiet (fail)
                  go_wp2
                  go_roundw
                  case rel => exact ⟨j + 2, by omega, by go_num, hid ⟨HB2.out.trans (below_drewH _ _ _), HV2.out⟩⟩
                  case measure => simp [intOf]; omega
        · have hge : decide ((k : Int) < (n : Int)) = false := by simp; omega
          have HV2 := hid (show valsN l = 0 by rw [HT.out.2, valsGo_end l k (by rw [HN.out]; omega)])
          go_wp2
          go_ret
          exact ⟨by rw [HV2.out]; first | done | rfl, HT.out.1⟩
end Go.Proofs.YtiflkkelbnpniaaGreatDoor
namespace Go.Proofs.YtiflkkelbnpniaaGreatDoor
open Go.RowKit

/-- the power of those whose places count -/
def sumIx (p : Nat → Bool) : Nat → List Vl → Nat
  | _, [] => 0
  | k, v :: r => (if p k then v.power else 0) + sumIx p (k + 1) r
theorem sumIx_append (p : Nat → Bool) : ∀ (a b : List Vl) (k : Nat), sumIx p k (a ++ b) = sumIx p k a + sumIx p (k + a.length) b
  | [], b, k => by simp [sumIx]
  | v :: a, b, k => by
    rw [List.cons_append, sumIx, sumIx_append p a b (k + 1), sumIx, List.length_cons, show k + 1 + a.length = k + (a.length + 1) by omega]
    omega
theorem sumIx_take (p : Nat → Bool) (l : List Vl) (k : Nat) (v : Vl) (h : l[k]? = some v) : sumIx p 0 (l.take (k + 1)) = sumIx p 0 (l.take k) + (if p k then v.power else 0) := by
  obtain ⟨hk, rfl⟩ := List.getElem?_eq_some_iff.1 h
  rw [List.take_succ_eq_append_getElem hk, sumIx_append, List.length_take, Nat.min_eq_left (Nat.le_of_lt hk)]
  simp [sumIx]
theorem allP_take (l : List Vl) (k : Nat) (v : Vl) (h : l[k]? = some v) : allP (l.take (k + 1)) = allP (l.take k) + v.power := by
  obtain ⟨hk, rfl⟩ := List.getElem?_eq_some_iff.1 h
  unfold allP
  rw [List.take_succ_eq_append_getElem hk, List.map_append, List.sum_append]
  simp
theorem sumIx_le (p : Nat → Bool) : ∀ (l : List Vl) (k : Nat), sumIx p k l ≤ allP l
  | [], _ => by simp [sumIx]
  | v :: l, k => by
    have ih := sumIx_le p l (k + 1)
    simp [sumIx, allP] at ih ⊢
    split <;> omega
theorem sumIx_yes (vs : List Vl) (ts : List Vt) : ∀ (k : Nat) (p : Nat → Bool), ts.length = vs.length → (∀ i t, ts[i]? = some t → p (k + i) = t.is) → sumIx p k vs = yesP vs ts := by
  induction vs generalizing ts with
  | nil => intro k p h _; simp [sumIx, yesP]
  | cons v vs ih =>
    intro k p h hp
    cases ts with
    | nil => simp at h
    | cons t ts =>
      have h0 := hp 0 t rfl
      rw [Nat.add_zero] at h0
      rw [sumIx, yesP, h0, ih ts (k + 1) p (by simpa using h) (fun i t' ht => by have := hp (i + 1) t' (by simpa using ht); rwa [show k + (i + 1) = k + 1 + i by omega] at this)]
theorem sumIx_over (s : Sg) (l : List Vl) : ∀ (k : Nat) (p : Nat → Bool), (∀ i v, l[i]? = some v → p (k + i) = votedB v.key s.vals s.votes) → sumIx p k l = overP s l := by
  induction l with
  | nil => intro k p _; rfl
  | cons v l ih =>
    intro k p hp
    have h0 := hp 0 v rfl
    rw [Nat.add_zero] at h0
    rw [sumIx, overP, h0, ih (k + 1) p (fun i v' hv => by have := hp (i + 1) v' (by simpa using hv); rwa [show k + (i + 1) = k + 1 + i by omega] at this)]
set_option maxRecDepth 100000 in
set_option maxHeartbeats 2000000 in
theorem powerCheck (g : Nat) (l : List Vl) (p : Nat → Bool) (sv : Value) (N : Nat) (w : World) (hN : N ≤ w.heap.size) (hl : Vals w N sv l) (hlen : l.length ≤ 10) (hp : ∀ v ∈ l, v.power ≤ 1000000)
    (hstep : ∀ (k : Nat) (wr : World), k < l.length → Below w.heap.size w wr → Calls Tryz.prog 46 #[.int .i64 (k : Int), .pointer (some ⟨g, 0, none⟩)] wr fun e w' => e = .returned (.bool (p k)) ∧ Below wr.heap.size wr w') :
    Calls Tryz.prog 45 #[sv, .func (.func 46) #[] #[.pointer (some ⟨g, 0, none⟩)]] w fun e w' => e = .returned (.tuple #[.int .u64 (sumIx p 0 l : Int), .int .u64 (allP l : Int)]) ∧ Below w.heap.size w w' := by
  obtain ⟨oa, ca, rfl, hca⟩ := hl.shape
  have HL := hid hl
  have HP := hid hp
  have HST := hid hstep
  clear hl hp hstep
  generalize hn : l.length = n at *
  have HN := hid hn
  clear hn
  go_enter Tryz.func45, Tryz.ntmps45
  go_wp2_with fail
  go_loopw [4, 5, 6, 7, 10] (fun s4 s5 _ _ i wr => ∃ k : Nat, k ≤ n ∧ i = .int .i64 (k : Int) ∧ s4 = .int .u64 (sumIx p 0 (l.take k) : Int) ∧ s5 = .int .u64 (allP (l.take k) : Int) ∧ Hid (Below w.heap.size w wr)) (fun _ _ _ _ i _ => n - (intOf i).toNat)
  case atStart => exact ⟨0, by omega, rfl, rfl, rfl, hid (Below.refl _ _)⟩
  case round =>
    obtain ⟨k, hk, rfl, rfl, rfl, HT⟩ := hrel
    have hszr := HT.out.size
    have hpa : allP (l.take k) ≤ 10000000 := by
      have h1 := allP_le (l.take k) (fun v hv => HP.out v (List.mem_of_mem_take hv))
      have h2 : (l.take k).length ≤ 10 := by rw [List.length_take, HN.out]; omega
      omega
    have hps := sumIx_le p (l.take k) 0
    by_cases hlt : k < n
    · obtain ⟨v, hv⟩ : ∃ v, l[k]? = some v := ⟨l[k]'(by rw [HN.out]; exact hlt), List.getElem?_eq_getElem _⟩
      obtain ⟨b, o, rfl, hcells⟩ := HL.out.spot (by omega)
      obtain ⟨hbN, d0, d1⟩ := hcells k v hv
      have hbl : b < w.heap.size := by omega
      have f0 := (HT.out.cell (p := ⟨b, o + k * 2, none⟩) hbl).trans d0
      have f1 := (HT.out.cell (p := ⟨b, o + k * 2 + 1, none⟩) hbl).trans d1
      have hlt' : (k : Int) < (n : Int) := by omega
      have hvp := HP.out v (List.mem_of_getElem? hv)
      obtain ⟨w2, hw2⟩ : ∃ w2, wr.alloc (.cells #[.int .u64 (v.key : Int), .int .u64 (v.power : Int)] 89) = w2 := ⟨_, rfl⟩
      have hb2 : Below wr.heap.size wr w2 := by rw [← hw2]; exact (Below.refl _ _).alloc (Nat.le_refl _) _
      have HB2 := hid (HT.out.trans (hb2.mono hszr))
      have hr2 : Row w2 wr.heap.size 89 [.int .u64 (v.key : Int), .int .u64 (v.power : Int)] := by rw [← hw2]; exact Row.new _ _ _
      have q1 := hr2.cell 1
      have HR2 := hid hr2
      have HW2 := hid hw2
      have HC := hid (HST.out k w2 hlt HB2.out)
      have HA := hid (allP_take l k v hv)
      have HSI := hid (sumIx_take p l k v hv)
      clear d0 d1 hcells hb2 hw2 hv hr2
      generalize allP (l.take k) = aa at *
      generalize sumIx p 0 (l.take k) = ss at *
      have hwa : IntKind.u64.wrap ((aa : Int) + (v.power : Int)) = ((aa + v.power : Nat) : Int) := w64_add aa v.power (by omega)
      have hws : IntKind.u64.wrap ((ss : Int) + (v.power : Int)) = ((ss + v.power : Nat) : Int) := w64_add ss v.power (by omega)
      generalize hpk : p k = pk at *
      have HPK := hid hpk
      clear hpk
      cases pk with
      | true =>
        go_wp2_with fail
        rw [HW2.out]
        go_wp2_with fail
        refine HC.out.mono ?_
        rintro e w3 ⟨rfl, hb3⟩
        have q1' := (HR2.out.below hb3 HR2.out.lt).cell 1
        have HB3 := hid (HB2.out.trans (hb3.mono HB2.out.size))
        clear hb3
        go_wp2_with fail
        go_roundw
        case rel => exact ⟨k + 1, by omega, by go_num, by rw [HSI.out]; simp, by rw [HA.out]; first | rfl | go_num, hid HB3.out⟩
        case measure => simp [intOf]; omega
      | false =>
        go_wp2_with fail
        rw [HW2.out]
        go_wp2_with fail
        refine HC.out.mono ?_
        rintro e w3 ⟨rfl, hb3⟩
        have HB3 := hid (HB2.out.trans (hb3.mono HB2.out.size))
        clear hb3
        go_wp2_with fail
        go_roundw
        case rel => exact ⟨k + 1, by omega, by go_num, by rw [HSI.out]; simp, by rw [HA.out]; first | rfl | go_num, hid HB3.out⟩
        case measure => simp [intOf]; omega
    · have hge : decide ((k : Int) < (n : Int)) = false := by simp; omega
      have HK := hid (show l.take k = l from List.take_of_length_le (by rw [HN.out]; omega))
      rw [HK.out]
      go_wp2
      go_ret2
      exact ⟨rfl, HT.out⟩
set_option maxRecDepth 100000 in
set_option maxHeartbeats 2000000 in
theorem powerOver (g g2 : Nat) (l : List Vl) (p : Nat → Bool) (sv : Value) (N : Nat) (w : World) (hN : N ≤ w.heap.size) (hl : Vals w N sv l) (hlen : l.length ≤ 10) (hp : ∀ v ∈ l, v.power ≤ 1000000)
    (hstep : ∀ (k : Nat) (wr : World), k < l.length → Below w.heap.size w wr → Calls Tryz.prog 51 #[.int .i64 (k : Int), .pointer (some ⟨g, 0, none⟩), .pointer (some ⟨g2, 0, none⟩)] wr fun e w' => e = .returned (.bool (p k)) ∧ Below wr.heap.size wr w') :
    Calls Tryz.prog 45 #[sv, .func (.func 51) #[] #[.pointer (some ⟨g, 0, none⟩), .pointer (some ⟨g2, 0, none⟩)]] w fun e w' => e = .returned (.tuple #[.int .u64 (sumIx p 0 l : Int), .int .u64 (allP l : Int)]) ∧ Below w.heap.size w w' := by
  obtain ⟨oa, ca, rfl, hca⟩ := hl.shape
  have HL := hid hl
  have HP := hid hp
  have HST := hid hstep
  clear hl hp hstep
  generalize hn : l.length = n at *
  have HN := hid hn
  clear hn
  go_enter Tryz.func45, Tryz.ntmps45
  go_wp2_with fail
  go_loopw [4, 5, 6, 7, 10] (fun s4 s5 _ _ i wr => ∃ k : Nat, k ≤ n ∧ i = .int .i64 (k : Int) ∧ s4 = .int .u64 (sumIx p 0 (l.take k) : Int) ∧ s5 = .int .u64 (allP (l.take k) : Int) ∧ Hid (Below w.heap.size w wr)) (fun _ _ _ _ i _ => n - (intOf i).toNat)
  case atStart => exact ⟨0, by omega, rfl, rfl, rfl, hid (Below.refl _ _)⟩
  case round =>
    obtain ⟨k, hk, rfl, rfl, rfl, HT⟩ := hrel
    have hszr := HT.out.size
    have hpa : allP (l.take k) ≤ 10000000 := by
      have h1 := allP_le (l.take k) (fun v hv => HP.out v (List.mem_of_mem_take hv))
      have h2 : (l.take k).length ≤ 10 := by rw [List.length_take, HN.out]; omega
      omega
    have hps := sumIx_le p (l.take k) 0
    by_cases hlt : k < n
    · obtain ⟨v, hv⟩ : ∃ v, l[k]? = some v := ⟨l[k]'(by rw [HN.out]; exact hlt), List.getElem?_eq_getElem _⟩
      obtain ⟨b, o, rfl, hcells⟩ := HL.out.spot (by omega)
      obtain ⟨hbN, d0, d1⟩ := hcells k v hv
      have hbl : b < w.heap.size := by omega
      have f0 := (HT.out.cell (p := ⟨b, o + k * 2, none⟩) hbl).trans d0
      have f1 := (HT.out.cell (p := ⟨b, o + k * 2 + 1, none⟩) hbl).trans d1
      have hlt' : (k : Int) < (n : Int) := by omega
      have hvp := HP.out v (List.mem_of_getElem? hv)
      obtain ⟨w2, hw2⟩ : ∃ w2, wr.alloc (.cells #[.int .u64 (v.key : Int), .int .u64 (v.power : Int)] 89) = w2 := ⟨_, rfl⟩
      have hb2 : Below wr.heap.size wr w2 := by rw [← hw2]; exact (Below.refl _ _).alloc (Nat.le_refl _) _
      have HB2 := hid (HT.out.trans (hb2.mono hszr))
      have hr2 : Row w2 wr.heap.size 89 [.int .u64 (v.key : Int), .int .u64 (v.power : Int)] := by rw [← hw2]; exact Row.new _ _ _
      have q1 := hr2.cell 1
      have HR2 := hid hr2
      have HW2 := hid hw2
      have HC := hid (HST.out k w2 hlt HB2.out)
      have HA := hid (allP_take l k v hv)
      have HSI := hid (sumIx_take p l k v hv)
      clear d0 d1 hcells hb2 hw2 hv hr2
      generalize allP (l.take k) = aa at *
      generalize sumIx p 0 (l.take k) = ss at *
      have hwa : IntKind.u64.wrap ((aa : Int) + (v.power : Int)) = ((aa + v.power : Nat) : Int) := w64_add aa v.power (by omega)
      have hws : IntKind.u64.wrap ((ss : Int) + (v.power : Int)) = ((ss + v.power : Nat) : Int) := w64_add ss v.power (by omega)
      generalize hpk : p k = pk at *
      have HPK := hid hpk
      clear hpk
      cases pk with
      | true =>
        go_wp2_with fail
        rw [HW2.out]
        go_wp2_with fail
        refine HC.out.mono ?_
        rintro e w3 ⟨rfl, hb3⟩
        have q1' := (HR2.out.below hb3 HR2.out.lt).cell 1
        have HB3 := hid (HB2.out.trans (hb3.mono HB2.out.size))
        clear hb3
        go_wp2_with fail
        go_roundw
        case rel => exact ⟨k + 1, by omega, by go_num, by rw [HSI.out]; simp, by rw [HA.out]; first | rfl | go_num, hid HB3.out⟩
        case measure => simp [intOf]; omega
      | false =>
        go_wp2_with fail
        rw [HW2.out]
        go_wp2_with fail
        refine HC.out.mono ?_
        rintro e w3 ⟨rfl, hb3⟩
        have HB3 := hid (HB2.out.trans (hb3.mono HB2.out.size))
        clear hb3
        go_wp2_with fail
        go_roundw
        case rel => exact ⟨k + 1, by omega, by go_num, by rw [HSI.out]; simp, by rw [HA.out]; first | rfl | go_num, hid HB3.out⟩
        case measure => simp [intOf]; omega
    · have hge : decide ((k : Int) < (n : Int)) = false := by simp; omega
      have HK := hid (show l.take k = l from List.take_of_length_le (by rw [HN.out]; omega))
      rw [HK.out]
      go_wp2
      go_ret2
      exact ⟨rfl, HT.out⟩
end Go.Proofs.YtiflkkelbnpniaaGreatDoor
namespace Go.Proofs.YtiflkkelbnpniaaGreatDoor
open Go.RowKit

def cmp3 (a b : Nat) : Int := if a < b then -1 else if b < a then 1 else 0
theorem cmp3_neg (a b : Nat) : cmp3 a b < 0 ↔ a < b := by unfold cmp3; split <;> (try split) <;> omega
theorem cmp3_zero (a b : Nat) : cmp3 a b = 0 ↔ a = b := by unfold cmp3; split <;> (try split) <;> omega
theorem isNaN_any (a : Nat) (w : World) : Calls Tryz.prog 136 #[.int .u64 (a : Int)] w fun e w' => e = .returned (.bool false) ∧ w' = w := by
  have e1 : ((a : Int) != (a : Int)) = false := by simp
  go_enter Tryz.func136, Tryz.ntmps136
  go_wp2
  go_ret
  exact ⟨by simp; first | done | rfl, rfl⟩
theorem compare3_any (a b : Nat) (w : World) : Calls Tryz.prog 109 #[.int .u64 (a : Int), .int .u64 (b : Int)] w fun e w' => e = .returned (.int .i64 (cmp3 a b)) ∧ w' = w := by
  by_cases h1 : a < b
  · have e1 : decide ((a : Int) < (b : Int)) = true := by simp; omega
    have e1n : decide (a < b) = true := decide_eq_true (by omega)
    have HC := hid (show cmp3 a b = -1 by unfold cmp3; rw [if_pos h1])
    clear h1
    go_enter Tryz.func109, Tryz.ntmps109
    go_wp2_with (go_at_call 136; refine (isNaN_any _ _).mono ?_; rintro e w' ⟨rfl, hw⟩; obtain rfl := hw.symm)
    go_ret
    exact ⟨by rw [HC.out]; first | done | rfl, rfl⟩
  · have e1 : decide ((a : Int) < (b : Int)) = false := by simp; omega
    have e1n : decide (a < b) = false := decide_eq_false (by omega)
    by_cases h2 : b < a
    · have e2 : decide ((b : Int) < (a : Int)) = true := by simp; omega
      have e2n : decide (b < a) = true := decide_eq_true (by omega)
      have HC := hid (show cmp3 a b = 1 by unfold cmp3; rw [if_neg h1, if_pos h2])
      clear h1 h2
      go_enter Tryz.func109, Tryz.ntmps109
      go_wp2_with (go_at_call 136; refine (isNaN_any _ _).mono ?_; rintro e w' ⟨rfl, hw⟩; obtain rfl := hw.symm)
      go_ret
      exact ⟨by rw [HC.out]; first | done | rfl, rfl⟩
    · have e2 : decide ((b : Int) < (a : Int)) = false := by simp; omega
      have e2n : decide (b < a) = false := decide_eq_false (by omega)
      have HC := hid (show cmp3 a b = 0 by unfold cmp3; rw [if_neg h1, if_neg h2])
      clear h1 h2
      go_enter Tryz.func109, Tryz.ntmps109
      go_wp2_with (go_at_call 136; refine (isNaN_any _ _).mono ?_; rintro e w' ⟨rfl, hw⟩; obtain rfl := hw.symm)
      go_ret
      exact ⟨by rw [HC.out]; first | done | rfl, rfl⟩
theorem compareV_any (v : Vl) (key : Nat) (w : World) :
    Calls Tryz.prog 87 #[.agg #[.int .u64 (v.key : Int), .int .u64 (v.power : Int)], .int .u64 (key : Int)] w fun e w' => e = .returned (.int .i64 (cmp3 v.key key)) ∧ Below w.heap.size w w' := by
  obtain ⟨w1, hw1⟩ : ∃ w1, w.alloc (.cells #[.int .u64 (v.key : Int), .int .u64 (v.power : Int)] 89) = w1 := ⟨_, rfl⟩
  have HB1 := hid (show Below w.heap.size w w1 by rw [← hw1]; exact (Below.refl _ _).alloc (Nat.le_refl _) _)
  have g0 := (show Row w1 w.heap.size 89 [.int .u64 (v.key : Int), .int .u64 (v.power : Int)] by rw [← hw1]; exact Row.new _ _ _).cell 0
  have HC := hid (compare3_any v.key key w1)
  have HW := hid hw1
  clear hw1
  generalize cmp3 v.key key = cc at *
  go_enter Tryz.func87, Tryz.ntmps87
  go_wp2_with fail
  rw [HW.out]
  refine HC.out.mono ?_
  rintro e w2 ⟨rfl, hw2⟩
  obtain rfl := hw2.symm
  go_wp2
  go_ret
  exact ⟨rfl, HB1.out⟩
/-- where a key stands, or would stand -/
def AtV (key : Nat) (l : List Vl) (i : Nat) (fd : Bool) : Prop := i ≤ l.length ∧ (∀ t v, t < i → l[t]? = some v → v.key < key) ∧ (∀ t v, i ≤ t → l[t]? = some v → key ≤ v.key) ∧ (fd = true ↔ ∃ v, l[i]? = some v ∧ v.key = key)
theorem rising {l : List Vl} (h : l.Pairwise (fun a b => a.key < b.key)) {i j : Nat} {a b : Vl} (hij : i < j) (ha : l[i]? = some a) (hb : l[j]? = some b) : a.key < b.key := by
  obtain ⟨hi, rfl⟩ := List.getElem?_eq_some_iff.1 ha
  obtain ⟨hj, rfl⟩ := List.getElem?_eq_some_iff.1 hb
  exact List.pairwise_iff_getElem.1 h i j hi hj hij
set_option maxRecDepth 100000 in
set_option maxHeartbeats 1000000 in
theorem searchV_any (l : List Vl) (k : Nat) (sv : Value) (N : Nat) (w : World) (lb : Array Value) (hlb : lb = #[]) (hN : N ≤ w.heap.size) (hl : Vals w N sv l) (hs : l.Pairwise (fun a b => a.key < b.key)) (hlen : l.length ≤ 1000000) :
    Calls Tryz.prog 86 #[sv, .int .u64 (k : Int), .func (.func 87) #[] lb] w fun e w' => Below w.heap.size w w' ∧ ∃ i fd, AtV k l i fd ∧ e = .returned (.tuple #[.int .i64 (i : Nat), .bool fd]) := by
  subst hlb
  obtain ⟨oa, ca, rfl, hca⟩ := hl.shape
  have HL := hid hl
  have HS := hid hs
  clear hl hs
  generalize hn : l.length = n at *
  have HN := hid hn
  clear hn
  have HCMP := hid (show ∀ (wr : World) (b o j : Nat) (p : Vl), oa = some ⟨b, o, none⟩ → Below w.heap.size w wr → l[j]? = some p → wr.cell? ⟨b, o + j * 2, none⟩ = some (.int .u64 (p.key : Int)) ∧ wr.cell? ⟨b, o + j * 2 + 1, none⟩ = some (.int .u64 (p.power : Int)) ∧
      Calls Tryz.prog 87 #[.agg #[.int .u64 (p.key : Int), .int .u64 (p.power : Int)], .int .u64 (k : Int)] wr (fun e w' => e = .returned (.int .i64 (cmp3 p.key k)) ∧ Below w.heap.size w w') from by
    intro wr b o j p hoa hb hp
    obtain ⟨b', o', he, hcells⟩ := HL.out.spot (by have := (List.getElem?_eq_some_iff.1 hp).1; rw [HN.out] at this; omega)
    rw [hoa] at he
    obtain ⟨rfl, rfl⟩ : b = b' ∧ o = o' := by simpa using he
    obtain ⟨hbN, d0, d1⟩ := hcells j p hp
    refine ⟨(hb.cell (p := ⟨b, o + j * 2, none⟩) (by show b < _; omega)).trans d0, (hb.cell (p := ⟨b, o + j * 2 + 1, none⟩) (by show b < _; omega)).trans d1, ?_⟩
    refine (compareV_any p k wr).mono ?_
    rintro e w' ⟨rfl, hb2⟩
    exact ⟨rfl, hb.trans (hb2.mono hb.size)⟩)
  go_enter Tryz.func86, Tryz.ntmps86
  go_wp2_with fail
  go_loopw [9, 10] (fun s9 s10 wr => ∃ lo hi : Nat, s9 = .int .i64 lo ∧ s10 = .int .i64 hi ∧ lo ≤ hi ∧ hi ≤ n ∧ Hid (Below w.heap.size w wr) ∧ Hid ((∀ t p, t < lo → l[t]? = some p → p.key < k) ∧ (∀ t p, hi ≤ t → l[t]? = some p → k ≤ p.key))) (fun s9 s10 _ => (intOf s10 - intOf s9).toNat)
  case atStart => exact ⟨0, n, rfl, rfl, Nat.zero_le _, Nat.le_refl _, Below.refl _ _, fun t p ht => absurd ht (Nat.not_lt_zero _), fun t p h1 h2 => by have := (List.getElem?_eq_some_iff.1 h2).1; rw [HN.out] at this; omega⟩
  case round =>
    obtain ⟨lo, hi, rfl, rfl, hlh, hin, HB, HI⟩ := hrel
    by_cases hlt : lo < hi
    · have hml : (lo + hi) / 2 < n := by omega
      obtain ⟨p, hp⟩ : ∃ p, l[(lo + hi) / 2]? = some p := ⟨l[(lo + hi) / 2]'(by rw [HN.out]; exact hml), List.getElem?_eq_getElem _⟩
      obtain ⟨b, o, rfl, hxx⟩ := HL.out.spot (by omega)
      obtain ⟨d0, d1, hc⟩ := HCMP.out wr b o _ p rfl HB.out hp
      have HCC := hid hc
      have HP := hid hp
      clear hc hp hxx
      obtain ⟨h, hh⟩ : ∃ h, (lo + hi) / 2 = h := ⟨_, rfl⟩
      rw [hh] at d0 d1 HP hml
      have hh1 : ((lo : Int) + (hi : Int)) / 2 = (h : Int) := by omega
      have hlt' : (lo : Int) < (hi : Int) := by omega
      have HH := hid hh
      clear hh
      by_cases hyx : cmp3 p.key k < 0
      · have HLT := hid ((cmp3_neg _ _).1 hyx)
        have hyx' : decide (cmp3 p.key k < 0) = true := by simpa using hyx
        generalize cmp3 p.key k = cc at *
        go_wp2_with fail
        refine HCC.out.mono ?_
        rintro e w2 ⟨rfl, hb2⟩
        have HB2 := hid hb2
        clear hb2
        go_wp2_with fail
        have hx := HH.out
        refine ⟨⟨h + 1, hi, by go_num, rfl, by omega, hin, HB2.out, ?_, HI.out.2⟩, by simp [intOf]; omega⟩
        intro t q ht hq
        by_cases e : t = h
        · subst e
          rw [HP.out] at hq
          obtain rfl : p = q := by simpa using hq
          exact HLT.out
        · exact Nat.lt_trans (rising HS.out (show t < h by omega) hq HP.out) HLT.out
      · have HLT := hid (fun h => hyx ((cmp3_neg p.key k).2 h))
        have hyx' : decide (cmp3 p.key k < 0) = false := by simpa using hyx
        generalize cmp3 p.key k = cc at *
        go_wp2_with fail
        refine HCC.out.mono ?_
        rintro e w2 ⟨rfl, hb2⟩
        have HB2 := hid hb2
        clear hb2
        go_wp2_with fail
        have hx := HH.out
        refine ⟨⟨lo, h, rfl, by go_num, by omega, by omega, HB2.out, HI.out.1, ?_⟩, by simp [intOf]; omega⟩
        intro t q ht hq
        have hph : k ≤ p.key := Nat.le_of_not_lt HLT.out
        by_cases e : t = h
        · subst e
          rw [HP.out] at hq
          obtain rfl : p = q := by simpa using hq
          exact hph
        · have := rising HS.out (show h < t by omega) HP.out hq
          omega
    · obtain rfl : hi = lo := by omega
      have hge : decide ((hi : Int) < (hi : Int)) = false := by simp
      by_cases hn : hi < n
      · obtain ⟨p, hp⟩ : ∃ p, l[hi]? = some p := ⟨l[hi]'(by rw [HN.out]; exact hn), List.getElem?_eq_getElem _⟩
        obtain ⟨b, o, rfl, hxx⟩ := HL.out.spot (by omega)
        obtain ⟨d0, d1, hc⟩ := HCMP.out wr b o _ p rfl HB.out hp
        have HCC := hid hc
        have hlt' : (hi : Int) < (n : Int) := by omega
        have hlt2 : decide ((hi : Int) < (n : Int)) = true := by simpa using hlt'
        obtain ⟨fd, hfd⟩ : ∃ fd, decide (cmp3 p.key k = 0) = fd := ⟨_, rfl⟩
        have HAT := hid (show AtV k l hi fd from ⟨by rw [HN.out]; exact hin, HI.out.1, HI.out.2, by
          rw [← hfd, decide_eq_true_eq, cmp3_zero]
          constructor
          · intro h
            exact ⟨p, hp, h⟩
          · rintro ⟨q, hq, h⟩
            rw [hp] at hq
            obtain rfl : p = q := by simpa using hq
            exact h⟩)
        clear hc hp hxx
        generalize cmp3 p.key k = cc at *
        go_wp2_with fail
        refine HCC.out.mono ?_
        rintro e w2 ⟨rfl, hb2⟩
        have HB2 := hid hb2
        clear hb2
        go_wp2
        go_ret2
        exact ⟨HB2.out, hi, fd, HAT.out, by rw [← hfd]; rfl⟩
      · have hlt2 : decide ((hi : Int) < (n : Int)) = false := by simp; omega
        have HAT := hid (show AtV k l hi false from ⟨by rw [HN.out]; exact hin, HI.out.1, HI.out.2, by
          constructor
          · intro h; cases h
          · rintro ⟨q, hq, _⟩
            have := (List.getElem?_eq_some_iff.1 hq).1
            rw [HN.out] at this
            omega⟩)
        go_wp2
        go_ret2
        exact ⟨HB.out, hi, false, HAT.out, rfl⟩
/-- of rising keys, who votes -/
theorem votedB_iff (key : Nat) : ∀ (vs : List Vl) (ts : List Vt), votedB key vs ts = true ↔ ∃ (i : Nat) (v : Vl) (t : Vt), vs[i]? = some v ∧ ts[i]? = some t ∧ v.key = key ∧ t.is = true
  | [], ts => by simp [votedB]
  | v :: vs, [] => by simp [votedB]
  | v :: vs, t :: ts => by
    rw [votedB, Bool.or_eq_true, Bool.and_eq_true, decide_eq_true_eq, votedB_iff key vs ts]
    constructor
    · rintro (⟨h1, h2⟩ | ⟨i, a, b, h1, h2, h3, h4⟩)
      · exact ⟨0, v, t, rfl, rfl, h1, h2⟩
      · exact ⟨i + 1, a, b, by simpa using h1, by simpa using h2, h3, h4⟩
    · rintro ⟨i, a, b, h1, h2, h3, h4⟩
      cases i with
      | zero =>
        obtain rfl : v = a := by simpa using h1
        obtain rfl : t = b := by simpa using h2
        exact .inl ⟨h3, h4⟩
      | succ i => exact .inr ⟨i, a, b, by simpa using h1, by simpa using h2, h3, h4⟩
theorem votedB_at {key i : Nat} {vs : List Vl} {ts : List Vt} {t : Vt} (hs : vs.Pairwise (fun a b => a.key < b.key)) (h : AtV key vs i true) (ht : ts[i]? = some t) : votedB key vs ts = t.is := by
  obtain ⟨v, hv, hk⟩ := h.2.2.2.1 rfl
  rw [Bool.eq_iff_iff, votedB_iff]
  constructor
  · rintro ⟨j, a, b, h1, h2, h3, h4⟩
    have : j = i := by
      rcases Nat.lt_trichotomy j i with hlt | rfl | hlt
      · have := rising hs hlt h1 hv; omega
      · rfl
      · have := rising hs hlt hv h1; omega
    subst this
    rw [ht] at h2
    obtain rfl : t = b := by simpa using h2
    exact h4
  · intro h4
    exact ⟨i, v, t, hv, ht, hk, h4⟩
theorem votedB_none {key i : Nat} {vs : List Vl} {ts : List Vt} (hs : vs.Pairwise (fun a b => a.key < b.key)) (h : AtV key vs i false) : votedB key vs ts = false := by
  cases hb : votedB key vs ts with
  | false => rfl
  | true =>
    obtain ⟨j, a, b, h1, _, h3, _⟩ := (votedB_iff key vs ts).1 hb
    exfalso
    rcases Nat.lt_trichotomy j i with hlt | rfl | hlt
    · have := h.2.1 j a hlt h1; omega
    · have := h.2.2.2.2 ⟨a, h1, h3⟩; cases this
    · obtain ⟨v, hv⟩ : ∃ v, vs[i]? = some v := ⟨vs[i]'(by have := (List.getElem?_eq_some_iff.1 h1).1; omega), List.getElem?_eq_getElem _⟩
      have h5 := h.2.2.1 i v (Nat.le_refl _) hv
      have h6 := rising hs hlt hv h1
      omega
end Go.Proofs.YtiflkkelbnpniaaGreatDoor
namespace Go.Proofs.YtiflkkelbnpniaaGreatDoor
open Go.RowKit

/-- what Overlap is to answer, of right validators and of what Check says nothing of -/
def OverC (f : FuncId) : Prop := ∀ (t : List Vl) (s : Sg) (tv v : Value) (N : Nat) (w : World), N ≤ w.heap.size → Vals w N tv t → SgV w N v s → valsN t = 0 → (∀ v ∈ t, v.ok) → valsN s.vals = 0 → s.votes.length = s.vals.length →
  Calls Tryz.prog f #[tv, v] w fun e w' => e = .returned (.bool (overB t s)) ∧ Below w.heap.size w w'
set_option maxRecDepth 100000 in
set_option maxHeartbeats 1000000 in
theorem voted_any (s : Sg) (v : Value) (key N : Nat) (w : World) (hN : N ≤ w.heap.size) (hv : SgV w N v s) (hs : s.vals.Pairwise (fun a b => a.key < b.key)) (h10 : s.vals.length ≤ 10) (hlen : s.votes.length = s.vals.length) :
    Calls Tryz.prog 52 #[v, .int .u64 (key : Int)] w fun e w' => e = .returned (.bool (votedB key s.vals s.votes)) ∧ Below w.heap.size w w' := by
  obtain ⟨rv, vv, nv, lv, tv, rfl, h1, h2, h3, h4, h5⟩ := hv
  obtain ⟨o1, c1, rfl, _⟩ := h1.shape
  obtain ⟨o2, c2, rfl, _⟩ := h2.shape
  obtain ⟨o3, c3, rfl, _⟩ := h3.shape
  have HT := hid h5
  have HL := hid h4
  obtain ⟨o4, c4, rfl, _⟩ := h4.shape
  obtain ⟨o5, c5, rfl, _⟩ := h5.shape
  have HS := hid hs
  obtain ⟨w0, hw0⟩ : ∃ w0, w.alloc (.cells #[.string s.hd.chain, .int .i64 s.hd.height, .int .i64 s.hd.time, .slice o1 s.hd.root.length c1, .slice o2 s.hd.vals.length c2, .slice o3 s.hd.next.length c3, .slice o4 s.vals.length c4, .slice o5 s.votes.length c5] 33) = w0 := ⟨_, rfl⟩
  have HB0 := hid (show Below w.heap.size w w0 by rw [← hw0]; exact (Below.refl _ _).alloc (Nat.le_refl _) _)
  have HR0 := hid (show Row w0 w.heap.size 33 [.string s.hd.chain, .int .i64 s.hd.height, .int .i64 s.hd.time, .slice o1 s.hd.root.length c1, .slice o2 s.hd.vals.length c2, .slice o3 s.hd.next.length c3, .slice o4 s.vals.length c4, .slice o5 s.votes.length c5] by rw [← hw0]; exact Row.new _ _ _)
  have k6 := HR0.out.cell 6
  have HSE := hid (searchV_any s.vals key _ N w0 #[] rfl (Nat.le_trans hN HB0.out.size) (HL.out.below (HB0.out.mono hN)) hs (by omega))
  clear h1 h2 h3 h4 h5 hs
  generalize s.hd.root.length = m1 at *
  generalize s.hd.vals.length = m2 at *
  generalize s.hd.next.length = m3 at *
  generalize hvs : s.vals = vs at *
  generalize hts : s.votes = ts at *
  clear hvs hts
  generalize hn : vs.length = nv at *
  generalize hnt : ts.length = n at *
  subst hlen
  have HN := hid hn
  have HNT := hid hnt
  clear hn hnt
  go_enter Tryz.func52, Tryz.ntmps52
  go_wp2_with fail
  refine HSE.out.mono ?_
  rintro e w1 ⟨hb1, i, fd, hat, rfl⟩
  have HB1 := hid (HB0.out.trans (hb1.mono HB0.out.size))
  have i7 := (HR0.out.below hb1 HR0.out.lt).cell 7
  have HAT := hid hat
  clear hb1 hat hw0
  cases fd with
  | false =>
    have HVB := hid (votedB_none (ts := ts) HS.out HAT.out)
    go_wp2
    go_ret
    exact ⟨by rw [HVB.out]; first | done | rfl, HB1.out⟩
  | true =>
    obtain ⟨v, hv, hvk⟩ := HAT.out.2.2.2.1 rfl
    have hin : i < n := by have := (List.getElem?_eq_some_iff.1 hv).1; rw [HN.out] at this; exact this
    obtain ⟨t, ht⟩ : ∃ t, ts[i]? = some t := ⟨ts[i]'(by rw [HNT.out]; exact hin), List.getElem?_eq_getElem _⟩
    have HVB := hid (votedB_at HS.out HAT.out ht)
    obtain ⟨b, p, rfl, hcells⟩ := HT.out.spot (by omega)
    obtain ⟨hbN, a0, _, _⟩ := hcells i t ht
    have f0 := (HB1.out.cell (p := ⟨b, p + i * 3, none⟩) (by show b < _; omega)).trans a0
    have hin' : (i : Int) < (n : Int) := by omega
    have e1 : decide ((i : Int) < (n : Int)) = true := by simp; omega
    have e1n : decide (i < n) = true := decide_eq_true hin
    clear hcells a0 hv hvk ht
    go_wp2
    go_ret
    exact ⟨by rw [HVB.out]; first | done | rfl, HB1.out⟩
set_option maxRecDepth 100000 in
set_option maxHeartbeats 1000000 in
theorem over1_any (t : List Vl) (s : Sg) (k gs gt : Nat) (o : Option Addr) (c N : Nat) (w : World) (hN : N ≤ w.heap.size) (ht : Vals w N (.slice o t.length c) t) (x0 x1 x2 x3 x4 x5 x6 x7 : Value) (hv : SgV w N (.agg #[x0, x1, x2, x3, x4, x5, x6, x7]) s) (hr : Row w gs 33 [x0, x1, x2, x3, x4, x5, x6, x7])
    (hc : w.cell? ⟨gt, 0, none⟩ = some (.slice o t.length c)) (hs : s.vals.Pairwise (fun a b => a.key < b.key)) (h10 : s.vals.length ≤ 10) (hlen : s.votes.length = s.vals.length) (v : Vl) (hk : t[k]? = some v) (htl : t.length ≤ 10) :
    Calls Tryz.prog 51 #[.int .i64 (k : Int), .pointer (some ⟨gs, 0, none⟩), .pointer (some ⟨gt, 0, none⟩)] w fun e w' => e = .returned (.bool (votedB v.key s.vals s.votes)) ∧ Below w.heap.size w w' := by
  have hkl := (List.getElem?_eq_some_iff.1 hk).1
  obtain ⟨b, p, rfl, hcells⟩ := ht.spot (by omega)
  obtain ⟨_, a0, _⟩ := hcells k v hk
  obtain ⟨j0, j1, j2, j3, j4, j5, j6, j7⟩ := hr.eight
  have hlt : (k : Int) < (t.length : Int) := by omega
  have HV := hid (voted_any s _ v.key N w.drew hN (hv.below (below_drewH w 1 N)) hs h10 hlen)
  obtain ⟨rv, vv, nv, lv, tv, he, h1, h2, h3, h4, h5⟩ := hv
  obtain ⟨o1, c1, rfl, _⟩ := h1.shape
  obtain ⟨o2, c2, rfl, _⟩ := h2.shape
  obtain ⟨o3, c3, rfl, _⟩ := h3.shape
  obtain ⟨o4, c4, rfl, _⟩ := h4.shape
  obtain ⟨o5, c5, rfl, _⟩ := h5.shape
  obtain ⟨rfl, rfl, rfl, rfl, rfl, rfl, rfl, rfl⟩ : x0 = _ ∧ x1 = _ ∧ x2 = _ ∧ x3 = _ ∧ x4 = _ ∧ x5 = _ ∧ x6 = _ ∧ x7 = _ := by simpa using he
  clear hcells ht hr hs h1 h2 h3 h4 h5 hk he hlen
  generalize t.length = n at *
  go_enter Tryz.func51, Tryz.ntmps51
  go_wp2_with fail
  refine region_tail 6 (by kernel_rfl) (by kernel_rfl) ?_
  simp only [List.take_succ_cons, List.take_zero, List.drop_succ_cons, List.drop_zero]
  repeat still_step
  refine wpStill_nil ?_
  go_wp2_with fail
  refine HV.out.mono ?_
  rintro e w2 ⟨rfl, hb2⟩
  have HB2 := hid hb2
  clear hb2
  go_wp2
  go_ret
  exact ⟨rfl, (below_drewH w 1 _).trans HB2.out⟩
set_option maxRecDepth 100000 in
set_option maxHeartbeats 1000000 in
theorem overC : OverC 23 := by
  intro t s tv v N w hN ht hv htv htok hsv hlen
  have HSV := hid hv
  have HTV := hid ht
  obtain ⟨v1, v2, v3, _⟩ := valsN_ok htv
  obtain ⟨_, u2, _, u4⟩ := valsN_ok hsv
  have HU4 := hid u4
  have HV3 := hid v3
  obtain ⟨rv, vv, nv, lv, tsv, rfl, h1, h2, h3, h4, h5⟩ := hv
  obtain ⟨o1, c1, rfl, _⟩ := h1.shape
  obtain ⟨o2, c2, rfl, _⟩ := h2.shape
  obtain ⟨o3, c3, rfl, _⟩ := h3.shape
  obtain ⟨o4, c4, rfl, _⟩ := h4.shape
  obtain ⟨o5, c5, rfl, _⟩ := h5.shape
  obtain ⟨o, c, rfl, _⟩ := ht.shape
  clear h1 h2 h3 h4 h5 ht u4 v3 htv hsv htok
  obtain ⟨w0, hw0⟩ : ∃ w0, w.alloc (.cells #[.slice o t.length c] 30) = w0 := ⟨_, rfl⟩
  have hb0 : Below w.heap.size w w0 := by rw [← hw0]; exact (Below.refl _ _).alloc (Nat.le_refl _) _
  have hr0 : Row w0 w.heap.size 30 [.slice o t.length c] := by rw [← hw0]; exact Row.new _ _ _
  have hsz0 : w0.heap.size = w.heap.size + 1 := by rw [← hw0]; simp
  obtain ⟨w1, hw1⟩ : ∃ w1, w0.alloc (.cells #[.string s.hd.chain, .int .i64 s.hd.height, .int .i64 s.hd.time, .slice o1 s.hd.root.length c1, .slice o2 s.hd.vals.length c2, .slice o3 s.hd.next.length c3, .slice o4 s.vals.length c4, .slice o5 s.votes.length c5] 33) = w1 := ⟨_, rfl⟩
  have hb1 : Below w0.heap.size w0 w1 := by rw [← hw1]; exact (Below.refl _ _).alloc (Nat.le_refl _) _
  have hr1 := hr0.below hb1 hr0.lt
  have HR1 := hid hr1
  have HS1 := hid (show Row w1 (w.heap.size + 1) 33 [.string s.hd.chain, .int .i64 s.hd.height, .int .i64 s.hd.time, .slice o1 s.hd.root.length c1, .slice o2 s.hd.vals.length c2, .slice o3 s.hd.next.length c3, .slice o4 s.vals.length c4, .slice o5 s.votes.length c5] by rw [← hw1, ← hsz0]; exact Row.new _ _ _)
  have HB1 := hid (hb0.trans (hb1.mono hb0.size))
  have k0 := hr1.cell 0
  have HPW := hid (powerOver (w.heap.size + 1) w.heap.size t (fun k => match t[k]? with | some v => votedB v.key s.vals s.votes | none => false) _ N w1 (Nat.le_trans hN HB1.out.size) (HTV.out.below (HB1.out.mono hN)) v2 (fun v hv => (HV3.out v hv).2) (fun k wr hk hb => by
    obtain ⟨v, hv⟩ : ∃ v, t[k]? = some v := ⟨t[k], List.getElem?_eq_getElem hk⟩
    have hbw := HB1.out.trans (hb.mono HB1.out.size)
    have := over1_any t s k (w.heap.size + 1) w.heap.size o c N wr (Nat.le_trans hN hbw.size) (HTV.out.below (hbw.mono hN)) _ _ _ _ _ _ _ _ (HSV.out.below (hbw.mono hN)) (HS1.out.below hb HS1.out.lt) ((HR1.out.below hb HR1.out.lt).cell 0) HU4.out u2 hlen v hv v2
    simp only [hv]
    exact this))
  rw [sumIx_over s t 0 _ (fun i v hv => by rw [Nat.zero_add]; simp only [hv])] at HPW
  have hle := overP_le s t
  have hal := allP_le t (fun v hv => (HV3.out v hv).2)
  have HOB := hid (show overB t s = decide (allP t < 3 * overP s t) from rfl)
  clear hb0 hr0 hb1 hr1 hlen
  generalize overP s t = oo at *
  generalize allP t = aa at *
  generalize t.length = n at *
  have hw3 : IntKind.u64.wrap (3 * (oo : Int)) = 3 * (oo : Int) := by simp [IntKind.wrap, IntKind.bits, IntKind.signed]; omega
  by_cases h3 : aa < 3 * oo
  · have e3 : decide ((aa : Int) < 3 * (oo : Int)) = true := by simp; omega
    rw [decide_eq_true h3] at HOB
    clear h3
    go_enter Tryz.func23, Tryz.ntmps23
    go_wp2_with fail
    refine HPW.out.mono ?_
    rintro e w2 ⟨rfl, hb2⟩
    have HB2 := hid (HB1.out.trans (hb2.mono HB1.out.size))
    clear hb2
    go_wp2
    go_ret
    exact ⟨by rw [HOB.out]; first | done | rfl | (simp [e3]; first | done | rfl), HB2.out⟩
  · have e3 : decide ((aa : Int) < 3 * (oo : Int)) = false := by simp; omega
    rw [decide_eq_false h3] at HOB
    clear h3
    go_enter Tryz.func23, Tryz.ntmps23
    go_wp2_with fail
    refine HPW.out.mono ?_
    rintro e w2 ⟨rfl, hb2⟩
    have HB2 := hid (HB1.out.trans (hb2.mono HB1.out.size))
    clear hb2
    go_wp2
    go_ret
    exact ⟨by rw [HOB.out]; first | done | rfl | (simp [e3]; first | done | rfl), HB2.out⟩
end Go.Proofs.YtiflkkelbnpniaaGreatDoor
