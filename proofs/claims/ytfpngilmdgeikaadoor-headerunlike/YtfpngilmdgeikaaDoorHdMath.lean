/-
  Plain mathematics of validators, headers and votes: what is wrong with them, their bytes and digests, who votes, how much power that is. No function of the program is named here.
-/
import Derived.Test.YtfpngilmdgeikaaDoorSealGood
import Derived.Test.YtfpngilmdgeikaaDoorWireMath
namespace Go.Proofs.YtfpngilmdgeikaaDoor

/-- a validator -/
structure Vl where
  key : Nat
  power : Nat
/-- a vote -/
structure Vt where
  is : Bool
  r : Nat
  s : Nat
/-- a header -/
structure Hd where
  chain : ByteArray
  height : Int
  time : Int
  root : List (BitVec 8)
  vals : List (BitVec 8)
  next : List (BitVec 8)
/-- a header, validators, votes -/
structure Sg where
  hd : Hd
  vals : List Vl
  votes : List Vt
def Vl.ok (v : Vl) : Prop := v.key < 18446744073709551616 ∧ v.power < 18446744073709551616
def Vt.ok (v : Vt) : Prop := v.r < 18446744073709551616 ∧ v.s < 18446744073709551616
def Vt.none : Vt := ⟨false, 0, 0⟩
def Hd.none : Hd := ⟨⟨#[]⟩, 0, 0, [], [], []⟩
def Sg.none : Sg := ⟨Hd.none, [], []⟩
/-- as many bytes as the reach lets -/
def Hd.fits (h : Hd) : Prop := h.chain.size ≤ 140737488351232 ∧ h.root.length ≤ 140737488351232 ∧ h.vals.length ≤ 140737488351232 ∧ h.next.length ≤ 140737488351232
def Sg.fits (s : Sg) : Prop := s.hd.fits ∧ s.vals.length < 2305843009213693952 ∧ s.votes.length < 2305843009213693952 ∧ (∀ v ∈ s.vals, v.ok) ∧ ∀ v ∈ s.votes, v.ok

/-- what is wrong with validators, behind one with this key -/
def aheadB : Option Nat → Nat → Bool
  | none, _ => false
  | some k, x => decide (x ≤ k)
def valsGo (p : Option Nat) : List Vl → Int
  | [] => 0
  | v :: r => if v.power < 1 ∨ 1000000 < v.power then 3 else if aheadB p v.key = true then 2 else valsGo (some v.key) r
def valsN (l : List Vl) : Int := if l.length < 1 ∨ 10 < l.length then 5 else valsGo none l
/-- the key ahead of the k-th -/
def prevV (l : List Vl) (k : Nat) : Option Nat := if k = 0 then none else (l[k - 1]?).map (·.key)
theorem valsGo_at (l : List Vl) (k : Nat) (v : Vl) (h : l[k]? = some v) : valsGo (prevV l k) (l.drop k) =
    if v.power < 1 ∨ 1000000 < v.power then 3 else if aheadB (prevV l k) v.key = true then 2 else valsGo (prevV l (k + 1)) (l.drop (k + 1)) := by
  obtain ⟨hk, rfl⟩ := List.getElem?_eq_some_iff.1 h
  rw [List.drop_eq_getElem_cons hk, valsGo]
  have e : prevV l (k + 1) = some l[k].key := by unfold prevV; simp [hk]
  rw [e]
theorem valsGo_end (l : List Vl) (k : Nat) (h : l.length ≤ k) : valsGo (prevV l k) (l.drop k) = 0 := by
  rw [List.drop_eq_nil_of_le h, valsGo]
/-- right validators: few, of right power, keys rising -/
theorem valsGo_ok : ∀ (l : List Vl) (p : Option Nat), valsGo p l = 0 → (∀ v ∈ l, 1 ≤ v.power ∧ v.power ≤ 1000000) ∧ (∀ k, p = some k → ∀ v ∈ l, k < v.key) ∧ l.Pairwise (fun a b => a.key < b.key)
  | [], _, _ => ⟨by simp, by simp, List.Pairwise.nil⟩
  | v :: r, p, h => by
    rw [valsGo] at h
    split at h
    · cases h
    · rename_i h1
      split at h
      · cases h
      · rename_i h2
        obtain ⟨ih1, ih2, ih3⟩ := valsGo_ok r _ h
        have ih2' := ih2 v.key rfl
        refine ⟨fun x hx => ?_, fun k hk x hx => ?_, List.Pairwise.cons (fun x hx => ih2' x hx) ih3⟩
        · rcases List.mem_cons.1 hx with rfl | hx
          · omega
          · exact ih1 x hx
        · subst hk
          simp [aheadB] at h2
          rcases List.mem_cons.1 hx with rfl | hx
          · exact h2
          · exact Nat.lt_trans h2 (ih2' x hx)
theorem valsN_ok {l : List Vl} (h : valsN l = 0) : 1 ≤ l.length ∧ l.length ≤ 10 ∧ (∀ v ∈ l, 1 ≤ v.power ∧ v.power ≤ 1000000) ∧ l.Pairwise (fun a b => a.key < b.key) := by
  unfold valsN at h
  split at h
  · cases h
  · rename_i h1
    obtain ⟨h2, _, h3⟩ := valsGo_ok l none h
    exact ⟨by omega, by omega, h2, h3⟩

/-- a letter of a name -/
def nameC (c : UInt8) : Bool := (decide (97 ≤ c.toNat) && decide (c.toNat ≤ 122)) || (decide (48 ≤ c.toNat) && decide (c.toNat ≤ 57))
def nameB (s : ByteArray) : Bool := decide (1 ≤ s.size) && decide (s.size ≤ 20) && s.data.toList.all nameC
theorem nameB_short {s : ByteArray} (h : s.size < 1 ∨ 20 < s.size) : nameB s = false := by
  unfold nameB
  rcases h with h | h
  · rw [decide_eq_false (by omega)]; rfl
  · rw [decide_eq_false (by omega : ¬ s.size ≤ 20)]; simp
theorem nameB_at {s : ByteArray} (k : Nat) (hk : k < s.size) (h : nameC s[k] = false) : nameB s = false := by
  unfold nameB
  have : s.data.toList.all nameC = false := by
    rw [List.all_eq_false]
    refine ⟨s[k], ?_, by rw [h]; decide⟩
    exact Array.mem_toList_iff.2 (Array.getElem_mem (xs := s.data) hk)
  rw [this, Bool.and_false]
theorem nameB_all {s : ByteArray} (h1 : 1 ≤ s.size) (h2 : s.size ≤ 20) (h : ∀ k (hk : k < s.size), nameC s[k] = true) : nameB s = true := by
  unfold nameB
  rw [decide_eq_true h1, decide_eq_true h2]
  simp only [Bool.and_self, Bool.true_and]
  rw [List.all_eq_true]
  intro x hx
  obtain ⟨k, hk, rfl⟩ := List.getElem_of_mem hx
  exact h k (by simpa using hk)
theorem nameB_size {s : ByteArray} (h : nameB s = true) : 1 ≤ s.size ∧ s.size ≤ 20 := by
  unfold nameB at h
  simp at h
  exact ⟨h.1.1, h.1.2⟩
def wrongH (h : Hd) : Int :=
  if nameB h.chain = false then 7 else if h.height < 1 ∨ 1000000000000 < h.height ∨ h.time < 0 ∨ 1000000000000 < h.time then 3
  else if h.root.length ≠ 32 ∨ h.vals.length ≠ 32 ∨ h.next.length ≠ 32 then 2 else 0
theorem wrongH_ok {h : Hd} (e : wrongH h = 0) : (nameB h.chain = true ∧ 1 ≤ h.chain.size ∧ h.chain.size ≤ 20) ∧ (1 ≤ h.height ∧ h.height ≤ 1000000000000 ∧ 0 ≤ h.time ∧ h.time ≤ 1000000000000) ∧ h.root.length = 32 ∧ h.vals.length = 32 ∧ h.next.length = 32 := by
  unfold wrongH at e
  split at e
  · cases e
  · rename_i h1
    split at e
    · cases e
    · rename_i h2
      split at e
      · cases e
      · rename_i h3
        have hn : nameB h.chain = true := by simpa using h1
        exact ⟨⟨hn, nameB_size hn⟩, by omega, by omega⟩
/-- a text's letters -/
def lets (s : ByteArray) : List (BitVec 8) := s.data.toList.map UInt8.toBitVec
theorem lets_length (s : ByteArray) : (lets s).length = s.size := by simp [lets]
theorem lets_inj {s t : ByteArray} (h : lets s = lets t) : s = t := by
  have : s.data.toList = t.data.toList := by
    refine List.map_inj_right (f := UInt8.toBitVec) ?_ |>.1 h
    intro x y e
    exact UInt8.eq_of_toBitVec_eq e
  obtain ⟨a⟩ := s
  obtain ⟨b⟩ := t
  simp at this
  rw [this]

/-- a validator's two pieces -/
def vPieces (l : List Vl) : List Pc := l.flatMap fun v => [⟨1, v.key, []⟩, ⟨1, v.power, []⟩]
theorem vPieces_length (l : List Vl) : (vPieces l).length = 2 * l.length := by
  induction l with
  | nil => rfl
  | cons v r ih => simp [vPieces] at ih ⊢; omega
theorem vPieces_take (l : List Vl) (k : Nat) (v : Vl) (h : l[k]? = some v) : vPieces (l.take (k + 1)) = vPieces (l.take k) ++ [⟨1, v.key, []⟩, ⟨1, v.power, []⟩] := by
  obtain ⟨hk, rfl⟩ := List.getElem?_eq_some_iff.1 h
  rw [List.take_succ_eq_append_getElem hk]
  unfold vPieces
  rw [List.flatMap_append]
  rfl
def vBytes (l : List Vl) : List (BitVec 8) := numB (vPieces l).length ++ wrs (vPieces l)
def digV (l : List Vl) : List (BitVec 8) := sha (vBytes l)
theorem digV_length (l : List Vl) : (digV l).length = 32 := sha_length _
theorem wrs_vals : ∀ (l : List Vl), (∀ v ∈ l, v.ok) → (wrs (vPieces l)).length ≤ 22 * l.length
  | [], _ => by simp [wrs, vPieces]
  | v :: r, h => by
    have ih := wrs_vals r (fun x hx => h x (List.mem_cons_of_mem _ hx))
    obtain ⟨h1, h2⟩ := h v List.mem_cons_self
    have e1 := numB_ten v.key h1
    have e2 := numB_ten v.power h2
    have : wrs (vPieces (v :: r)) = (0 :: numB v.key) ++ ((0 :: numB v.power) ++ wrs (vPieces r)) := by
      simp [wrs, vPieces, Pc.wr]
    rw [this]
    simp
    omega
theorem wrAll_vals (l : List Vl) (hl : l.length ≤ 10) (h : ∀ v ∈ l, v.ok) : wrAll (vPieces l) = .ok (vBytes l) := by
  have hn := vPieces_length l
  unfold wrAll vBytes
  rw [if_neg (by omega)]
  have h1 := wrs_vals l h
  have h2 := numB_ten (vPieces l).length (by omega)
  refine wrGo_of _ _ _ (fun p hp => ?_) (by simp; omega)
  obtain ⟨v, _, hv⟩ := List.mem_flatMap.1 hp
  simp at hv
  rcases hv with rfl | rfl
  · exact .inl rfl
  · exact .inl rfl
theorem vBytes_length (l : List Vl) (hl : l.length ≤ 10) (h : ∀ v ∈ l, v.ok) : (vBytes l).length ≤ 300 := by
  have hn := vPieces_length l
  have h1 := wrs_vals l h
  have h2 := numB_ten (vPieces l).length (by omega)
  unfold vBytes
  simp
  omega
/-- a header's six pieces -/
def hPieces (h : Hd) : List Pc := [⟨2, 0, lets h.chain⟩, ⟨1, h.height.toNat, []⟩, ⟨1, h.time.toNat, []⟩, ⟨2, 0, h.root⟩, ⟨2, 0, h.vals⟩, ⟨2, 0, h.next⟩]
def bytesH (h : Hd) : List (BitVec 8) := numB 6 ++ wrs (hPieces h)
theorem wrs_head (h : Hd) (e : wrongH h = 0) : (bytesH h).length ≤ 300 := by
  obtain ⟨⟨_, h1, h2⟩, h3, h4, h5, h6⟩ := wrongH_ok e
  have e1 := numB_ten h.height.toNat (by omega)
  have e2 := numB_ten h.time.toNat (by omega)
  have e3 := numB_ten 6 (by omega)
  have e4 := numB_ten (lets h.chain).length (by rw [lets_length]; omega)
  have e5 := numB_ten 32 (by omega)
  have hl := lets_length h.chain
  unfold bytesH
  simp [wrs, hPieces, Pc.wr, h4, h5, h6]
  omega
theorem wrAll_head (h : Hd) (e : wrongH h = 0) : wrAll (hPieces h) = .ok (bytesH h) := by
  have h1 := wrs_head h e
  unfold wrAll
  rw [if_neg (by simp [hPieces])]
  refine wrGo_of _ _ _ (fun p hp => ?_) (by exact Nat.le_trans h1 (by omega))
  simp [hPieces] at hp
  rcases hp with rfl | rfl | rfl | rfl | rfl | rfl <;> simp
theorem hPieces_fits (h : Hd) (e : wrongH h = 0) : ∀ p ∈ hPieces h, p.ok ∧ p.b.length ≤ 140737488351232 := by
  obtain ⟨⟨_, h1, h2⟩, h3, h4, h5, h6⟩ := wrongH_ok e
  have hl := lets_length h.chain
  intro p hp
  simp [hPieces] at hp
  rcases hp with rfl | rfl | rfl | rfl | rfl | rfl <;> simp [Pc.ok] <;> omega
/-- right headers with the same bytes are the same -/
theorem bytesH_inj {a b : Hd} (ha : wrongH a = 0) (hb : wrongH b = 0) (e : bytesH a = bytesH b) : a = b := by
  have h := (wr_inj (hPieces a) (hPieces b) _ _ (fun p hp => (hPieces_fits a ha p hp).1) (fun p hp => (hPieces_fits b hb p hp).1) (wrAll_head a ha) (wrAll_head b hb)).1 e
  obtain ⟨_, h3, _⟩ := wrongH_ok ha
  obtain ⟨_, k3, _⟩ := wrongH_ok hb
  simp [hPieces, Pc.norm] at h
  obtain ⟨e1, e2, e3, e4, e5, e6⟩ := h
  have e1' := lets_inj e1
  obtain ⟨a1, a2, a3, a4, a5, a6⟩ := a
  obtain ⟨b1, b2, b3, b4, b5, b6⟩ := b
  simp at e1' e2 e3 e4 e5 e6 h3 k3
  obtain rfl : a2 = b2 := by omega
  obtain rfl : a3 = b3 := by omega
  rw [e1', e4, e5, e6]

/-- what keeps h from being a header of these validators -/
def togetherN (h : Hd) (l : List Vl) : Int := if wrongH h ≠ 0 then wrongH h else if valsN l ≠ 0 then valsN l else if h.vals = digV l then 0 else 8
theorem togetherN_ok {h : Hd} {l : List Vl} (e : togetherN h l = 0) : wrongH h = 0 ∧ valsN l = 0 ∧ h.vals = digV l := by
  unfold togetherN at e
  split at e
  · rename_i h1; exact absurd e h1
  · rename_i h1
    split at e
    · rename_i h2; exact absurd e h2
    · rename_i h2
      split at e
      · rename_i h3; exact ⟨by omega, by omega, h3⟩
      · cases e
/-- a good seal, by what it is reckoned of -/
def goodB (key : Nat) (m : List (BitVec 8)) (r s : Nat) : Bool :=
  decide (1 ≤ key ∧ key < 1152921504606849707) && (decide (1 ≤ r ∧ r < 1152921504606849707) && (decide (s < 576460752303424853) && (decide (powQ key = 1) && decide (powP 4 s = mulP r (powP key (askN r key m))))))
theorem goodB_iff (key : Nat) (m : List (BitVec 8)) (r s : Nat) : goodB key m r s = true ↔ goodN key m r s := by
  unfold goodB goodN
  simp only [Bool.and_eq_true, decide_eq_true_eq]
theorem goodB_of {key : Nat} {m : List (BitVec 8)} {r s : Nat} {b : Bool} (h : b = true ↔ goodN key m r s) : b = goodB key m r s := by
  rw [Bool.eq_iff_iff, goodB_iff]; exact h
/-- all votes are good -/
def goodAll (m : List (BitVec 8)) : List Vl → List Vt → Bool
  | v :: l, t :: r => (!t.is || goodB v.key m t.r t.s) && goodAll m l r
  | _, _ => true
/-- how much power votes have -/
def yesP : List Vl → List Vt → Nat
  | v :: l, t :: r => (if t.is then v.power else 0) + yesP l r
  | _, _ => 0
def allP (l : List Vl) : Nat := (l.map (·.power)).sum
def checkN (s : Sg) : Int :=
  if togetherN s.hd s.vals ≠ 0 then togetherN s.hd s.vals else if s.votes.length ≠ s.vals.length then 8
  else if goodAll (bytesH s.hd) s.vals s.votes = false then 10 else if 3 * yesP s.vals s.votes ≤ 2 * allP s.vals then 10 else 0
theorem checkN_ok {s : Sg} (e : checkN s = 0) : togetherN s.hd s.vals = 0 ∧ s.votes.length = s.vals.length ∧ goodAll (bytesH s.hd) s.vals s.votes = true ∧ 2 * allP s.vals < 3 * yesP s.vals s.votes := by
  unfold checkN at e
  split at e
  · rename_i h1; exact absurd e h1
  · rename_i h1
    split at e
    · cases e
    · rename_i h2
      split at e
      · cases e
      · rename_i h3
        split at e
        · cases e
        · rename_i h4
          exact ⟨by omega, by omega, by simpa using h3, by omega⟩
/-- does who has this key vote -/
def votedB (key : Nat) : List Vl → List Vt → Bool
  | v :: l, t :: r => (decide (v.key = key) && t.is) || votedB key l r
  | _, _ => false
/-- how much of what is trusted votes -/
def overP (s : Sg) : List Vl → Nat
  | [] => 0
  | v :: l => (if votedB v.key s.vals s.votes then v.power else 0) + overP s l
def overB (t : List Vl) (s : Sg) : Bool := decide (allP t < 3 * overP s t)

/-- the last seed that has this key -/
def lastSeed (seeds : List (List (BitVec 8))) (k : Nat) : Option (List (BitVec 8)) := seeds.reverse.find? fun s => decide (keyN s = k)
def voteOf (seeds : List (List (BitVec 8))) (m : List (BitVec 8)) (k : Nat) : Vt :=
  match lastSeed seeds k with
  | none => Vt.none
  | some s => ⟨true, sealR s m, sealS s m⟩
def votesOf (seeds : List (List (BitVec 8))) (m : List (BitVec 8)) (l : List Vl) : List Vt := l.map fun v => voteOf seeds m v.key
/-- what Sign answers -/
def signS (h : Hd) (l : List Vl) (seeds : List (List (BitVec 8))) : Sg := if togetherN h l = 0 then ⟨h, l, votesOf seeds (bytesH h) l⟩ else Sg.none

theorem allP_le : ∀ (l : List Vl), (∀ v ∈ l, v.power ≤ 1000000) → allP l ≤ 1000000 * l.length
  | [], _ => by simp [allP]
  | v :: r, h => by
    have ih := allP_le r (fun x hx => h x (List.mem_cons_of_mem _ hx))
    have := h v List.mem_cons_self
    simp [allP] at ih ⊢
    omega
theorem yesP_le : ∀ (l : List Vl) (m : List Vt), yesP l m ≤ allP l
  | [], _ => by simp [yesP]
  | v :: l, [] => by simp [yesP]
  | v :: l, t :: m => by
    have ih := yesP_le l m
    simp [yesP, allP] at ih ⊢
    split <;> omega
theorem overP_le (s : Sg) : ∀ (l : List Vl), overP s l ≤ allP l
  | [] => by simp [overP]
  | v :: l => by
    have ih := overP_le s l
    simp [overP, allP] at ih ⊢
    split <;> omega
end Go.Proofs.YtfpngilmdgeikaaDoor
