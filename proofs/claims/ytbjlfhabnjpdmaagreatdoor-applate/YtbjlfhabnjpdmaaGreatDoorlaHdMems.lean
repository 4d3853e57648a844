/-
  Plain mathematics of validators, headers and votes: what is wrong with them, their bytes and digests, who votes, how much power that is. No function of the program is named here.
  Records behind a slice value, so many cells each; validators, votes, headers as values. No function of the program is named here. What reads as bytes, validators or votes does so still when a row of another kind is written: its block is another one. A whole row that is written cell by cell.
  What isName and Wrong answer: whether a text is a name; what keeps a header from being one. They turn no memory that was there. What Vals answers, the landed one and the document's: what keeps a list from being validators. They turn no memory that was there.
  What power answers, with the two functions that it is handed: how much power those have whose places count, and how much all have.
  What slices.BinarySearchFunc answers over validators whose keys rise: where a key stands, or would stand; what voted answers. What voted and Overlap answer: whether a key votes; whether those who voted have more than a third of what is trusted.
-/
import Derived.Test.YtbjlfhabnjpdmaaGreatDoorlaSealGood
import Derived.Test.YtbjlfhabnjpdmaaGreatDoorlaWireBoth
import Derived.Test.YtbjlfhabnjpdmaaGreatDoorlaMemB
import Derived.Deep.QuietTactic
import Derived.BigQuiet
namespace Go.Proofs.YtbjlfhabnjpdmaaGreatDoor

/-- a validator -/
structure Vl where
  key : Nat
  power : Nat
/-- a vote -/
structure Vt where
  is : Bool
  r : Nat
  s : Nat
/-- a header -/
structure Hd where
  chain : ByteArray
  height : Int
  time : Int
  root : List (BitVec 8)
  vals : List (BitVec 8)
  next : List (BitVec 8)
/-- a header, validators, votes -/
structure Sg where
  hd : Hd
  vals : List Vl
  votes : List Vt
def Vl.ok (v : Vl) : Prop := v.key < 18446744073709551616 ∧ v.power < 18446744073709551616
def Vt.ok (v : Vt) : Prop := v.r < 18446744073709551616 ∧ v.s < 18446744073709551616
def Vt.none : Vt := ⟨false, 0, 0⟩
def Hd.none : Hd := ⟨⟨#[]⟩, 0, 0, [], [], []⟩
def Sg.none : Sg := ⟨Hd.none, [], []⟩
/-- as many bytes as the reach lets -/
def Hd.fits (h : Hd) : Prop := h.chain.size ≤ 140737488351232 ∧ h.root.length ≤ 140737488351232 ∧ h.vals.length ≤ 140737488351232 ∧ h.next.length ≤ 140737488351232
def Sg.fits (s : Sg) : Prop := s.hd.fits ∧ s.vals.length < 2305843009213693952 ∧ s.votes.length < 2305843009213693952 ∧ (∀ v ∈ s.vals, v.ok) ∧ ∀ v ∈ s.votes, v.ok


/-- a letter of a name -/
def nameC (c : UInt8) : Bool := (decide (97 ≤ c.toNat) && decide (c.toNat ≤ 122)) || (decide (48 ≤ c.toNat) && decide (c.toNat ≤ 57))
def nameB (s : ByteArray) : Bool := decide (1 ≤ s.size) && decide (s.size ≤ 20) && s.data.toList.all nameC
theorem nameB_short {s : ByteArray} (h : s.size < 1 ∨ 20 < s.size) : nameB s = false := by
  unfold nameB
  rcases h with h | h
  · rw [decide_eq_false (by omega)]; rfl
  · rw [decide_eq_false (by omega : ¬ s.size ≤ 20)]; simp
theorem nameB_at {s : ByteArray} (k : Nat) (hk : k < s.size) (h : nameC s[k] = false) : nameB s = false := by
  unfold nameB
  have : s.data.toList.all nameC = false := by
    rw [List.all_eq_false]
    refine ⟨s[k], ?_, by rw [h]; decide⟩
    exact Array.mem_toList_iff.2 (Array.getElem_mem (xs := s.data) hk)
  rw [this, Bool.and_false]
theorem nameB_all {s : ByteArray} (h1 : 1 ≤ s.size) (h2 : s.size ≤ 20) (h : ∀ k (hk : k < s.size), nameC s[k] = true) : nameB s = true := by
  unfold nameB
  rw [decide_eq_true h1, decide_eq_true h2]
  simp only [Bool.and_self, Bool.true_and]
  rw [List.all_eq_true]
  intro x hx
  obtain ⟨k, hk, rfl⟩ := List.getElem_of_mem hx
  exact h k (by simpa using hk)
/-- a text's letters -/
def lets (s : ByteArray) : List (BitVec 8) := s.data.toList.map UInt8.toBitVec
theorem lets_length (s : ByteArray) : (lets s).length = s.size := by simp [lets]




end Go.Proofs.YtbjlfhabnjpdmaaGreatDoor
namespace Go.Proofs.YtbjlfhabnjpdmaaGreatDoor
open Go.RowKit

/-- sv is a slice whose entries are rows of k cells, below block number N -/
def Recs (w : World) (N : Nat) (sv : Value) (k : Nat) (rs : List (List Value)) : Prop :=
  (sv = .slice none 0 0 ∧ rs = []) ∨ (∃ a cap, sv = .slice (some a) 0 cap ∧ rs = []) ∨
  ∃ b off cap, sv = .slice (some ⟨b, off, none⟩) rs.length cap ∧ rs.length ≤ cap ∧ ∀ i r, rs[i]? = some r → b < N ∧ ∀ j x, r[j]? = some x → w.cell? ⟨b, off + i * k + j, none⟩ = some x
theorem Recs.shape {w : World} {N k : Nat} {sv : Value} {rs : List (List Value)} (h : Recs w N sv k rs) : ∃ oa cap, sv = .slice oa rs.length cap ∧ rs.length ≤ cap := by
  rcases h with ⟨rfl, rfl⟩ | ⟨a, cap, rfl, rfl⟩ | ⟨b, off, cap, rfl, hc, _⟩
  · exact ⟨none, 0, rfl, Nat.le_refl _⟩
  · exact ⟨_, cap, rfl, Nat.zero_le _⟩
  · exact ⟨_, cap, rfl, hc⟩
theorem Recs.spot {w : World} {N k : Nat} {oa : Option Addr} {n cap : Nat} {rs : List (List Value)} (h : Recs w N (.slice oa n cap) k rs) (hl : 0 < n) :
    ∃ b off, oa = some ⟨b, off, none⟩ ∧ ∀ i r, rs[i]? = some r → b < N ∧ ∀ j x, r[j]? = some x → w.cell? ⟨b, off + i * k + j, none⟩ = some x := by
  rcases h with ⟨h1, _⟩ | ⟨_, _, h1, _⟩ | ⟨b, off, c, h1, _, h3⟩
  · simp at h1; omega
  · simp at h1; omega
  · simp at h1
    exact ⟨b, off, h1.1, h3⟩
theorem Recs.below {w w' : World} {N k : Nat} {sv : Value} {rs : List (List Value)} (h : Recs w N sv k rs) (hg : Below N w w') : Recs w' N sv k rs := by
  rcases h with h | h | ⟨b, off, cap, h1, h2, h3⟩
  · exact .inl h
  · exact .inr (.inl h)
  · refine .inr (.inr ⟨b, off, cap, h1, h2, fun i r hr => ?_⟩)
    obtain ⟨hb, hc⟩ := h3 i r hr
    exact ⟨hb, fun j x hx => (hg.cell hb).trans (hc j x hx)⟩
theorem Recs.mono {w : World} {N M k : Nat} {sv : Value} {rs : List (List Value)} (h : Recs w N sv k rs) (hN : N ≤ M) : Recs w M sv k rs := by
  rcases h with h | h | ⟨b, off, cap, h1, h2, h3⟩
  · exact .inl h
  · exact .inr (.inl h)
  · exact .inr (.inr ⟨b, off, cap, h1, h2, fun i r hr => ⟨Nat.lt_of_lt_of_le (h3 i r hr).1 hN, (h3 i r hr).2⟩⟩)
theorem flatten_get {k : Nat} : ∀ (rs : List (List Value)) (i j : Nat) (r : List Value), (∀ r ∈ rs, r.length = k) → rs[i]? = some r → j < k → rs.flatten[i * k + j]? = r[j]?
  | [], i, j, r, _, h, _ => by simp at h
  | a :: rs, i, j, r, hk, h, hj => by
    have ha := hk a List.mem_cons_self
    rw [List.flatten_cons]
    cases i with
    | zero =>
      obtain rfl : a = r := by simpa using h
      rw [Nat.zero_mul, Nat.zero_add, List.getElem?_append_left (by omega)]
    | succ i =>
      rw [List.getElem?_append_right (by rw [ha, Nat.succ_mul]; omega), ha, show (i + 1) * k + j - k = i * k + j by rw [Nat.succ_mul]; omega]
      exact flatten_get rs i j r (fun r hr => hk r (List.mem_cons_of_mem _ hr)) (by simpa using h) hj
/-- what is owned reads as records -/
theorem ownsRow_recs {w : World} {base e k : Nat} {v : Value} {rs : List (List Value)} (h : w.ownsRow base e k v rs.length rs.flatten) (hk : ∀ r ∈ rs, r.length = k) : Recs w w.heap.size v k rs := by
  obtain ⟨h1, h2⟩ := h
  rcases h2 with ⟨rfl, h0⟩ | ⟨g, cap, cur, rfl, _, hg, hn, _, hc, hx⟩
  · exact .inl ⟨rfl, List.length_eq_zero_iff.1 h0⟩
  · refine .inr (.inr ⟨g, 0, cap, rfl, hn, fun i r hr => ⟨(Array.getElem?_eq_some_iff.1 hg).1, fun j x hj => ?_⟩⟩)
    have hlt : j < k := by
      have := (List.getElem?_eq_some_iff.1 hj).1
      rw [hk r (List.mem_of_getElem? hr)] at this
      exact this
    have hil : i < rs.length := (List.getElem?_eq_some_iff.1 hr).1
    rw [cell_of_row w g _ cur _ _ hg, Nat.zero_add, ← hj, ← flatten_get rs i j r hk hr hlt, ← hx, List.getElem?_take, if_pos, Array.getElem?_toList]
    have : (i + 1) * k ≤ rs.length * k := Nat.mul_le_mul_right k hil
    rw [Nat.succ_mul] at this
    omega
/-- .. and as a source of cells -/
theorem Recs.source {w : World} {N k : Nat} {x : Value} {rs : List (List Value)} (h : Recs w N x k rs) (hk : ∀ r ∈ rs, r.length = k) (h0 : 0 < k) :
    (x = .slice none 0 0 ∧ rs = []) ∨ ∃ ad cap, x = .slice (some ad) rs.length cap ∧ ∀ j v, rs.flatten[j]? = some v → w.cell? (ad.add j) = some v := by
  rcases h with h | ⟨a, cap, rfl, rfl⟩ | ⟨b, off, cap, rfl, _, hc⟩
  · exact .inl h
  · exact .inr ⟨a, cap, rfl, fun j v hv => by simp at hv⟩
  · refine .inr ⟨_, cap, rfl, fun j v hv => ?_⟩
    have hadd : (⟨b, off, none⟩ : Addr).add j = ⟨b, off + j, none⟩ := by unfold Addr.add; split <;> simp_all
    have hlen : rs.flatten.length = rs.length * k := by
      rw [List.length_flatten]
      have : ∀ (l : List (List Value)), (∀ r ∈ l, r.length = k) → (l.map List.length).sum = l.length * k := by
        intro l
        induction l with
        | nil => simp
        | cons a l ih =>
          intro h
          rw [List.map_cons, List.sum_cons, ih (fun r hr => h r (List.mem_cons_of_mem _ hr)), h a List.mem_cons_self, List.length_cons, Nat.succ_mul]
          omega
      exact this rs hk
    have hj : j < rs.length * k := by rw [← hlen]; exact (List.getElem?_eq_some_iff.1 hv).1
    have hi : j / k < rs.length := Nat.div_lt_of_lt_mul (by rw [Nat.mul_comm]; exact hj)
    obtain ⟨r, hr⟩ : ∃ r, rs[j / k]? = some r := ⟨_, List.getElem?_eq_getElem hi⟩
    have e : j / k * k + j % k = j := Nat.div_add_mod' j k
    rw [← e, flatten_get rs (j / k) (j % k) r hk hr (Nat.mod_lt _ h0)] at hv
    have := (hc (j / k) r hr).2 _ _ hv
    rw [hadd]
    rwa [Nat.add_assoc, e] at this

end Go.Proofs.YtbjlfhabnjpdmaaGreatDoor
namespace Go.Proofs.YtbjlfhabnjpdmaaGreatDoor
open Go.RowKit

/-- texts, numbers of the plain kind, slices -/
def plainV : Value → Bool
  | .string _ => true
  | .int .i64 _ => true
  | .slice _ _ _ => true
  | _ => false
theorem only_cell {w w' : World} {g b o : Nat} {t : TypeId} {cs : List Value} {x : Value} (hr : Row w g t cs) (hp : cs.all plainV = true) (ho : ∀ k, k ≠ g → w'.heap[k]? = w.heap[k]?) (hc : w.cell? ⟨b, o, none⟩ = some x) (hx : plainV x = false) : w'.cell? ⟨b, o, none⟩ = some x := by
  have hb : b ≠ g := by
    rintro rfl
    rw [hr.cell] at hc
    have := List.all_eq_true.1 hp x (List.mem_of_getElem? hc)
    rw [hx] at this
    cases this
  rw [← hc]
  exact World.cell?_of_block (ho b hb)
theorem Bytes.only {w w' : World} {N g : Nat} {t : TypeId} {cs : List Value} {sv : Value} {l : List (BitVec 8)} (h : Bytes w N sv l) (hr : Row w g t cs) (hp : cs.all plainV = true) (ho : ∀ k, k ≠ g → w'.heap[k]? = w.heap[k]?) : Bytes w' N sv l := by
  rcases h with h | h | ⟨b, off, cap, h1, h2, h3⟩
  · exact .inl h
  · exact .inr (.inl h)
  · exact .inr (.inr ⟨b, off, cap, h1, h2, fun i hi => ⟨(h3 i hi).1, only_cell hr hp ho (h3 i hi).2 rfl⟩⟩)
theorem Recs.only {w w' : World} {N g k : Nat} {t : TypeId} {cs : List Value} {sv : Value} {rs : List (List Value)} (h : Recs w N sv k rs) (hr : Row w g t cs) (hp : cs.all plainV = true) (hq : ∀ r ∈ rs, ∀ x ∈ r, plainV x = false) (ho : ∀ k, k ≠ g → w'.heap[k]? = w.heap[k]?) : Recs w' N sv k rs := by
  rcases h with h | h | ⟨b, off, cap, h1, h2, h3⟩
  · exact .inl h
  · exact .inr (.inl h)
  · exact .inr (.inr ⟨b, off, cap, h1, h2, fun i r hi => ⟨(h3 i r hi).1, fun j x hx => only_cell hr hp ho ((h3 i r hi).2 j x hx) (hq r (List.mem_of_getElem? hi) x (List.mem_of_getElem? hx))⟩⟩)
end Go.Proofs.YtbjlfhabnjpdmaaGreatDoor
namespace Go.Proofs.YtbjlfhabnjpdmaaGreatDoor
open Go.RowKit

theorem isNameByte_any (c : UInt8) (w : World) : Calls Tryz.prog 93 #[.int .u8 (c.toNat : Int)] w fun e w' => e = .returned (.bool (nameC c)) ∧ w' = w := by
  have hc := c.toNat_lt
  unfold nameC
  by_cases h1 : 97 ≤ c.toNat
  · have e1 : decide ((97 : Int) ≤ (c.toNat : Int)) = true := by simp; omega
    by_cases h2 : c.toNat ≤ 122
    · have e2 : decide ((c.toNat : Int) ≤ 122) = true := by simp; omega
      go_enter Tryz.func93, Tryz.ntmps93
      go_wp2
      go_ret
      exact ⟨by simp [h1, h2], rfl⟩
    · have e2 : decide ((c.toNat : Int) ≤ 122) = false := by simp; omega
      have e3 : decide ((48 : Int) ≤ (c.toNat : Int)) = true := by simp; omega
      have e4 : decide ((c.toNat : Int) ≤ 57) = false := by simp; omega
      go_enter Tryz.func93, Tryz.ntmps93
      go_wp2
      go_ret
      exact ⟨by have : ¬ c.toNat ≤ 57 := by omega
                simp [h2, this], rfl⟩
  · have e1 : decide ((97 : Int) ≤ (c.toNat : Int)) = false := by simp; omega
    by_cases h3 : 48 ≤ c.toNat
    · have e3 : decide ((48 : Int) ≤ (c.toNat : Int)) = true := by simp; omega
      by_cases h4 : c.toNat ≤ 57
      · have e4 : decide ((c.toNat : Int) ≤ 57) = true := by simp; omega
        go_enter Tryz.func93, Tryz.ntmps93
        go_wp2
        go_ret
        exact ⟨by simp [h1, h3, h4], rfl⟩
      · have e4 : decide ((c.toNat : Int) ≤ 57) = false := by simp; omega
        go_enter Tryz.func93, Tryz.ntmps93
        go_wp2
        go_ret
        exact ⟨by simp [h1, h4], rfl⟩
    · have e3 : decide ((48 : Int) ≤ (c.toNat : Int)) = false := by simp; omega
      go_enter Tryz.func93, Tryz.ntmps93
      go_wp2
      go_ret
      exact ⟨by simp [h1, h3], rfl⟩
theorem isName_any (s : ByteArray) (w : World) (hs : s.size ≤ 140737488351232) : Calls Tryz.prog 27 #[.string s] w fun e w' => e = .returned (.bool (nameB s)) ∧ w' = w := by
  by_cases h1 : s.size < 1
  · have e1 : decide ((s.size : Int) < 1) = true := by simp; omega
    have HN := hid (nameB_short (.inl h1))
    go_enter Tryz.func27, Tryz.ntmps27
    go_wp2
    go_ret
    exact ⟨by rw [HN.out]; first | done | rfl, rfl⟩
  · have e1 : decide ((s.size : Int) < 1) = false := by simp; omega
    by_cases h2 : 20 < s.size
    · have e2 : decide ((20 : Int) < (s.size : Int)) = true := by simp; omega
      have HN := hid (nameB_short (.inr h2))
      go_enter Tryz.func27, Tryz.ntmps27
      go_wp2
      go_ret
      exact ⟨by rw [HN.out]; first | done | rfl, rfl⟩
    · have e2 : decide ((20 : Int) < (s.size : Int)) = false := by simp; omega
      go_enter Tryz.func27, Tryz.ntmps27
      go_wp2
      go_loop [3, 14] (fun _ i => ∃ k : Nat, k ≤ s.size ∧ i = .int .i64 (k : Int) ∧ Hid (∀ j (hj : j < s.size), j < k → nameC s[j] = true)) (fun _ i => s.size - (intOf i).toNat)
      case atStart => exact ⟨0, by omega, rfl, hid (fun j _ hj => absurd hj (by omega))⟩
      case round =>
        obtain ⟨k, hk, rfl, HR⟩ := hrel
        by_cases hlt : k < s.size
        · have hlt' : (k : Int) < (s.size : Int) := by omega
          by_cases hc : nameC s[k] = true
          · go_wp2_with (go_at_call 93; refine (isNameByte_any _ _).mono ?_; rintro e w' ⟨rfl, rfl⟩)
            go_round
            case rel => exact ⟨k + 1, by omega, by go_num, hid (fun j hj hj2 => by
              by_cases e : j = k
              · subst e; exact hc
              · exact HR.out j hj (by omega))⟩
            case measure => simp [intOf]; omega
          · have hc' : nameC s[k] = false := by simpa using hc
            have HN := hid (nameB_at k hlt hc')
            go_wp2_with (go_at_call 93; refine (isNameByte_any _ _).mono ?_; rintro e w' ⟨rfl, rfl⟩)
            go_ret
            exact ⟨by rw [HN.out]; first | done | rfl, rfl⟩
        · have hge : decide ((k : Int) < (s.size : Int)) = false := by simp; omega
          go_wp2
          go_ret
          exact ⟨by rw [nameB_all (by omega) (by omega) (fun j hj => HR.out j hj (by omega))]; first | done | rfl, rfl⟩
end Go.Proofs.YtbjlfhabnjpdmaaGreatDoor
namespace Go.Proofs.YtbjlfhabnjpdmaaGreatDoor
open Go.RowKit

theorem below_drewH (w : World) (n N : Nat) : Below N w (w.drewN n) := ⟨rfl, rfl, rfl, Nat.le_refl _, fun _ _ => rfl⟩
end Go.Proofs.YtbjlfhabnjpdmaaGreatDoor
namespace Go.Proofs.YtbjlfhabnjpdmaaGreatDoor
open Go.RowKit

end Go.Proofs.YtbjlfhabnjpdmaaGreatDoor
namespace Go.Proofs.YtbjlfhabnjpdmaaGreatDoor
open Go.RowKit

end Go.Proofs.YtbjlfhabnjpdmaaGreatDoor
namespace Go.Proofs.YtbjlfhabnjpdmaaGreatDoor
open Go.RowKit

end Go.Proofs.YtbjlfhabnjpdmaaGreatDoor
