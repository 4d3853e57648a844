/-
  Records behind a slice value, so many cells each; validators, votes, headers as values. No function of the program is named here.
  What reads as bytes, validators or votes does so still when a row of another kind is written: its block is another one. A whole row that is written cell by cell.
-/
import Derived.Test.YtfpngilmdgeikaaDoorHdMath
import Derived.Test.YtfpngilmdgeikaaDoorMemB
namespace Go.Proofs.YtfpngilmdgeikaaDoor
open Go.RowKit

/-- sv is a slice whose entries are rows of k cells, below block number N -/
def Recs (w : World) (N : Nat) (sv : Value) (k : Nat) (rs : List (List Value)) : Prop :=
  (sv = .slice none 0 0 ∧ rs = []) ∨ (∃ a cap, sv = .slice (some a) 0 cap ∧ rs = []) ∨
  ∃ b off cap, sv = .slice (some ⟨b, off, none⟩) rs.length cap ∧ rs.length ≤ cap ∧ ∀ i r, rs[i]? = some r → b < N ∧ ∀ j x, r[j]? = some x → w.cell? ⟨b, off + i * k + j, none⟩ = some x
theorem Recs.shape {w : World} {N k : Nat} {sv : Value} {rs : List (List Value)} (h : Recs w N sv k rs) : ∃ oa cap, sv = .slice oa rs.length cap ∧ rs.length ≤ cap := by
  rcases h with ⟨rfl, rfl⟩ | ⟨a, cap, rfl, rfl⟩ | ⟨b, off, cap, rfl, hc, _⟩
  · exact ⟨none, 0, rfl, Nat.le_refl _⟩
  · exact ⟨_, cap, rfl, Nat.zero_le _⟩
  · exact ⟨_, cap, rfl, hc⟩
theorem Recs.spot {w : World} {N k : Nat} {oa : Option Addr} {n cap : Nat} {rs : List (List Value)} (h : Recs w N (.slice oa n cap) k rs) (hl : 0 < n) :
    ∃ b off, oa = some ⟨b, off, none⟩ ∧ ∀ i r, rs[i]? = some r → b < N ∧ ∀ j x, r[j]? = some x → w.cell? ⟨b, off + i * k + j, none⟩ = some x := by
  rcases h with ⟨h1, _⟩ | ⟨_, _, h1, _⟩ | ⟨b, off, c, h1, _, h3⟩
  · simp at h1; omega
  · simp at h1; omega
  · simp at h1
    exact ⟨b, off, h1.1, h3⟩
theorem Recs.below {w w' : World} {N k : Nat} {sv : Value} {rs : List (List Value)} (h : Recs w N sv k rs) (hg : Below N w w') : Recs w' N sv k rs := by
  rcases h with h | h | ⟨b, off, cap, h1, h2, h3⟩
  · exact .inl h
  · exact .inr (.inl h)
  · refine .inr (.inr ⟨b, off, cap, h1, h2, fun i r hr => ?_⟩)
    obtain ⟨hb, hc⟩ := h3 i r hr
    exact ⟨hb, fun j x hx => (hg.cell hb).trans (hc j x hx)⟩
theorem Recs.mono {w : World} {N M k : Nat} {sv : Value} {rs : List (List Value)} (h : Recs w N sv k rs) (hN : N ≤ M) : Recs w M sv k rs := by
  rcases h with h | h | ⟨b, off, cap, h1, h2, h3⟩
  · exact .inl h
  · exact .inr (.inl h)
  · exact .inr (.inr ⟨b, off, cap, h1, h2, fun i r hr => ⟨Nat.lt_of_lt_of_le (h3 i r hr).1 hN, (h3 i r hr).2⟩⟩)
theorem flatten_get {k : Nat} : ∀ (rs : List (List Value)) (i j : Nat) (r : List Value), (∀ r ∈ rs, r.length = k) → rs[i]? = some r → j < k → rs.flatten[i * k + j]? = r[j]?
  | [], i, j, r, _, h, _ => by simp at h
  | a :: rs, i, j, r, hk, h, hj => by
    have ha := hk a List.mem_cons_self
    rw [List.flatten_cons]
    cases i with
    | zero =>
      obtain rfl : a = r := by simpa using h
      rw [Nat.zero_mul, Nat.zero_add, List.getElem?_append_left (by omega)]
    | succ i =>
      rw [List.getElem?_append_right (by rw [ha, Nat.succ_mul]; omega), ha, show (i + 1) * k + j - k = i * k + j by rw [Nat.succ_mul]; omega]
      exact flatten_get rs i j r (fun r hr => hk r (List.mem_cons_of_mem _ hr)) (by simpa using h) hj
/-- what is owned reads as records -/
theorem ownsRow_recs {w : World} {base e k : Nat} {v : Value} {rs : List (List Value)} (h : w.ownsRow base e k v rs.length rs.flatten) (hk : ∀ r ∈ rs, r.length = k) : Recs w w.heap.size v k rs := by
  obtain ⟨h1, h2⟩ := h
  rcases h2 with ⟨rfl, h0⟩ | ⟨g, cap, cur, rfl, _, hg, hn, _, hc, hx⟩
  · exact .inl ⟨rfl, List.length_eq_zero_iff.1 h0⟩
  · refine .inr (.inr ⟨g, 0, cap, rfl, hn, fun i r hr => ⟨(Array.getElem?_eq_some_iff.1 hg).1, fun j x hj => ?_⟩⟩)
    have hlt : j < k := by
      have := (List.getElem?_eq_some_iff.1 hj).1
      rw [hk r (List.mem_of_getElem? hr)] at this
      exact this
    have hil : i < rs.length := (List.getElem?_eq_some_iff.1 hr).1
    rw [cell_of_row w g _ cur _ _ hg, Nat.zero_add, ← hj, ← flatten_get rs i j r hk hr hlt, ← hx, List.getElem?_take, if_pos, Array.getElem?_toList]
    have : (i + 1) * k ≤ rs.length * k := Nat.mul_le_mul_right k hil
    rw [Nat.succ_mul] at this
    omega
/-- .. and as a source of cells -/
theorem Recs.source {w : World} {N k : Nat} {x : Value} {rs : List (List Value)} (h : Recs w N x k rs) (hk : ∀ r ∈ rs, r.length = k) (h0 : 0 < k) :
    (x = .slice none 0 0 ∧ rs = []) ∨ ∃ ad cap, x = .slice (some ad) rs.length cap ∧ ∀ j v, rs.flatten[j]? = some v → w.cell? (ad.add j) = some v := by
  rcases h with h | ⟨a, cap, rfl, rfl⟩ | ⟨b, off, cap, rfl, _, hc⟩
  · exact .inl h
  · exact .inr ⟨a, cap, rfl, fun j v hv => by simp at hv⟩
  · refine .inr ⟨_, cap, rfl, fun j v hv => ?_⟩
    have hadd : (⟨b, off, none⟩ : Addr).add j = ⟨b, off + j, none⟩ := by unfold Addr.add; split <;> simp_all
    have hlen : rs.flatten.length = rs.length * k := by
      rw [List.length_flatten]
      have : ∀ (l : List (List Value)), (∀ r ∈ l, r.length = k) → (l.map List.length).sum = l.length * k := by
        intro l
        induction l with
        | nil => simp
        | cons a l ih =>
          intro h
          rw [List.map_cons, List.sum_cons, ih (fun r hr => h r (List.mem_cons_of_mem _ hr)), h a List.mem_cons_self, List.length_cons, Nat.succ_mul]
          omega
      exact this rs hk
    have hj : j < rs.length * k := by rw [← hlen]; exact (List.getElem?_eq_some_iff.1 hv).1
    have hi : j / k < rs.length := Nat.div_lt_of_lt_mul (by rw [Nat.mul_comm]; exact hj)
    obtain ⟨r, hr⟩ : ∃ r, rs[j / k]? = some r := ⟨_, List.getElem?_eq_getElem hi⟩
    have e : j / k * k + j % k = j := Nat.div_add_mod' j k
    rw [← e, flatten_get rs (j / k) (j % k) r hk hr (Nat.mod_lt _ h0)] at hv
    have := (hc (j / k) r hr).2 _ _ hv
    rw [hadd]
    rwa [Nat.add_assoc, e] at this

def vlRow (v : Vl) : List Value := [.int .u64 (v.key : Int), .int .u64 (v.power : Int)]
def vtRow (v : Vt) : List Value := [.bool v.is, .int .u64 (v.r : Int), .int .u64 (v.s : Int)]
/-- a slice that reads as validators -/
def Vals (w : World) (N : Nat) (sv : Value) (l : List Vl) : Prop := Recs w N sv 2 (l.map vlRow)
/-- a slice that reads as votes -/
def Votes (w : World) (N : Nat) (sv : Value) (l : List Vt) : Prop := Recs w N sv 3 (l.map vtRow)
theorem Vals.below {w w' : World} {N : Nat} {sv : Value} {l : List Vl} (h : Vals w N sv l) (hg : Below N w w') : Vals w' N sv l := Recs.below h hg
theorem Votes.below {w w' : World} {N : Nat} {sv : Value} {l : List Vt} (h : Votes w N sv l) (hg : Below N w w') : Votes w' N sv l := Recs.below h hg
theorem Vals.mono {w : World} {N M : Nat} {sv : Value} {l : List Vl} (h : Vals w N sv l) (hg : N ≤ M) : Vals w M sv l := Recs.mono h hg
theorem Votes.mono {w : World} {N M : Nat} {sv : Value} {l : List Vt} (h : Votes w N sv l) (hg : N ≤ M) : Votes w M sv l := Recs.mono h hg
theorem Vals.shape {w : World} {N : Nat} {sv : Value} {l : List Vl} (h : Vals w N sv l) : ∃ oa cap, sv = .slice oa l.length cap ∧ l.length ≤ cap := by
  obtain ⟨oa, cap, h1, h2⟩ := Recs.shape h
  rw [List.length_map] at h1 h2
  exact ⟨oa, cap, h1, h2⟩
theorem Votes.shape {w : World} {N : Nat} {sv : Value} {l : List Vt} (h : Votes w N sv l) : ∃ oa cap, sv = .slice oa l.length cap ∧ l.length ≤ cap := by
  obtain ⟨oa, cap, h1, h2⟩ := Recs.shape h
  rw [List.length_map] at h1 h2
  exact ⟨oa, cap, h1, h2⟩
theorem Vals.spot {w : World} {N : Nat} {oa : Option Addr} {n cap : Nat} {l : List Vl} (h : Vals w N (.slice oa n cap) l) (hl : 0 < n) :
    ∃ b off, oa = some ⟨b, off, none⟩ ∧ ∀ i v, l[i]? = some v → b < N ∧ w.cell? ⟨b, off + i * 2, none⟩ = some (.int .u64 (v.key : Int)) ∧ w.cell? ⟨b, off + i * 2 + 1, none⟩ = some (.int .u64 (v.power : Int)) := by
  obtain ⟨b, off, h1, h2⟩ := Recs.spot h hl
  refine ⟨b, off, h1, fun i v hv => ?_⟩
  obtain ⟨h3, h4⟩ := h2 i (vlRow v) (by simp [hv])
  exact ⟨h3, h4 0 _ rfl, h4 1 _ rfl⟩
theorem Votes.spot {w : World} {N : Nat} {oa : Option Addr} {n cap : Nat} {l : List Vt} (h : Votes w N (.slice oa n cap) l) (hl : 0 < n) :
    ∃ b off, oa = some ⟨b, off, none⟩ ∧ ∀ i v, l[i]? = some v → b < N ∧ w.cell? ⟨b, off + i * 3, none⟩ = some (.bool v.is) ∧ w.cell? ⟨b, off + i * 3 + 1, none⟩ = some (.int .u64 (v.r : Int)) ∧ w.cell? ⟨b, off + i * 3 + 2, none⟩ = some (.int .u64 (v.s : Int)) := by
  obtain ⟨b, off, h1, h2⟩ := Recs.spot h hl
  refine ⟨b, off, h1, fun i v hv => ?_⟩
  obtain ⟨h3, h4⟩ := h2 i (vtRow v) (by simp [hv])
  exact ⟨h3, h4 0 _ rfl, h4 1 _ rfl, h4 2 _ rfl⟩
theorem vlRow_len {l : List Vl} : ∀ r ∈ l.map vlRow, r.length = 2 := fun r hr => by obtain ⟨_, _, rfl⟩ := List.mem_map.1 hr; rfl
theorem vtRow_len {l : List Vt} : ∀ r ∈ l.map vtRow, r.length = 3 := fun r hr => by obtain ⟨_, _, rfl⟩ := List.mem_map.1 hr; rfl
/-- v reads as the header h, in blocks below N -/
def HdV (w : World) (N : Nat) (v : Value) (h : Hd) : Prop := ∃ rv vv nv, v = .agg #[.string h.chain, .int .i64 h.height, .int .i64 h.time, rv, vv, nv] ∧ Bytes w N rv h.root ∧ Bytes w N vv h.vals ∧ Bytes w N nv h.next
theorem HdV.below {w w' : World} {N : Nat} {v : Value} {h : Hd} (k : HdV w N v h) (hg : Below N w w') : HdV w' N v h := by
  obtain ⟨rv, vv, nv, rfl, h1, h2, h3⟩ := k
  exact ⟨rv, vv, nv, rfl, h1.below hg, h2.below hg, h3.below hg⟩
theorem HdV.mono {w : World} {N M : Nat} {v : Value} {h : Hd} (k : HdV w N v h) (hg : N ≤ M) : HdV w M v h := by
  obtain ⟨rv, vv, nv, rfl, h1, h2, h3⟩ := k
  exact ⟨rv, vv, nv, rfl, h1.mono hg, h2.mono hg, h3.mono hg⟩
/-- v reads as a signed header -/
def SgV (w : World) (N : Nat) (v : Value) (s : Sg) : Prop := ∃ rv vv nv lv tv, v = .agg #[.string s.hd.chain, .int .i64 s.hd.height, .int .i64 s.hd.time, rv, vv, nv, lv, tv] ∧ Bytes w N rv s.hd.root ∧ Bytes w N vv s.hd.vals ∧ Bytes w N nv s.hd.next ∧ Vals w N lv s.vals ∧ Votes w N tv s.votes
theorem SgV.below {w w' : World} {N : Nat} {v : Value} {s : Sg} (k : SgV w N v s) (hg : Below N w w') : SgV w' N v s := by
  obtain ⟨rv, vv, nv, lv, tv, rfl, h1, h2, h3, h4, h5⟩ := k
  exact ⟨rv, vv, nv, lv, tv, rfl, h1.below hg, h2.below hg, h3.below hg, h4.below hg, h5.below hg⟩
theorem SgV.mono {w : World} {N M : Nat} {v : Value} {s : Sg} (k : SgV w N v s) (hg : N ≤ M) : SgV w M v s := by
  obtain ⟨rv, vv, nv, lv, tv, rfl, h1, h2, h3, h4, h5⟩ := k
  exact ⟨rv, vv, nv, lv, tv, rfl, h1.mono hg, h2.mono hg, h3.mono hg, h4.mono hg, h5.mono hg⟩
theorem Lists.up {w : World} {N M : Nat} {sv : Value} {ls : List (List (BitVec 8))} (h : Lists w N sv ls) (hN : N ≤ M) : Lists w M sv ls := by
  rcases h with h | h | ⟨b, off, cap, h1, h2, h3⟩
  · exact .inl h
  · exact .inr (.inl h)
  · refine .inr (.inr ⟨b, off, cap, h1, h2, fun i hi => ?_⟩)
    obtain ⟨hb, x, hx, hbx⟩ := h3 i hi
    exact ⟨Nat.lt_of_lt_of_le hb hN, x, hx, hbx.mono hN⟩
/-- six cells of a header in a box; eight of a signed one -/
theorem Row.six {w : World} {g : Nat} {t : TypeId} {a b c d e f : Value} (h : Row w g t [a, b, c, d, e, f]) :
    w.cell? ⟨g, 0, none⟩ = some a ∧ w.cell? ⟨g, 1, none⟩ = some b ∧ w.cell? ⟨g, 2, none⟩ = some c ∧ w.cell? ⟨g, 3, none⟩ = some d ∧ w.cell? ⟨g, 4, none⟩ = some e ∧ w.cell? ⟨g, 5, none⟩ = some f :=
  ⟨h.cell 0, h.cell 1, h.cell 2, h.cell 3, h.cell 4, h.cell 5⟩
theorem Row.eight {w : World} {g : Nat} {t : TypeId} {a b c d e f x y : Value} (h : Row w g t [a, b, c, d, e, f, x, y]) :
    w.cell? ⟨g, 0, none⟩ = some a ∧ w.cell? ⟨g, 1, none⟩ = some b ∧ w.cell? ⟨g, 2, none⟩ = some c ∧ w.cell? ⟨g, 3, none⟩ = some d ∧ w.cell? ⟨g, 4, none⟩ = some e ∧ w.cell? ⟨g, 5, none⟩ = some f ∧ w.cell? ⟨g, 6, none⟩ = some x ∧ w.cell? ⟨g, 7, none⟩ = some y :=
  ⟨h.cell 0, h.cell 1, h.cell 2, h.cell 3, h.cell 4, h.cell 5, h.cell 6, h.cell 7⟩
end Go.Proofs.YtfpngilmdgeikaaDoor
namespace Go.Proofs.YtfpngilmdgeikaaDoor
open Go.RowKit

/-- texts, numbers of the plain kind, slices -/
def plainV : Value → Bool
  | .string _ => true
  | .int .i64 _ => true
  | .slice _ _ _ => true
  | _ => false
theorem only_cell {w w' : World} {g b o : Nat} {t : TypeId} {cs : List Value} {x : Value} (hr : Row w g t cs) (hp : cs.all plainV = true) (ho : ∀ k, k ≠ g → w'.heap[k]? = w.heap[k]?) (hc : w.cell? ⟨b, o, none⟩ = some x) (hx : plainV x = false) : w'.cell? ⟨b, o, none⟩ = some x := by
  have hb : b ≠ g := by
    rintro rfl
    rw [hr.cell] at hc
    have := List.all_eq_true.1 hp x (List.mem_of_getElem? hc)
    rw [hx] at this
    cases this
  rw [← hc]
  exact World.cell?_of_block (ho b hb)
theorem Bytes.only {w w' : World} {N g : Nat} {t : TypeId} {cs : List Value} {sv : Value} {l : List (BitVec 8)} (h : Bytes w N sv l) (hr : Row w g t cs) (hp : cs.all plainV = true) (ho : ∀ k, k ≠ g → w'.heap[k]? = w.heap[k]?) : Bytes w' N sv l := by
  rcases h with h | h | ⟨b, off, cap, h1, h2, h3⟩
  · exact .inl h
  · exact .inr (.inl h)
  · exact .inr (.inr ⟨b, off, cap, h1, h2, fun i hi => ⟨(h3 i hi).1, only_cell hr hp ho (h3 i hi).2 rfl⟩⟩)
theorem Recs.only {w w' : World} {N g k : Nat} {t : TypeId} {cs : List Value} {sv : Value} {rs : List (List Value)} (h : Recs w N sv k rs) (hr : Row w g t cs) (hp : cs.all plainV = true) (hq : ∀ r ∈ rs, ∀ x ∈ r, plainV x = false) (ho : ∀ k, k ≠ g → w'.heap[k]? = w.heap[k]?) : Recs w' N sv k rs := by
  rcases h with h | h | ⟨b, off, cap, h1, h2, h3⟩
  · exact .inl h
  · exact .inr (.inl h)
  · exact .inr (.inr ⟨b, off, cap, h1, h2, fun i r hi => ⟨(h3 i r hi).1, fun j x hx => only_cell hr hp ho ((h3 i r hi).2 j x hx) (hq r (List.mem_of_getElem? hi) x (List.mem_of_getElem? hx))⟩⟩)
theorem Vals.only {w w' : World} {N g : Nat} {t : TypeId} {cs : List Value} {sv : Value} {l : List Vl} (h : Vals w N sv l) (hr : Row w g t cs) (hp : cs.all plainV = true) (ho : ∀ k, k ≠ g → w'.heap[k]? = w.heap[k]?) : Vals w' N sv l :=
  Recs.only h hr hp (fun r hr x hx => by
    obtain ⟨v, _, rfl⟩ := List.mem_map.1 hr
    simp [vlRow] at hx
    rcases hx with rfl | rfl <;> rfl) ho
theorem Votes.only {w w' : World} {N g : Nat} {t : TypeId} {cs : List Value} {sv : Value} {l : List Vt} (h : Votes w N sv l) (hr : Row w g t cs) (hp : cs.all plainV = true) (ho : ∀ k, k ≠ g → w'.heap[k]? = w.heap[k]?) : Votes w' N sv l :=
  Recs.only h hr hp (fun r hr x hx => by
    obtain ⟨v, _, rfl⟩ := List.mem_map.1 hr
    simp [vtRow] at hx
    rcases hx with rfl | rfl | rfl <;> rfl) ho
/-- eight cells of a row, written one by one -/
def set8 (w : World) (g : Nat) (a b c d e f x y : Value) : World := (((((((w.setCell ⟨g, 0, none⟩ a).setCell ⟨g, 1, none⟩ b).setCell ⟨g, 2, none⟩ c).setCell ⟨g, 3, none⟩ d).setCell ⟨g, 4, none⟩ e).setCell ⟨g, 5, none⟩ f).setCell ⟨g, 6, none⟩ x).setCell ⟨g, 7, none⟩ y
theorem set8_row {w : World} {g : Nat} {t : TypeId} {a0 b0 c0 d0 e0 f0 x0 y0 : Value} (h : Row w g t [a0, b0, c0, d0, e0, f0, x0, y0]) (a b c d e f x y : Value) : Row (set8 w g a b c d e f x y) g t [a, b, c, d, e, f, x, y] :=
  (((((((h.set 0 a).set 1 b).set 2 c).set 3 d).set 4 e).set 5 f).set 6 x).set 7 y
theorem set8_other (w : World) (g : Nat) (a b c d e f x y : Value) : ∀ k, k ≠ g → (set8 w g a b c d e f x y).heap[k]? = w.heap[k]? := fun k hk => by
  unfold set8
  rw [heap_setCell_other _ _ _ _ hk, heap_setCell_other _ _ _ _ hk, heap_setCell_other _ _ _ _ hk, heap_setCell_other _ _ _ _ hk, heap_setCell_other _ _ _ _ hk, heap_setCell_other _ _ _ _ hk, heap_setCell_other _ _ _ _ hk, heap_setCell_other _ _ _ _ hk]
theorem set8_below {B : Nat} {w0 w : World} (h : Below B w0 w) {g : Nat} (hg : B ≤ g) (a b c d e f x y : Value) : Below B w0 (set8 w g a b c d e f x y) :=
  (((((((h.setCell hg _).setCell hg _).setCell hg _).setCell hg _).setCell hg _).setCell hg _).setCell hg _).setCell hg _
theorem set8_size (w : World) (g : Nat) (a b c d e f x y : Value) : (set8 w g a b c d e f x y).heap.size = w.heap.size := by
  simp [set8, World.setCell]
theorem SgV.only {w w' : World} {N g : Nat} {t : TypeId} {cs : List Value} {v : Value} {s : Sg} (h : SgV w N v s) (hr : Row w g t cs) (hp : cs.all plainV = true) (ho : ∀ k, k ≠ g → w'.heap[k]? = w.heap[k]?) : SgV w' N v s := by
  obtain ⟨rv, vv, nv, lv, tv, rfl, h1, h2, h3, h4, h5⟩ := h
  exact ⟨rv, vv, nv, lv, tv, rfl, h1.only hr hp ho, h2.only hr hp ho, h3.only hr hp ho, h4.only hr hp ho, h5.only hr hp ho⟩
end Go.Proofs.YtfpngilmdgeikaaDoor
