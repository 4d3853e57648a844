/-
  Plain mathematics of what a proof's digests are of: layers from the root down to the pair. Where two proofs of one root part first, two lists of bytes have one digest. No program is named here.
-/
import Derived.Test.YtjfhhlgblmjonaaDoorProofMem
namespace Go.Proofs.YtjfhhlgblmjonaaDoor

/-- what the digest of a pair, of two trees, of a book is of -/
def leafX (k v : List (BitVec 8)) : List (BitVec 8) := 0 :: (fourB k.length ++ (k ++ v))
def nodeX (a b : List (BitVec 8)) : List (BitVec 8) := 1 :: (a ++ b)
def topX (n : Nat) (t : List (BitVec 8)) : List (BitVec 8) := 2 :: (fourB n ++ t)
/-- layers from the top of the tree down to the pair -/
def layD : List Tn → List (List (BitVec 8)) → List (BitVec 8) → List (List (BitVec 8))
  | t :: ts, d :: ds, lf => (if t.right = true then nodeX d (upD ts ds (sha lf)) else nodeX (upD ts ds (sha lf)) d) :: layD ts ds lf
  | _, _, lf => [lf]
theorem layD_nil (ds : List (List (BitVec 8))) (lf : List (BitVec 8)) : layD [] ds lf = [lf] := by rw [layD]; simp
theorem layD_head (ts : List Tn) (ds : List (List (BitVec 8))) (lf : List (BitVec 8)) : ∃ x r, layD ts ds lf = x :: r ∧ sha x = upD ts ds (sha lf) := by
  match ts, ds with
  | [], ds => exact ⟨lf, [], layD_nil ds lf, by rw [upD]; simp⟩
  | t :: ts, [] => exact ⟨lf, [], by rw [layD]; simp, by rw [upD]; simp⟩
  | t :: ts, d :: ds =>
    refine ⟨_, _, by rw [layD], ?_⟩
    rw [upD]
    split <;> rfl
theorem layD_length : ∀ (ts : List Tn) (ds : List (List (BitVec 8))) (lf : List (BitVec 8)), ds.length = ts.length → (layD ts ds lf).length = ts.length + 1
  | [], ds, lf, _ => by rw [layD_nil]; rfl
  | t :: ts, [], lf, h => by simp at h
  | t :: ts, d :: ds, lf, h => by
    rw [layD, List.length_cons, layD_length ts ds lf (by simpa using h)]
    rfl
theorem layD_last : ∀ (ts : List Tn) (ds : List (List (BitVec 8))) (lf : List (BitVec 8)), ds.length = ts.length → (layD ts ds lf)[ts.length]? = some lf
  | [], ds, lf, _ => by rw [layD_nil]; rfl
  | t :: ts, [], lf, h => by simp at h
  | t :: ts, d :: ds, lf, h => by
    rw [layD, List.length_cons, List.getElem?_cons_succ]
    exact layD_last ts ds lf (by simpa using h)
theorem nodeX_inj {a b c d : List (BitVec 8)} (h : nodeX a b = nodeX c d) (hl : a.length = c.length) : a = c ∧ b = d := by
  unfold nodeX at h
  exact List.append_inj (List.cons.inj h).2 hl
theorem topX_inj {n : Nat} {a c : List (BitVec 8)} (h : topX n a = topX n c) : a = c := by
  unfold topX at h
  exact (List.append_inj (List.cons.inj h).2 rfl).2
/-- where two ways up part first, two lists of bytes have one digest -/
theorem layD_clash : ∀ (ts : List Tn) (d1 d2 : List (List (BitVec 8))) (l1 l2 : List (BitVec 8)), d1.length = ts.length → d2.length = ts.length → (∀ d ∈ d1, d.length = 32) → (∀ d ∈ d2, d.length = 32) → upD ts d1 (sha l1) = upD ts d2 (sha l2) →
    ∀ (i : Nat) (a b : List (BitVec 8)), (∀ j, j < i → (layD ts d1 l1)[j]? = (layD ts d2 l2)[j]?) → (layD ts d1 l1)[i]? = some a → (layD ts d2 l2)[i]? = some b → sha a = sha b
  | ts, d1, d2, l1, l2, h1, h2, k1, k2, hu, 0, a, b, _, ha, hb => by
    obtain ⟨x, r, hx, hsx⟩ := layD_head ts d1 l1
    obtain ⟨y, s, hy, hsy⟩ := layD_head ts d2 l2
    rw [hx] at ha
    rw [hy] at hb
    obtain rfl : x = a := by simpa using ha
    obtain rfl : y = b := by simpa using hb
    rw [hsx, hsy, hu]
  | [], d1, d2, l1, l2, h1, h2, k1, k2, hu, i + 1, a, b, _, ha, hb => by
    rw [layD_nil] at ha
    simp at ha
  | t :: ts, [], d2, l1, l2, h1, _, _, _, _, i + 1, a, b, _, _, _ => by simp at h1
  | t :: ts, x :: d1, [], l1, l2, _, h2, _, _, _, i + 1, a, b, _, _, _ => by simp at h2
  | t :: ts, x :: d1, y :: d2, l1, l2, h1, h2, k1, k2, hu, i + 1, a, b, hj, ha, hb => by
    have h0 := hj 0 (by omega)
    rw [layD, layD] at h0
    have h0' := Option.some.inj h0
    have hx : x.length = 32 := k1 x (by simp)
    have hy : y.length = 32 := k2 y (by simp)
    have ux := upD_len ts d1 (sha l1) (sha_length _)
    have uy := upD_len ts d2 (sha l2) (sha_length _)
    have hup : upD ts d1 (sha l1) = upD ts d2 (sha l2) := by
      split at h0'
      · exact (nodeX_inj h0' (by omega)).2
      · exact (nodeX_inj h0' (by omega)).1
    refine layD_clash ts d1 d2 l1 l2 (by simpa using h1) (by simpa using h2) (fun d hd => k1 d (by simp [hd])) (fun d hd => k2 d (by simp [hd])) hup i a b (fun j hji => ?_) ?_ ?_
    · have := hj (j + 1) (by omega)
      rw [layD, layD] at this
      simpa using this
    · rw [layD] at ha
      simpa using ha
    · rw [layD] at hb
      simpa using hb
/-- the lowest k + 1 layers, the pair first -/
def layK (ws : List Tn) (path : List (List (BitVec 8))) (k : Nat) (lf : List (BitVec 8)) : List (List (BitVec 8)) := (layD (ws.drop (ws.length - k)) (path.take k).reverse lf).reverse
theorem layK_zero (ws : List Tn) (path : List (List (BitVec 8))) (lf : List (BitVec 8)) : layK ws path 0 lf = [lf] := by
  unfold layK
  rw [Nat.sub_zero, List.drop_length, layD_nil]
  rfl
theorem layK_succ (ws : List Tn) (path : List (List (BitVec 8))) (k : Nat) (lf : List (BitVec 8)) (t : Tn) (d : List (BitVec 8)) (ht : ws[ws.length - 1 - k]? = some t) (hk : k < ws.length) (hd : path[k]? = some d) :
    layK ws path (k + 1) lf = layK ws path k lf ++ [if t.right = true then nodeX d (upK ws path k (sha lf)) else nodeX (upK ws path k (sha lf)) d] := by
  obtain ⟨h1, rfl⟩ := List.getElem?_eq_some_iff.1 ht
  obtain ⟨h2, rfl⟩ := List.getElem?_eq_some_iff.1 hd
  unfold layK upK
  rw [show ws.length - (k + 1) = ws.length - 1 - k by omega, List.drop_eq_getElem_cons h1, show ws.length - 1 - k + 1 = ws.length - k by omega, List.take_succ_eq_append_getElem h2, List.reverse_append, List.reverse_singleton, List.singleton_append, layD, List.reverse_cons]
theorem layK_all (ws : List Tn) (path : List (List (BitVec 8))) (lf : List (BitVec 8)) (h : path.length = ws.length) : layK ws path ws.length lf = (layD ws path.reverse lf).reverse := by
  unfold layK
  rw [Nat.sub_self, List.drop_zero, List.take_of_length_le (by omega)]
/-- the turns to a proof's place -/
def wayP (p : Prf) : List Tn := wayL p.index.toNat p.size.toNat 0
/-- all layers of a proof, the root's first -/
def layP (p : Prf) : List (List (BitVec 8)) := topX p.size.toNat (upD (wayP p) p.path.reverse (leafD p.key p.val)) :: layD (wayP p) p.path.reverse (leafX p.key p.val)
theorem layP_length (p : Prf) (h : p.path.length = (wayP p).length) : (layP p).length = p.path.length + 2 := by
  unfold layP
  rw [List.length_cons, layD_length _ _ _ (by rw [List.length_reverse]; exact h), h]
theorem layP_last (p : Prf) (h : p.path.length = (wayP p).length) : (layP p)[(wayP p).length + 1]? = some (leafX p.key p.val) := by
  unfold layP
  rw [List.getElem?_cons_succ]
  exact layD_last _ _ _ (by rw [List.length_reverse]; exact h)
theorem layP_clash {r : List (BitVec 8)} {p q : Prf} (hp : shownB r p) (hq : shownB r q) (hi : p.index = q.index) (hs : p.size = q.size) (i : Nat) (a b : List (BitVec 8)) (hj : ∀ j, j < i → (layP p)[j]? = (layP q)[j]?) (ha : (layP p)[i]? = some a) (hb : (layP q)[i]? = some b) : sha a = sha b := by
  obtain ⟨_, _, _, _, _, _, p7, p8, p9⟩ := hp
  obtain ⟨_, _, _, _, _, _, q7, q8, q9⟩ := hq
  have hw : wayP q = wayP p := by unfold wayP; rw [hi, hs]
  cases i with
  | zero =>
    have e1 : topX p.size.toNat (upD (wayP p) p.path.reverse (leafD p.key p.val)) = a := by simpa [layP] using ha
    have e2 : topX q.size.toNat (upD (wayP q) q.path.reverse (leafD q.key q.val)) = b := by simpa [layP] using hb
    rw [← e1, ← e2]
    exact p9.trans q9.symm
  | succ i =>
    have h0 := hj 0 (by omega)
    unfold layP at h0 ha hb
    rw [List.getElem?_cons_zero, List.getElem?_cons_zero, hw, ← hs] at h0
    rw [List.getElem?_cons_succ] at ha hb
    rw [hw] at hb
    refine layD_clash (wayP p) p.path.reverse q.path.reverse (leafX p.key p.val) (leafX q.key q.val) (by rw [List.length_reverse]; exact p7) (by rw [List.length_reverse, ← hw]; exact q7) (fun d hd => p8 d (by simpa using hd)) (fun d hd => q8 d (by simpa using hd)) (topX_inj (Option.some.inj h0)) i a b (fun j hji => ?_) ha hb
    have := hj (j + 1) (by omega)
    unfold layP at this
    rw [List.getElem?_cons_succ, List.getElem?_cons_succ, hw] at this
    exact this
theorem fourB_small {n m : Nat} (hn : n ≤ 200) (hm : m ≤ 200) (h : fourB n = fourB m) : n = m := by
  unfold fourB at h
  have h4 : BitVec.ofNat 8 (n % 256) = BitVec.ofNat 8 (m % 256) := by
    simp only [List.cons.injEq] at h
    exact h.2.2.2.1
  have := congrArg BitVec.toNat h4
  rw [BitVec.toNat_ofNat, BitVec.toNat_ofNat] at this
  omega
theorem leafX_inj {k v k' v' : List (BitVec 8)} (hk : k.length ≤ 60) (hk' : k'.length ≤ 60) (h : leafX k v = leafX k' v') : k = k' ∧ v = v' := by
  unfold leafX at h
  obtain ⟨h1, h2⟩ := List.append_inj (List.cons.inj h).2 rfl
  have := fourB_small (by omega) (by omega) h1
  exact List.append_inj h2 this
theorem topX_unlike {n m : Nat} {a b : List (BitVec 8)} (hn : n ≤ 200) (hm : m ≤ 200) (hne : n ≠ m) : topX n a ≠ topX m b := fun h => by
  unfold topX at h
  obtain ⟨h1, _⟩ := List.append_inj (List.cons.inj h).2 rfl
  exact hne (fourB_small hn hm h1)
/-- two proofs of one place with the same layers say the same -/
theorem layP_same {r : List (BitVec 8)} {p q : Prf} (hp : shownB r p) (hq : shownB r q) (hi : p.index = q.index) (hs : p.size = q.size) (h : ∀ j, j < (layP p).length → (layP p)[j]? = (layP q)[j]?) : p.key = q.key ∧ p.val = q.val := by
  obtain ⟨_, _, _, _, p5, _, p7, p8, p9⟩ := hp
  obtain ⟨_, _, _, _, q5, _, q7, q8, q9⟩ := hq
  have hw : wayP q = wayP p := by unfold wayP; rw [hi, hs]
  have h1 := h ((wayP p).length + 1) (by rw [layP_length p p7]; rw [show p.path.length = (wayP p).length from p7]; omega)
  rw [layP_last p p7] at h1
  have h2 := layP_last q q7
  rw [hw] at h2
  rw [h2] at h1
  exact leafX_inj (by omega) (by omega) (Option.some.inj h1)
theorem layD_small : ∀ (ts : List Tn) (ds : List (List (BitVec 8))) (lf : List (BitVec 8)), (∀ d ∈ ds, d.length = 32) → lf.length ≤ 1000 → ∀ a ∈ layD ts ds lf, a.length ≤ 1000
  | [], ds, lf, _, hl, a, ha => by rw [layD_nil] at ha; obtain rfl : a = lf := by simpa using ha
                                   exact hl
  | t :: ts, [], lf, _, hl, a, ha => by
    rw [layD] at ha
    · obtain rfl : a = lf := by simpa using ha
      exact hl
    · simp
  | t :: ts, d :: ds, lf, h, hl, a, ha => by
    rw [layD] at ha
    have hd : d.length = 32 := h d (by simp)
    have hu := upD_len ts ds (sha lf) (sha_length _)
    rcases List.mem_cons.1 ha with rfl | ha
    · split <;> (unfold nodeX; rw [List.length_cons, List.length_append]; omega)
    · exact layD_small ts ds lf (fun d hd => h d (by simp [hd])) hl a ha
theorem topX_len (n : Nat) (t : List (BitVec 8)) : (topX n t).length = 5 + t.length := by unfold topX; simp [fourB]; omega
theorem leafX_len (k v : List (BitVec 8)) : (leafX k v).length = 5 + (k.length + v.length) := by unfold leafX; simp [fourB]; omega
theorem nodeX_len (k v : List (BitVec 8)) : (nodeX k v).length = 1 + (k.length + v.length) := by unfold nodeX; simp; omega
theorem layP_small {r : List (BitVec 8)} {p : Prf} (hp : shownB r p) : ∀ a ∈ layP p, a.length ≤ 1000 := by
  obtain ⟨_, _, _, _, p5, p6, p7, p8, p9⟩ := hp
  intro a ha
  unfold layP at ha
  rcases List.mem_cons.1 ha with rfl | ha
  · rw [topX_len]
    have := upD_len (wayP p) p.path.reverse (leafD p.key p.val) (by unfold leafD; exact sha_length _)
    omega
  · exact layD_small _ _ _ (fun d hd => p8 d (by simpa using hd)) (by rw [leafX_len]; omega) a ha
end Go.Proofs.YtjfhhlgblmjonaaDoor
