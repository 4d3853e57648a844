/-
  What comes of the steps of a connection.
-/
import Derived.Test.YtbgdpfeobklnhaaGreatDoorgoStCopy
import Derived.Test.YtbgdpfeobklnhaaGreatDoorgoClShown
namespace Go.Proofs.YtbgdpfeobklnhaaGreatDoor
open Go.RowKit

/-- what is shown of the other chain -/
structure Sh where
  height : Int
  prf : Prf
  gap : Gp
def Sh.fits (h : Sh) : Prop := h.prf.fits ∧ h.gap.fits
def ShV (w : World) (N : Nat) (v : Value) (h : Sh) : Prop := ∃ x1 x2 x3 k1 v1 t1 k2 v2 t2, v = .agg #[.int .i64 h.height, .int .i64 h.prf.index, .int .i64 h.prf.size, x1, x2, x3, .bool h.gap.hasL, .bool h.gap.hasR, .int .i64 h.gap.left.index, .int .i64 h.gap.left.size, k1, v1, t1, .int .i64 h.gap.right.index, .int .i64 h.gap.right.size, k2, v2, t2] ∧
  PrfV w N (.agg #[.int .i64 h.prf.index, .int .i64 h.prf.size, x1, x2, x3]) h.prf ∧ GpV w N (.agg #[.bool h.gap.hasL, .bool h.gap.hasR, .int .i64 h.gap.left.index, .int .i64 h.gap.left.size, k1, v1, t1, .int .i64 h.gap.right.index, .int .i64 h.gap.right.size, k2, v2, t2]) h.gap
theorem ShV.below {w w' : World} {N : Nat} {v : Value} {h : Sh} (hv : ShV w N v h) (hg : Below N w w') : ShV w' N v h := by
  obtain ⟨x1, x2, x3, k1, v1, t1, k2, v2, t2, e, hp, hq⟩ := hv
  exact ⟨x1, x2, x3, k1, v1, t1, k2, v2, t2, e, hp.below hg, hq.below hg⟩
theorem ShV.mono {w : World} {N M : Nat} {v : Value} {h : Sh} (hv : ShV w N v h) (hN : N ≤ M) : ShV w M v h := by
  obtain ⟨x1, x2, x3, k1, v1, t1, k2, v2, t2, e, hp, hq⟩ := hv
  exact ⟨x1, x2, x3, k1, v1, t1, k2, v2, t2, e, hp.mono hN, hq.mono hN⟩
/-- .. its slices in the open -/
theorem ShV.open {w : World} {N : Nat} {v : Value} {h : Sh} (hv : ShV w N v h) : ∃ q1 e1 q2 e2 q3 e3 r1 s1 r2 s2 r3 s3 r4 s4 r5 s5 r6 s6,
    v = .agg #[.int .i64 h.height, .int .i64 h.prf.index, .int .i64 h.prf.size, .slice q1 h.prf.key.length e1, .slice q2 h.prf.val.length e2, .slice q3 h.prf.path.length e3, .bool h.gap.hasL, .bool h.gap.hasR, .int .i64 h.gap.left.index, .int .i64 h.gap.left.size, .slice r1 h.gap.left.key.length s1, .slice r2 h.gap.left.val.length s2, .slice r3 h.gap.left.path.length s3, .int .i64 h.gap.right.index, .int .i64 h.gap.right.size, .slice r4 h.gap.right.key.length s4, .slice r5 h.gap.right.val.length s5, .slice r6 h.gap.right.path.length s6] ∧
    PrfV w N (.agg #[.int .i64 h.prf.index, .int .i64 h.prf.size, .slice q1 h.prf.key.length e1, .slice q2 h.prf.val.length e2, .slice q3 h.prf.path.length e3]) h.prf := by
  obtain ⟨x1, x2, x3, k1, v1, t1, k2, v2, t2, rfl, hp, hq⟩ := hv
  have hp' := hp
  obtain ⟨a1, a2, a3, ea, b1, b2, b3⟩ := hp
  obtain ⟨c1, c2, c3, c4, c5, c6, eb, d1, d2, d3, d4, d5, d6⟩ := hq
  simp at ea eb
  obtain ⟨rfl, rfl, rfl⟩ := ea
  obtain ⟨rfl, rfl, rfl, rfl, rfl, rfl⟩ := eb
  obtain ⟨q1, e1, rfl, -⟩ := b1.shape
  obtain ⟨q2, e2, rfl, -⟩ := b2.shape
  obtain ⟨q3, e3, rfl, -⟩ := b3.shape
  obtain ⟨r1, s1, rfl, -⟩ := d1.shape
  obtain ⟨r2, s2, rfl, -⟩ := d2.shape
  obtain ⟨r3, s3, rfl, -⟩ := d3.shape
  obtain ⟨r4, s4, rfl, -⟩ := d4.shape
  obtain ⟨r5, s5, rfl, -⟩ := d5.shape
  obtain ⟨r6, s6, rfl, -⟩ := d6.shape
  exact ⟨_, _, _, _, _, _, _, _, _, _, _, _, _, _, _, _, _, _, rfl, hp'⟩

def clAt (s : St) (c : Int) : Cl := (s.clients[c.toNat]?).getD Cl.none
def cnAt (s : St) (i : Int) : Cn := (s.conns[i.toNat]?).getD ⟨0, 0, 0, 0⟩
theorem clAt_some {s : St} {k : Nat} {x : Cl} (h : s.clients[k]? = some x) : clAt s (k : Int) = x := by unfold clAt; rw [Int.toNat_natCast, h]; rfl
theorem cnAt_some {s : St} {k : Nat} {x : Cn} (h : s.conns[k]? = some x) : cnAt s (k : Int) = x := by unfold cnAt; rw [Int.toNat_natCast, h]; rfl
/-- what keeps something from going over a client -/
def liveN (s : St) (c : Int) : Int := if c < 0 ∨ (s.clients.length : Int) ≤ c then 6 else if activeB (clAt s c) s.time = false then 12 else 0
theorem liveN_none {s : St} {c : Int} (h : c < 0 ∨ (s.clients.length : Int) ≤ c) : liveN s c = 6 := if_pos h
theorem liveN_ok {s : St} {c : Int} (h : liveN s c = 0) : 0 ≤ c ∧ c < (s.clients.length : Int) := by
  unfold liveN at h
  split at h
  · cases h
  · omega
theorem liveN_at {s : St} {k : Nat} {x : Cl} (h : s.clients[k]? = some x) : liveN s (k : Int) = if activeB x s.time = false then 12 else 0 := by
  have := (List.getElem?_eq_some_iff.1 h).1
  unfold liveN
  rw [if_neg (by omega), clAt_some h]
/-- whether something is shown of the other side, by a client -/
def MemberAt (s : St) (c : Int) (h : Sh) (key val : List (BitVec 8)) (z : Int) : Prop := ShownN (clAt s c) s.time h.height (fun r => h.prf.key = key ∧ h.prf.val = val ∧ shownB r h.prf) z
/-- a right state's pieces -/
theorem wrongS_name {s : St} (h : wrongS s = 0) : nameB s.name = true ∧ (fromB 0 s.height = true ∧ fromB 0 s.time = true) ∧ manyB s = false ∧ deepS s = 0 := by
  unfold wrongS at h
  split at h
  · cases h
  split at h
  · cases h
  split at h
  · cases h
  rename_i h1 h2 h3
  refine ⟨by simpa using h1, ?_, by simpa using h3, h⟩
  cases e1 : fromB 0 s.height <;> cases e2 : fromB 0 s.time <;> simp_all
theorem wrongS_client {s : St} (h : wrongS s = 0) : ∀ c ∈ s.clients, wrongCl c = 0 := by
  have h' := (orN_iff _).1 (wrongS_name h).2.2.2
  simp only [List.mem_cons, List.not_mem_nil, or_false, forall_eq_or_imp, forall_eq] at h'
  exact (firstW_iff _ _).1 h'.1
theorem wrongS_few {s : St} (h : wrongS s = 0) : few s := by
  have h3 := (wrongS_name h).2.2.1
  unfold manyB at h3
  have h4 := of_decide_eq_false h3
  exact ⟨by omega, by omega, by omega, by omega, by omega, by omega, by omega, fun c hc => by have := ((wrongCl_iff c).1 (wrongS_client h c hc)).2.2.1; omega⟩
theorem wrongS_time {s : St} (h : wrongS s = 0) : 0 ≤ s.time ∧ s.time ≤ 1000000000000 := (fromB_iff _ _).1 (wrongS_name h).2.1.2
/-- a wrong state's answer is its own -/
theorem wrongS_more {s : St} {l : List Cn} (h : wrongS s = 0) (hl : l.length ≤ 8) (hc : ∀ c ∈ l, wrongCn c = 0) : wrongS { s with conns := l } = 0 := by
  obtain ⟨h1, h2, h3, h4⟩ := wrongS_name h
  have h5 := of_decide_eq_false (show decide _ = false from h3)
  unfold wrongS
  rw [if_neg (by simp [h1]), if_neg (by simp [h2.1, h2.2]), if_neg (by simp [manyB]; omega)]
  have h' := (orN_iff _).1 h4
  simp only [List.mem_cons, List.not_mem_nil, or_false, forall_eq_or_imp, forall_eq] at h'
  refine (orN_iff _).2 ?_
  simp only [List.mem_cons, List.not_mem_nil, or_false, forall_eq_or_imp, forall_eq]
  exact ⟨h'.1, (firstW_iff _ _).2 hc, h'.2.2⟩
/-- what reads as a state: below N, or from base on -/
def HoldsS (N base : Nat) (w : World) (v : Value) (t : St) : Prop := Held (fun b => (b < N ∨ base ≤ b) ∧ b < w.heap.size) w (fun w2 => StV w2 w2.heap.size v t)
theorem HoldsS.now {N base : Nat} {w : World} {v : Value} {t : St} (h : HoldsS N base w v t) : StV w w.heap.size v t := Held.now h
theorem HoldsS.on {N base : Nat} {w w2 : World} {v : Value} {t : St} (h : HoldsS N base w v t) (hb : Below 0 w w2) (hk : ∀ b, b < w.heap.size → b < N ∨ base ≤ b → w2.heap[b]? = w.heap[b]?) : HoldsS N base w2 v t :=
  (Held.on h hb (fun b hF => hk b hF.2 hF.1)).wide (fun _ hF => ⟨hF.1, Nat.lt_of_lt_of_le hF.2 hb.size⟩) (fun _ hF => hF.2)
theorem HoldsS.below {N base : Nat} {w w2 : World} {v : Value} {t : St} (h : HoldsS N base w v t) (hb : Below w.heap.size w w2) : HoldsS N base w2 v t := h.on (hb.mono (Nat.zero_le _)) (fun b hlt _ => hb.block b hlt)
theorem HoldsS.lower {N base base' : Nat} {w : World} {v : Value} {t : St} (h : HoldsS N base w v t) (hb : base' ≤ base) : HoldsS N base' w v t := Held.wide h (fun _ hF => ⟨hF.1.imp id (Nat.le_trans hb), hF.2⟩) (fun _ hF => hF.2)
theorem setRow_below {B g : Nat} {w0 w : World} (hb : Below B w0 w) (hg : B ≤ g) (cs : Array Value) : Below B w0 (w.setRow g cs) := hb.trans ⟨rfl, rfl, rfl, by simp, fun k hk => setRow_other w g k cs (by omega)⟩
theorem HoldsS.row {N base : Nat} {w : World} {v : Value} {t : St} (h : HoldsS N base w v t) {g : Nat} (h1 : N ≤ g) (h2 : g < base) (cs : Array Value) : HoldsS N base (w.setRow g cs) v t :=
  h.on (setRow_below (Below.refl 0 w) (Nat.zero_le _) cs) (fun b _ hlt => setRow_other w g b cs (by omega))
theorem HoldsS.setCell {N base : Nat} {w : World} {v : Value} {t : St} (h : HoldsS N base w v t) {a : Addr} (h1 : N ≤ a.block) (h2 : a.block < base) (x : Value) : HoldsS N base (w.setCell a x) v t :=
  h.on ((Below.refl 0 w).setCell (Nat.zero_le _) x) (fun b _ hlt => Below.heap_setCell _ _ _ _ (by omega))
theorem stV_none (w : World) (N : Nat) : StV w N (.agg #[.string ⟨#[]⟩, .int .i64 0, .int .i64 0, .slice none 0 0, .slice none 0 0, .slice none 0 0, .slice none 0 0, .slice none 0 0, .slice none 0 0, .slice none 0 0]) St.none := ⟨_, _, _, _, _, _, _, rfl, Many.nil _ _ _ _, Many.nil _ _ _ _, Many.nil _ _ _ _, Many.nil _ _ _ _, Many.nil _ _ _ _, Many.nil _ _ _ _, Many.nil _ _ _ _⟩
theorem holdsS_none (N base : Nat) (w : World) : HoldsS N base w (.agg #[.string ⟨#[]⟩, .int .i64 0, .int .i64 0, .slice none 0 0, .slice none 0 0, .slice none 0 0, .slice none 0 0, .slice none 0 0, .slice none 0 0, .slice none 0 0]) St.none := ⟨fun _ h => h.2, fun w2 _ _ => stV_none w2 _⟩
theorem StOwn.holds {N base : Nat} {w : World} {t : St} {v1 v2 v3 v4 v5 v6 v7 : Value} (h : StOwn N base w t v1 v2 v3 v4 v5 v6 v7) : HoldsS N base w (.agg #[.string t.name, .int .i64 t.height, .int .i64 t.time, v1, v2, v3, v4, v5, v6, v7]) t :=
  ⟨fun _ hb => hb.2, fun _ hb hk => ⟨v1, v2, v3, v4, v5, v6, v7, rfl, (h.on hb (fun b hlt hr => hk b ⟨hr, hlt⟩)).mem⟩⟩
end Go.Proofs.YtbgdpfeobklnhaaGreatDoor
