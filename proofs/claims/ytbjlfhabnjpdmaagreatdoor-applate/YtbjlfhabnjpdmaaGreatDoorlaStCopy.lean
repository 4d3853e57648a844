/-
  Package state's Copy.
-/
import Derived.Test.YtbjlfhabnjpdmaaGreatDoorlaStCopyR
namespace Go.Proofs.YtbjlfhabnjpdmaaGreatDoor
open Go.RowKit

theorem RowsH.on {α : Type} {t : TypeId} {R : World → Nat → List Value → α → Prop} {k N base : Nat} {w w' : World} {v : Value} {l : List α} (h : RowsH t R k N base w v l) (hb : Below 0 w w') (hk : ∀ b, b < w.heap.size → b < N ∨ base ≤ b → w'.heap[b]? = w.heap[b]?) : RowsH t R k N base w' v l := by
  obtain ⟨rs, h1, h2, h3⟩ := h
  exact ⟨rs, h1, h2.keep fun g hg => hk g (h2.own g hg).2 (.inr (h2.own g hg).1), fun i r x hr hx => ((h3 i r x hr hx).on hb (fun b hF => hk b hF.2.2 hF.2.1)).wide (fun b hF => ⟨hF.1, hF.2.1, Nat.lt_of_lt_of_le hF.2.2 hb.size⟩) (fun b hF => hF.2.2)⟩
theorem Row.setRow {w : World} {g : Nat} {t : TypeId} {old : List Value} (h : Row w g t old) (cs : List Value) : Row (w.setRow g cs.toArray) g t cs := setRow_heap w g old.toArray cs.toArray t (0, 0) h
/-- blocks of rows of different types are different -/
theorem RowT.ne {t u : TypeId} {k j : Nat} {w : World} {b1 b2 : Nat} {v x : Value} {rs qs : List (List Value)} (h : RowT t k w b1 v rs) (h' : RowT u j w b2 x qs) (htu : t ≠ u) : ∀ b, v.ownBlock = some b → x.ownBlock ≠ some b := by
  intro b e1 e2
  rcases h.2.2 with ⟨rfl, _⟩ | ⟨g, c, cur, rfl, _, h8, _⟩
  · cases e1
  rcases h'.2.2 with ⟨rfl, _⟩ | ⟨g', c', cur', rfl, _, h9, _⟩
  · cases e2
  obtain rfl : g = b := by simpa [Value.ownBlock] using e1
  obtain rfl : g' = g := by simpa [Value.ownBlock] using e2
  rw [h8] at h9
  simp at h9
  exact htu h9.2
/-- what makes a state of lists that may be changed -/
theorem StOwn.make {N base m1 m2 : Nat} {w : World} {s : St} {v1 v2 v3 v4 v5 v6 v7 : Value} (hN : N ≤ base) (hm : base ≤ m1 ∧ m1 ≤ m2) (h1 : Held (fun b => (b < N ∨ base ≤ b) ∧ b < m1) w (fun w2 => Many ClR 4 w2 w2.heap.size v1 s.clients))
    (h2 : OwnC 81 cnCells 4 w m1 v2 s.conns) (h3 : OwnC 83 chCells 7 w m1 v3 s.chans) (h7 : OwnC 85 puCells 3 w m1 v7 s.purses)
    (n2 : ∀ b, v2.ownBlock = some b → b < m2) (n3 : ∀ b, v3.ownBlock = some b → b < m2) (n7 : ∀ b, v7.ownBlock = some b → b < m2)
    (h4 : Held (fun b => (b < N ∨ m2 ≤ b) ∧ b < w.heap.size) w (fun w2 => Many MkR 3 w2 w2.heap.size v4 s.sent)) (h5 : Held (fun b => (b < N ∨ m2 ≤ b) ∧ b < w.heap.size) w (fun w2 => Many MkR 3 w2 w2.heap.size v5 s.got)) (h6 : Held (fun b => (b < N ∨ m2 ≤ b) ∧ b < w.heap.size) w (fun w2 => Many MkR 3 w2 w2.heap.size v6 s.acks)) :
    StOwn N base w s v1 v2 v3 v4 v5 v6 v7 := by
  have t23 := RowT.ne h2 h3 (by decide)
  have t27 := RowT.ne h2 h7 (by decide)
  have t37 := RowT.ne h3 h7 (by decide)
  have W : ∀ (i : Nat) (P : World → Prop), i = 4 ∨ i = 5 ∨ i = 6 → Held (fun b => (b < N ∨ m2 ≤ b) ∧ b < w.heap.size) w P → Held (fun b => (i = 1 ∧ (b < N ∨ base ≤ b) ∧ b < m1) ∨ (i = 2 ∧ v2.ownBlock = some b) ∨ (i = 3 ∧ v3.ownBlock = some b) ∨ (i = 7 ∧ v7.ownBlock = some b) ∨ ((i = 4 ∨ i = 5 ∨ i = 6) ∧ (b < N ∨ m2 ≤ b) ∧ b < w.heap.size)) w P := fun i P hi hP =>
    hP.wide (fun b hF => .inr (.inr (.inr (.inr ⟨hi, hF⟩)))) (fun b hF => by
      rcases hF with ⟨rfl, _⟩ | ⟨rfl, _⟩ | ⟨rfl, _⟩ | ⟨rfl, _⟩ | ⟨_, hF⟩
      · omega
      · omega
      · omega
      · omega
      · exact hF.2)
  refine ⟨fun i b => (i = 1 ∧ (b < N ∨ base ≤ b) ∧ b < m1) ∨ (i = 2 ∧ v2.ownBlock = some b) ∨ (i = 3 ∧ v3.ownBlock = some b) ∨ (i = 7 ∧ v7.ownBlock = some b) ∨ ((i = 4 ∨ i = 5 ∨ i = 6) ∧ (b < N ∨ m2 ≤ b) ∧ b < w.heap.size), fun i b hF => ?_, h1.wide (fun b hF => .inl ⟨rfl, hF⟩) (fun b hF => ?_), RowT.mono h2 hm.1, RowT.mono h3 hm.1, W 4 _ (.inl rfl) h4, W 5 _ (.inr (.inl rfl)) h5, W 6 _ (.inr (.inr rfl)) h6, RowT.mono h7 hm.1, fun b e => ⟨.inr (.inl ⟨rfl, e⟩), fun i hi hF => ?_⟩, fun b e => ⟨.inr (.inr (.inl ⟨rfl, e⟩)), fun i hi hF => ?_⟩, fun b e => ⟨.inr (.inr (.inr (.inl ⟨rfl, e⟩))), fun i hi hF => ?_⟩⟩
  · rcases hF with ⟨_, hF, _⟩ | ⟨_, e⟩ | ⟨_, e⟩ | ⟨_, e⟩ | ⟨_, hF, _⟩
    · exact hF
    · exact .inr (Nat.le_trans hm.1 (h2.own b e).1)
    · exact .inr (Nat.le_trans hm.1 (h3.own b e).1)
    · exact .inr (Nat.le_trans hm.1 (h7.own b e).1)
    · omega
  · rcases hF with ⟨_, hF⟩ | ⟨h, _⟩ | ⟨h, _⟩ | ⟨h, _⟩ | ⟨h, _⟩
    · exact h1.1 b hF
    · omega
    · omega
    · omega
    · omega
  · have hb := (h2.own b e)
    have hb2 := n2 b e
    rcases hF with ⟨_, hF⟩ | ⟨h, _⟩ | ⟨_, e'⟩ | ⟨_, e'⟩ | ⟨_, hF⟩
    · omega
    · exact hi h
    · exact t23 b e e'
    · exact t27 b e e'
    · omega
  · have hb := (h3.own b e)
    have hb2 := n3 b e
    rcases hF with ⟨_, hF⟩ | ⟨_, e'⟩ | ⟨h, _⟩ | ⟨_, e'⟩ | ⟨_, hF⟩
    · omega
    · exact t23 b e' e
    · exact hi h
    · exact t37 b e e'
    · omega
  · have hb := (h7.own b e)
    have hb2 := n7 b e
    rcases hF with ⟨_, hF⟩ | ⟨_, e'⟩ | ⟨_, e'⟩ | ⟨h, _⟩ | ⟨_, hF⟩
    · omega
    · exact t27 b e' e
    · exact t37 b e' e
    · exact hi h
    · omega
theorem StOwn.lower {N base base' : Nat} {w : World} {s : St} {v1 v2 v3 v4 v5 v6 v7 : Value} (h : StOwn N base w s v1 v2 v3 v4 v5 v6 v7) (hb : base' ≤ base) : StOwn N base' w s v1 v2 v3 v4 v5 v6 v7 := by
  obtain ⟨F, h0, h1, h2, h3, h4, h5, h6, h7, k⟩ := h
  exact ⟨F, fun i b hF => (h0 i b hF).imp id (Nat.le_trans hb), h1, RowT.mono h2 hb, RowT.mono h3 hb, h4, h5, h6, RowT.mono h7 hb, k⟩
/-- clients in a row of a call's own, what they read outside it, all ahead of block number m -/
def ClOwn (N base m : Nat) (w : World) (v : Value) (l : List Cl) : Prop :=
  ∃ rs : List (List Value), rs.length = l.length ∧ RowT 79 4 w base v rs ∧ (∀ b, v.ownBlock = some b → b < m) ∧ ∀ (i : Nat) r x, rs[i]? = some r → l[i]? = some x → Held (fun b => some b ≠ v.ownBlock ∧ (b < N ∨ base ≤ b) ∧ b < m) w (fun w2 => ClR w2 w2.heap.size r x)
theorem ClOwn.of {N base : Nat} {w : World} {v : Value} {l : List Cl} (h : RowsH 79 ClR 4 N base w v l) : ClOwn N base w.heap.size w v l := by
  obtain ⟨rs, h1, h2, h3⟩ := h
  exact ⟨rs, h1, h2, fun b e => (h2.own b e).2, h3⟩
theorem ClOwn.on {N base m : Nat} {w w' : World} {v : Value} {l : List Cl} (h : ClOwn N base m w v l) (hb : Below 0 w w') (hk : ∀ b, b < m → b < N ∨ base ≤ b → w'.heap[b]? = w.heap[b]?) : ClOwn N base m w' v l := by
  obtain ⟨rs, h1, h2, h3, h4⟩ := h
  exact ⟨rs, h1, RowT.keep h2 fun b e => hk b (h3 b e) (.inr (h2.own b e).1), h3, fun i r x hr hx => (h4 i r x hr hx).on hb fun b hF => hk b hF.2.2 hF.2.1⟩
theorem ClOwn.low {N base base' m : Nat} {w : World} {v : Value} {l : List Cl} (h : ClOwn N base m w v l) (hb : base' ≤ base) (hm : m ≤ w.heap.size) : ClOwn N base' m w v l := by
  obtain ⟨rs, h1, h2, h3, h4⟩ := h
  exact ⟨rs, h1, h2.mono hb, h3, fun i r x hr hx => (h4 i r x hr hx).wide (fun b hF => ⟨hF.1, hF.2.1.imp id (Nat.le_trans hb), hF.2.2⟩) (fun b hF => Nat.lt_of_lt_of_le hF.2.2 hm)⟩
/-- what is beside the clients of a copy -/
def RestO (N base m : Nat) (w : World) (s : St) (v2 v3 v4 v5 v6 v7 : Value) : Prop := StOwnM (fun b => b < N ∨ m ≤ b) base w { s with clients := [] } noX (.slice none 0 0) v2 v3 v4 v5 v6 v7
set_option maxRecDepth 100000 in
set_option maxHeartbeats 8000000 in
theorem copyK (s : St) (o1 o2 o3 o4 o5 o6 o7 : Option Addr) (c1 c2 c3 c4 c5 c6 c7 : Nat) (N M : Nat) (w : World) (hm : StMem w M s (.slice o1 s.clients.length c1) (.slice o2 s.conns.length c2) (.slice o3 s.chans.length c3) (.slice o4 s.sent.length c4) (.slice o5 s.got.length c5) (.slice o6 s.acks.length c6) (.slice o7 s.purses.length c7)) (h6 : StMem w N { s with purses := [] } (.slice o1 s.clients.length c1) (.slice o2 s.conns.length c2) (.slice o3 s.chans.length c3) (.slice o4 s.sent.length c4) (.slice o5 s.got.length c5) (.slice o6 s.acks.length c6) (.slice none 0 0)) (hNM : N ≤ M) (hM : M ≤ w.heap.size) (hfit : s.fits) (hfew : few s) : Calls Tryz.prog 19 #[.agg #[.string s.name, .int .i64 s.height, .int .i64 s.time, .slice o1 s.clients.length c1, .slice o2 s.conns.length c2, .slice o3 s.chans.length c3, .slice o4 s.sent.length c4, .slice o5 s.got.length c5, .slice o6 s.acks.length c6, .slice o7 s.purses.length c7]] w fun e w' => Below w.heap.size w w' ∧ ∃ p1 d1 p2 d2 p3 d3 p4 d4 p5 d5 p6 d6 p7 d7, e = .returned (.agg #[.string s.name, .int .i64 s.height, .int .i64 s.time, .slice p1 s.clients.length d1, .slice p2 s.conns.length d2, .slice p3 s.chans.length d3, .slice p4 s.sent.length d4, .slice p5 s.got.length d5, .slice p6 s.acks.length d6, .slice p7 s.purses.length d7]) ∧ StOwnM (fun b => b < N ∨ w.heap.size ≤ b) w.heap.size w' s noX (.slice p1 s.clients.length d1) (.slice p2 s.conns.length d2) (.slice p3 s.chans.length d3) (.slice p4 s.sent.length d4) (.slice p5 s.got.length d5) (.slice p6 s.acks.length d6) (.slice p7 s.purses.length d7) ∧ ∃ m, (w.heap.size ≤ m ∧ m ≤ w'.heap.size) ∧ ClOwn N w.heap.size m w' (.slice p1 s.clients.length d1) s.clients ∧ RestO N w.heap.size m w' s (.slice p2 s.conns.length d2) (.slice p3 s.chans.length d3) (.slice p4 s.sent.length d4) (.slice p5 s.got.length d5) (.slice p6 s.acks.length d6) (.slice p7 s.purses.length d7) := by
  have hN : N ≤ w.heap.size := Nat.le_trans hNM hM
  have HFEW := hid hfew
  have HFEW6 := hid (show few { s with purses := [] } from ⟨hfew.1, hfew.2.1, hfew.2.2.1, hfew.2.2.2.1, hfew.2.2.2.2.1, hfew.2.2.2.2.2.1, Nat.zero_le _, hfew.2.2.2.2.2.2.2⟩)
  have HMF := hid (show MarksFit s from ⟨hfit.2.2.2.2.1.2, hfit.2.2.2.2.2.1.2, hfit.2.2.2.2.2.2.1.2⟩)
  have HCF := hid hfit.2.1.2
  have HCK := hid hfew.2.2.2.2.2.2.2
  have hl1 : s.clients.length ≤ 100 := hfew.1
  obtain ⟨w0, hw0⟩ : ∃ w0, (w.alloc (.cells #[.string s.name, .int .i64 s.height, .int .i64 s.time, .slice o1 s.clients.length c1, .slice o2 s.conns.length c2, .slice o3 s.chans.length c3, .slice o4 s.sent.length c4, .slice o5 s.got.length c5, .slice o6 s.acks.length c6, .slice o7 s.purses.length c7] 28)).alloc (.cells #[.string ⟨#[]⟩, .int .i64 0, .int .i64 0, .slice none 0 0, .slice none 0 0, .slice none 0 0, .slice none 0 0, .slice none 0 0, .slice none 0 0, .slice none 0 0] 28) = w0 := ⟨_, rfl⟩
  have hb0 : Below w.heap.size w w0 := by rw [← hw0]; exact ((Below.refl _ _).alloc (Nat.le_refl _) _).alloc (by simp) _
  have HB0 := hid hb0
  have HR0 := hid (show Row w0 w.heap.size 28 [.string s.name, .int .i64 s.height, .int .i64 s.time, .slice o1 s.clients.length c1, .slice o2 s.conns.length c2, .slice o3 s.chans.length c3, .slice o4 s.sent.length c4, .slice o5 s.got.length c5, .slice o6 s.acks.length c6, .slice o7 s.purses.length c7] by rw [← hw0]; exact (Row.new _ _ _).alloc _)
  have HZ0 := hid (show Row w0 (w.heap.size + 1) 28 [.string ⟨#[]⟩, .int .i64 0, .int .i64 0, .slice none 0 0, .slice none 0 0, .slice none 0 0, .slice none 0 0, .slice none 0 0, .slice none 0 0, .slice none 0 0] by rw [← hw0]; exact Row.newAt _ _ _ _ (by simp))
  have hsz0 : w0.heap.size = w.heap.size + 2 := by rw [← hw0]; simp
  have hN0 : N ≤ w0.heap.size := by omega
  have HM := hid (show ∀ wx, Below w.heap.size w wx → StMem wx M s (.slice o1 s.clients.length c1) (.slice o2 s.conns.length c2) (.slice o3 s.chans.length c3) (.slice o4 s.sent.length c4) (.slice o5 s.got.length c5) (.slice o6 s.acks.length c6) (.slice o7 s.purses.length c7) from fun wx hx => hm.below (hx.mono hM))
  have HM6 := hid (show ∀ wx, Below w.heap.size w wx → StMem wx N { s with purses := [] } (.slice o1 s.clients.length c1) (.slice o2 s.conns.length c2) (.slice o3 s.chans.length c3) (.slice o4 s.sent.length c4) (.slice o5 s.got.length c5) (.slice o6 s.acks.length c6) (.slice none 0 0) from fun wx hx => h6.below (hx.mono hN))
  obtain ⟨rs, hr1, hr2, hr3⟩ := (show Many ClR 4 w0 N (.slice o1 s.clients.length c1) s.clients from (h6.below (hb0.mono hN)).clients)
  have hok : ∀ r ∈ rs, r.length = 4 ∧ ∀ x ∈ r, x.oneCell' = true := fun r hr => by
    obtain ⟨i, hi⟩ := List.getElem?_of_mem hr
    have hil := (List.getElem?_eq_some_iff.1 hi).1
    obtain ⟨dv, rfl, hd⟩ := hr3 i r (s.clients[i]'(by omega)) hi (List.getElem?_eq_getElem _)
    obtain ⟨od, cd, rfl, -⟩ := hd.shape
    exact ⟨rfl, fun x hx => by simp at hx; rcases hx with rfl | rfl | rfl | rfl <;> rfl⟩
  have HCL := hid (cloneCl rs (.slice o1 s.clients.length c1) N w0 hr2 hN0 hok (by omega))
  have HNEW := hid (show ∀ w1 v1, Below w0.heap.size w0 w1 → RowT 79 4 w1 w0.heap.size v1 rs → RowsH 79 ClR 4 N w0.heap.size w1 v1 s.clients from fun w1 v1 hb hr => RowsH.new ClR.stays hr1 hr hr3 hN0 hN0 hb)
  have k3 : w0.cell? ⟨w.heap.size, 3, none⟩ = some (.slice o1 s.clients.length c1) := HR0.out.cell 3
  have z3 : w0.frozen? ⟨w.heap.size, 3, none⟩ = false := HR0.out.frozen 3
  have HW0 := hid hw0
  clear hm h6 hfit hfew hb0 hw0 hr1 hr2 hr3 hok
  go_enter Tryz.func19, Tryz.ntmps19
  go_upto_region 1 with fail
  rw [HW0.out]
  go_wp2_with fail
  refine HCL.out.mono ?_
  rintro e w1 ⟨hb1, v1, rfl, hrow⟩
  have hrh := HNEW.out _ _ hb1 hrow
  obtain ⟨q1, e1, rfl, -⟩ := hrh.shape
  have hrb1 := HR0.out.below hb1 HR0.out.lt
  have hzb1 := HZ0.out.below hb1 HZ0.out.lt
  have k3' : w1.cell? ⟨w.heap.size, 3, none⟩ = some (.slice o1 s.clients.length c1) := hrb1.cell 3
  have z3' : w1.frozen? ⟨w.heap.size, 3, none⟩ = false := hrb1.frozen 3
  obtain ⟨w2, hw2⟩ : ∃ w2, w1.setCell ⟨w.heap.size, 3, none⟩ (.slice q1 s.clients.length e1) = w2 := ⟨_, rfl⟩
  have hs2 : w2.heap.size = w1.heap.size := by rw [← hw2]; simp [World.setCell]
  have ho2 : ∀ b, b ≠ w.heap.size → w2.heap[b]? = w1.heap[b]? := fun b hb => by rw [← hw2]; exact Below.heap_setCell _ _ _ _ hb
  have HRH := hid (show RowsH 79 ClR 4 N w0.heap.size w2 (.slice q1 s.clients.length e1) s.clients from hrh.on (by rw [← hw2]; exact (Below.refl 0 w1).setCell (Nat.zero_le _) _) (fun b _ hb => ho2 b (by omega)))
  have HR2 := hid (show Row w2 w.heap.size 28 [.string s.name, .int .i64 s.height, .int .i64 s.time, .slice q1 s.clients.length e1, .slice o2 s.conns.length c2, .slice o3 s.chans.length c3, .slice o4 s.sent.length c4, .slice o5 s.got.length c5, .slice o6 s.acks.length c6, .slice o7 s.purses.length c7] by rw [← hw2]; exact hrb1.set 3 _)
  have HZ2 := hid (show Row w2 (w.heap.size + 1) 28 [.string ⟨#[]⟩, .int .i64 0, .int .i64 0, .slice none 0 0, .slice none 0 0, .slice none 0 0, .slice none 0 0, .slice none 0 0, .slice none 0 0, .slice none 0 0] by rw [← hw2]; exact hzb1.other _ (by simp))
  have HB2 := hid (show Below w.heap.size w w2 by rw [← hw2]; exact (HB0.out.trans (hb1.mono HB0.out.size)).setCell (Nat.le_refl _) _)
  have hsz2 : w0.heap.size ≤ w2.heap.size := by rw [hs2]; exact hb1.size
  have HW2 := hid hw2
  clear k3 z3 hb1 hrow hrh hrb1 hzb1 hs2 ho2 hw2
  go_upto_region 2 with fail
  rw [HW2.out]
  clear k3' z3'
  have k3 : w2.cell? ⟨w.heap.size, 3, none⟩ = some (.slice q1 s.clients.length e1) := HR2.out.cell 3
  go_wp2_with fail
  clear k3
  go_loopw [12] (fun i wr => ∃ k : Nat, k ≤ s.clients.length ∧ i = .int .i64 (k : Int) ∧ Hid (RowsH 79 ClR 4 N w0.heap.size wr (.slice q1 s.clients.length e1) s.clients ∧ Below w0.heap.size w2 wr)) (fun i _ => s.clients.length - (intOf i).toNat)
  case atStart => exact ⟨0, by omega, rfl, hid ⟨HRH.out, Below.refl _ _⟩⟩
  case round =>
    obtain ⟨k, hk, rfl, HT⟩ := hrel
    have HRW := hid HT.out.1
    have HBW := hid HT.out.2
    have hszw := HBW.out.size
    clear HT
    by_cases hlt : k < s.clients.length
    · obtain ⟨x, hx⟩ : ∃ x, s.clients[k]? = some x := ⟨_, List.getElem?_eq_getElem hlt⟩
      have hlt' : (k : Int) < (s.clients.length : Int) := by omega
      obtain ⟨g, rq, r, rfl, hgb, hgl, hq1, hq2, hq3, hq4, hq5, hc, hfz⟩ := HRW.out.at hx
      obtain ⟨dv, rfl, hdv⟩ := hq4
      obtain ⟨ka, ma, rfl, -⟩ := hdv.shape
      have f0 := hc 0 _ rfl
      have f1 := hc 1 _ rfl
      have f2 := hc 2 _ rfl
      have f3 := hc 3 _ rfl
      simp only [Nat.add_zero] at f0
      obtain ⟨w3, hw3⟩ : ∃ w3, wr.alloc (.cells #[.string x.chain, .int .i64 x.trust, .bool x.frozen, .slice ka x.known.length ma] 79) = w3 := ⟨_, rfl⟩
      have hb3 : Below wr.heap.size wr w3 := by rw [← hw3]; exact (Below.refl _ _).alloc (Nat.le_refl _) _
      have HR3 := hid (show Row w3 wr.heap.size 79 [.string x.chain, .int .i64 x.trust, .bool x.frozen, .slice ka x.known.length ma] by rw [← hw3]; exact Row.new _ _ _)
      have HB3 := hid hb3
      have HC3 := hid (show w3.cell? ⟨g, k * 4, none⟩ = some (.string x.chain) ∧ w3.cell? ⟨g, k * 4 + 1, none⟩ = some (.int .i64 x.trust) ∧ w3.cell? ⟨g, k * 4 + 2, none⟩ = some (.bool x.frozen) ∧ w3.cell? ⟨g, k * 4 + 3, none⟩ = some (.slice ka x.known.length ma) from ⟨(hb3.cell hgl).trans f0, (hb3.cell hgl).trans f1, (hb3.cell hgl).trans f2, (hb3.cell hgl).trans f3⟩)
      have HF3 := hid (show ∀ o, w3.frozen? ⟨g, o, none⟩ = false from fun o => (World.frozen?_of_block (a := ⟨g, o, none⟩) (hb3.block g hgl)).trans (hfz o))
      have HV3 := hid (show ClV w3 wr.heap.size (.agg #[.string x.chain, .int .i64 x.trust, .bool x.frozen, .slice ka x.known.length ma]) x from ⟨_, rfl, hdv.below hb3⟩)
      have HXF := hid (HCF.out x (List.mem_of_getElem? hx))
      have hkn := HCK.out x (List.mem_of_getElem? hx)
      have HRS := hid ((HR2.out.below HBW.out (by omega)).below hb3 (by omega))
      have HQ1 := hid hq1
      have HQ2 := hid hq2
      have HQ3 := hid hq3
      have HQ5 := hid hq5
      have HX := hid hx
      have HW3 := hid hw3
      have hgl3 : g < w3.heap.size := Nat.lt_of_lt_of_le hgl hb3.size
      clear hb3 hw3 hq1 hq2 hq3 hq5 hx hc hfz hdv
      go_upto_region 5 with fail
      rw [HW3.out]
      clear f0 f1 f2 f3
      refine copyR5 s x k s.clients.length g e1 ma ka o2 o3 o4 o5 o6 o7 c2 c3 c4 c5 c6 c7 (N := wr.heap.size) HB3.out.size HRS HR3 hlt' hgl3 HC3 HF3 HV3 HXF hkn _ (hid ?_)
      intro σ o m ps w4 hb4 hown hps
      have hbx : Below wr.heap.size wr w4 := HB3.out.trans (hb4.mono HB3.out.size)
      have HOW := hid (show Held (fun b => b ≠ g ∧ (b < N ∨ w0.heap.size ≤ b) ∧ b < w4.heap.size) w4 (fun wz => ClR wz wz.heap.size [.string x.chain, .int .i64 x.trust, .bool x.frozen, .slice o ps.length m] x) from
        ⟨fun b hb => hb.2.2, fun wz hz hkk => ⟨_, rfl, by rw [← hps]; exact hown.held.2 wz hz fun b hF => hkk b ⟨by omega, .inr (by have := HB3.out.size; omega), hF.2⟩⟩⟩)
      have hput := (HQ2.out.below hbx).put (i := k) (r := [.string x.chain, .int .i64 x.trust, .bool x.frozen, .slice o ps.length m]) (by rw [HQ1.out]; exact hlt) ⟨rfl, fun y hy => by simp at hy; rcases hy with rfl | rfl | rfl | rfl <;> rfl⟩
      have HNR := hid (RowsH.put (t := 79) (R := ClR) (k := 4) (N := N) (base := w0.heap.size) (n := s.clients.length) (c := e1) HQ1.out (fun j r y hr hy => ((HQ5.out j r y hr hy).below hbx).wide (fun b hF => ⟨hF.1, hF.2.1, Nat.lt_of_lt_of_le hF.2.2 hbx.size⟩) (fun b hF => hF.2.2)) HX.out HOW.out (grown_putCells w4 g (k * 4) [.string x.chain, .int .i64 x.trust, .bool x.frozen, .slice o ps.length m]) hput)
      have HNB := hid (show Below w0.heap.size w2 (w4.setCells g (k * 4) [.string x.chain, .int .i64 x.trust, .bool x.frozen, .slice o ps.length m]) from below_setCells hgb _ _ _ (HBW.out.trans (hbx.mono (by omega))))
      clear hb4 hown hps hbx hput HOW HQ1 HQ2 HQ3 HQ5 HX
      go_wp2
      go_roundw
      case rel => exact ⟨k + 1, by omega, by go_num, hid ⟨HNR.out, HNB.out⟩⟩
      case measure => simp [intOf]; omega
    · have hge : decide ((k : Int) < (s.clients.length : Int)) = false := by simp; omega
      have HR3 := hid (HR2.out.below HBW.out (by omega))
      have HZ3 := hid (HZ2.out.below HBW.out (by omega))
      have HB3 := hid (show Below w.heap.size w wr from HB2.out.trans (HBW.out.mono (by omega)))
      have H1 := hid HRW.out.held
      have J1 := hid (ClOwn.of HRW.out)
      go_upto_region 7 with fail
      refine copyR7 s q1 o2 o3 o4 o5 o6 o7 e1 c2 c3 c4 c5 c6 c7 (.slice o1 s.clients.length c1) (N := M) (by omega) HR3 (hid (HM.out _ HB3.out)) HFEW.out _ (hid ?_)
      intro σ v2 v3 v7 w4 hb4 h2 h3 h7
      obtain ⟨q2, e2, rfl, -⟩ := h2.shape
      obtain ⟨q3, e3, rfl, -⟩ := h3.shape
      obtain ⟨q7, e7, rfl, -⟩ := h7.shape
      have n2 := fun b e => (h2.own b e).2
      have n3 := fun b e => (h3.own b e).2
      have n7 := fun b e => (h7.own b e).2
      have H2 := hid h2
      have H3 := hid h3
      have H7 := hid h7
      have H1' := hid (H1.out.below hb4)
      have J4 := hid (J1.out.on (hb4.mono (Nat.zero_le _)) fun b hlt _ => hb4.block b hlt)
      have hr4 := HR3.out.below hb4 HR3.out.lt
      have hz4 := HZ3.out.below hb4 HZ3.out.lt
      simp only [List.length_map] at H2 H3 H7 n2 n3 n7 ⊢
      obtain ⟨w5, hw5⟩ : ∃ w5, ((w4.setCell ⟨w.heap.size, 4, none⟩ (.slice q2 s.conns.length e2)).setCell ⟨w.heap.size, 5, none⟩ (.slice q3 s.chans.length e3)).setCell ⟨w.heap.size, 9, none⟩ (.slice q7 s.purses.length e7) = w5 := ⟨_, rfl⟩
      have hs5 : w5.heap.size = w4.heap.size := by rw [← hw5]; simp [World.setCell]
      have ho5 : ∀ b, b ≠ w.heap.size → w5.heap[b]? = w4.heap[b]? := fun b hb => by rw [← hw5]; exact (Below.heap_setCell _ _ _ _ hb).trans ((Below.heap_setCell _ _ _ _ hb).trans (Below.heap_setCell _ _ _ _ hb))
      have hbb5 : Below 0 w4 w5 := by rw [← hw5]; exact (((Below.refl 0 w4).setCell (Nat.zero_le _) _).setCell (Nat.zero_le _) _).setCell (Nat.zero_le _) _
      have HR5 := hid (show Row w5 w.heap.size 28 [.string s.name, .int .i64 s.height, .int .i64 s.time, .slice q1 s.clients.length e1, .slice q2 s.conns.length e2, .slice q3 s.chans.length e3, .slice o4 s.sent.length c4, .slice o5 s.got.length c5, .slice o6 s.acks.length c6, .slice q7 s.purses.length e7] by rw [← hw5]; exact ((hr4.set 4 _).set 5 _).set 9 _)
      have HZ5 := hid (show Row w5 (w.heap.size + 1) 28 [.string ⟨#[]⟩, .int .i64 0, .int .i64 0, .slice none 0 0, .slice none 0 0, .slice none 0 0, .slice none 0 0, .slice none 0 0, .slice none 0 0, .slice none 0 0] by rw [← hw5]; exact ((hz4.other _ (by simp)).other _ (by simp)).other _ (by simp))
      have HB5 := hid (show Below w.heap.size w w5 by rw [← hw5]; exact (((HB3.out.trans (hb4.mono HB3.out.size)).setCell (Nat.le_refl _) _).setCell (Nat.le_refl _) _).setCell (Nat.le_refl _) _)
      have hw45 : wr.heap.size ≤ w4.heap.size := hb4.size
      have G1 := hid (H1'.out.on hbb5 (fun b hF => ho5 b (by omega)))
      have J5 := hid (J4.out.on hbb5 (fun b hlt hF => ho5 b (by omega)))
      have G2 := hid (show OwnC 81 cnCells 4 w5 wr.heap.size (.slice q2 s.conns.length e2) s.conns from OwnC.keep H2.out (fun b e => ho5 b (by have := (RowT.own H2.out b e).1; omega)))
      have G3 := hid (show OwnC 83 chCells 7 w5 wr.heap.size (.slice q3 s.chans.length e3) s.chans from OwnC.keep H3.out (fun b e => ho5 b (by have := (RowT.own H3.out b e).1; omega)))
      have G7 := hid (show OwnC 85 puCells 3 w5 wr.heap.size (.slice q7 s.purses.length e7) s.purses from OwnC.keep H7.out (fun b e => ho5 b (by have := (RowT.own H7.out b e).1; omega)))
      rw [hw5]
      clear h2 h3 h7 H2 H3 H7 H1' hr4 hz4 hw5 ho5 hbb5 hb4
      go_upto_region 8 with fail
      refine copyR8 { s with purses := [] } q1 q2 q3 q7 o4 o5 o6 e1 s.conns.length e2 s.chans.length e3 s.purses.length e7 c4 c5 c6 (.slice o1 s.clients.length c1) (.slice o2 s.conns.length c2) (.slice o3 s.chans.length c3) (.slice none 0 0) (N := N) (by omega) HR5 (hid (HM6.out _ HB5.out)) HFEW6.out (hid (show MarksFit { s with purses := [] } from ⟨HMF.out.1, HMF.out.2, HMF.out.3⟩)) _ (hid ?_)
      intro τ p4 p5 p6 d4 d5 d6 w6 hb6 h4
      have hr6 := HR5.out.below hb6 HR5.out.lt
      have hz6 := HZ5.out.below hb6 HZ5.out.lt
      obtain ⟨w7, hw7⟩ : ∃ w7, ((w6.setCell ⟨w.heap.size, 6, none⟩ (.slice p4 s.sent.length d4)).setCell ⟨w.heap.size, 7, none⟩ (.slice p5 s.got.length d5)).setCell ⟨w.heap.size, 8, none⟩ (.slice p6 s.acks.length d6) = w7 := ⟨_, rfl⟩
      have hs7 : w7.heap.size = w6.heap.size := by rw [← hw7]; simp [World.setCell]
      have ho7 : ∀ b, b ≠ w.heap.size → w7.heap[b]? = w6.heap[b]? := fun b hb => by rw [← hw7]; exact (Below.heap_setCell _ _ _ _ hb).trans ((Below.heap_setCell _ _ _ _ hb).trans (Below.heap_setCell _ _ _ _ hb))
      have hbb7 : Below 0 w6 w7 := by rw [← hw7]; exact (((Below.refl 0 w6).setCell (Nat.zero_le _) _).setCell (Nat.zero_le _) _).setCell (Nat.zero_le _) _
      have HR7 := hid (show Row w7 w.heap.size 28 [.string s.name, .int .i64 s.height, .int .i64 s.time, .slice q1 s.clients.length e1, .slice q2 s.conns.length e2, .slice q3 s.chans.length e3, .slice p4 s.sent.length d4, .slice p5 s.got.length d5, .slice p6 s.acks.length d6, .slice q7 s.purses.length e7] by rw [← hw7]; exact ((hr6.set 6 _).set 7 _).set 8 _)
      have HZ7 := hid (show Row w7 (w.heap.size + 1) 28 [.string ⟨#[]⟩, .int .i64 0, .int .i64 0, .slice none 0 0, .slice none 0 0, .slice none 0 0, .slice none 0 0, .slice none 0 0, .slice none 0 0, .slice none 0 0] by rw [← hw7]; exact ((hz6.other _ (by simp)).other _ (by simp)).other _ (by simp))
      have HB7 := hid (show Below w.heap.size w w7 by rw [← hw7]; exact (((HB5.out.trans (hb6.mono HB5.out.size)).setCell (Nat.le_refl _) _).setCell (Nat.le_refl _) _).setCell (Nat.le_refl _) _)
      have hw67 : w5.heap.size ≤ w6.heap.size := hb6.size
      have I2 := OwnC.keep (G2.out.below hb6) (fun b e => ho7 b (by have := (RowT.own G2.out b e).1; omega))
      have I3 := OwnC.keep (G3.out.below hb6) (fun b e => ho7 b (by have := (RowT.own G3.out b e).1; omega))
      have I7 := OwnC.keep (G7.out.below hb6) (fun b e => ho7 b (by have := (RowT.own G7.out b e).1; omega))
      have HOWN := hid (show StOwnM (fun b => b < N ∨ w0.heap.size ≤ b) w0.heap.size w7 s noX (.slice q1 s.clients.length e1) (.slice q2 s.conns.length e2) (.slice q3 s.chans.length e3) (.slice p4 s.sent.length d4) (.slice p5 s.got.length d5) (.slice p6 s.acks.length d6) (.slice q7 s.purses.length e7) from
        StOwnM.make (m1 := wr.heap.size) (m2 := w5.heap.size) ⟨by omega, by omega, by omega, by omega⟩ ((G1.out.below hb6).on hbb7 (fun b hF => ho7 b (by omega))) I2 I3 I7 (RowT.ne I2 I3 (by decide)) (RowT.ne I2 I7 (by decide)) (RowT.ne I3 I7 (by decide))
          (fun b e => by have := n2 b e; omega) (fun b e => by have := n3 b e; omega) (fun b e => by have := n7 b e; omega) (h4.on hbb7 (fun b hlt hF => ho7 b (by omega))))
      have J7 := hid ((J5.out.on (hb6.mono (Nat.zero_le _)) fun b hlt _ => hb6.block b (by omega)).on hbb7 (fun b hlt hF => ho7 b (by omega)))
      have HREST := hid (show RestO N wr.heap.size wr.heap.size w7 s (.slice q2 s.conns.length e2) (.slice q3 s.chans.length e3) (.slice p4 s.sent.length d4) (.slice p5 s.got.length d5) (.slice p6 s.acks.length d6) (.slice q7 s.purses.length e7) from
        StOwnM.make (m1 := wr.heap.size) (m2 := w5.heap.size) ⟨by omega, by omega, by omega, by omega⟩ ⟨fun b hF => by omega, fun w2 _ _ => Many.nil _ _ _ _⟩ I2 I3 I7 (RowT.ne I2 I3 (by decide)) (RowT.ne I2 I7 (by decide)) (RowT.ne I3 I7 (by decide))
          (fun b e => by have := n2 b e; omega) (fun b e => by have := n3 b e; omega) (fun b e => by have := n7 b e; omega) (h4.on hbb7 (fun b hlt hF => ho7 b (by omega))))
      rw [hw7]
      clear J1 J4 J5 I2 I3 I7 h4 hr6 hz6 hw7 ho7 hbb7 hb6 G1 G2 G3 G7 n2 n3 n7
      obtain ⟨w8, hw8⟩ : ∃ w8, w7.setRow (w.heap.size + 1) #[.string s.name, .int .i64 s.height, .int .i64 s.time, .slice q1 s.clients.length e1, .slice q2 s.conns.length e2, .slice q3 s.chans.length e3, .slice p4 s.sent.length d4, .slice p5 s.got.length d5, .slice p6 s.acks.length d6, .slice q7 s.purses.length e7] = w8 := ⟨_, rfl⟩
      have HR8 := hid (show Row w8 (w.heap.size + 1) 28 [.string s.name, .int .i64 s.height, .int .i64 s.time, .slice q1 s.clients.length e1, .slice q2 s.conns.length e2, .slice q3 s.chans.length e3, .slice p4 s.sent.length d4, .slice p5 s.got.length d5, .slice p6 s.acks.length d6, .slice q7 s.purses.length e7] by rw [← hw8]; exact Row.setRow HZ7.out _)
      have HB8 := hid (show Below w.heap.size w w8 by rw [← hw8]; exact below_setRow HB7.out (by omega) _)
      have HO8 := hid (HOWN.out.on (w' := w8) (by rw [← hw8]; exact below_setRow (Below.refl 0 w7) (Nat.zero_le _) _) (fun b _ (hlt : b < N ∨ w0.heap.size ≤ b) => by rw [← hw8]; exact setRow_other _ _ _ _ (by omega)))
      have J8 := hid (J7.out.on (w' := w8) (by rw [← hw8]; exact below_setRow (Below.refl 0 w7) (Nat.zero_le _) _) (fun b _ (hlt : b < N ∨ w0.heap.size ≤ b) => by rw [← hw8]; exact setRow_other _ _ _ _ (by omega)))
      have HE8 := hid (show RestO N wr.heap.size wr.heap.size w8 s (.slice q2 s.conns.length e2) (.slice q3 s.chans.length e3) (.slice p4 s.sent.length d4) (.slice p5 s.got.length d5) (.slice p6 s.acks.length d6) (.slice q7 s.purses.length e7) from HREST.out.on (w' := w8) (by rw [← hw8]; exact below_setRow (Below.refl 0 w7) (Nat.zero_le _) _) (fun b _ (hlt : b < N ∨ wr.heap.size ≤ b) => by rw [← hw8]; exact setRow_other _ _ _ _ (by omega)))
      have hs8 : w7.heap.size ≤ w8.heap.size := by rw [← hw8]; exact (below_setRow (Below.refl 0 w7) (Nat.zero_le _) _).size
      have HS8 := hid (show w.heap.size ≤ wr.heap.size ∧ wr.heap.size ≤ w8.heap.size from ⟨by omega, by omega⟩)
      clear hs8
      have HW8 := hid hw8
      have HHZ := hid (show w7.heap[w.heap.size + 1]? = some (.cells #[.string ⟨#[]⟩, .int .i64 0, .int .i64 0, .slice none 0 0, .slice none 0 0, .slice none 0 0, .slice none 0 0, .slice none 0 0, .slice none 0 0, .slice none 0 0] 28 (0, 0)) from HZ7.out)
      have HIZ := hid (show (Tryz.prog.info? 28).map (·.size) = some 10 by kernel_rfl)
      have HON := hid (show (#[.string s.name, .int .i64 s.height, .int .i64 s.time, .slice q1 s.clients.length e1, .slice q2 s.conns.length e2, .slice q3 s.chans.length e3, .slice p4 s.sent.length d4, .slice p5 s.got.length d5, .slice p6 s.acks.length d6, .slice q7 s.purses.length e7] : Array Value).all (·.oneCell') = true by simp [Value.oneCell'])
      have k0 : w7.cell? ⟨w.heap.size, 0, none⟩ = some (.string s.name) := HR7.out.cell 0
      have k1 : w7.cell? ⟨w.heap.size, 1, none⟩ = some (.int .i64 s.height) := HR7.out.cell 1
      have k2 : w7.cell? ⟨w.heap.size, 2, none⟩ = some (.int .i64 s.time) := HR7.out.cell 2
      have k3 : w7.cell? ⟨w.heap.size, 3, none⟩ = some (.slice q1 s.clients.length e1) := HR7.out.cell 3
      have k4 : w7.cell? ⟨w.heap.size, 4, none⟩ = some (.slice q2 s.conns.length e2) := HR7.out.cell 4
      have k5 : w7.cell? ⟨w.heap.size, 5, none⟩ = some (.slice q3 s.chans.length e3) := HR7.out.cell 5
      have k6 : w7.cell? ⟨w.heap.size, 6, none⟩ = some (.slice p4 s.sent.length d4) := HR7.out.cell 6
      have k7 : w7.cell? ⟨w.heap.size, 7, none⟩ = some (.slice p5 s.got.length d5) := HR7.out.cell 7
      have k8 : w7.cell? ⟨w.heap.size, 8, none⟩ = some (.slice p6 s.acks.length d6) := HR7.out.cell 8
      have k9 : w7.cell? ⟨w.heap.size, 9, none⟩ = some (.slice q7 s.purses.length e7) := HR7.out.cell 9
      clear hw8
      go_wp2_with (refine wpList_store_row rfl 28 (.tmp 2) (.tmp 48) rfl (w.heap.size + 1) #[.string s.name, .int .i64 s.height, .int .i64 s.time, .slice q1 s.clients.length e1, .slice q2 s.conns.length e2, .slice q3 s.chans.length e3, .slice p4 s.sent.length d4, .slice p5 s.got.length d5, .slice p6 s.acks.length d6, .slice q7 s.purses.length e7] rfl rfl 28 #[.string ⟨#[]⟩, .int .i64 0, .int .i64 0, .slice none 0 0, .slice none 0 0, .slice none 0 0, .slice none 0 0, .slice none 0 0, .slice none 0 0, .slice none 0 0] HHZ.out HIZ.out rfl HON.out ?_)
      rw [HW8.out]
      have y0 := HR8.out.cell 0
      simp at y0
      have y1 := HR8.out.cell 1
      simp at y1
      have y2 := HR8.out.cell 2
      simp at y2
      have y3 := HR8.out.cell 3
      simp at y3
      have y4 := HR8.out.cell 4
      simp at y4
      have y5 := HR8.out.cell 5
      simp at y5
      have y6 := HR8.out.cell 6
      simp at y6
      have y7 := HR8.out.cell 7
      simp at y7
      have y8 := HR8.out.cell 8
      simp at y8
      have y9 := HR8.out.cell 9
      simp at y9
      exact bodyPost_ret (v := .agg #[.string s.name, .int .i64 s.height, .int .i64 s.time, .slice q1 s.clients.length e1, .slice q2 s.conns.length e2, .slice q3 s.chans.length e3, .slice p4 s.sent.length d4, .slice p5 s.got.length d5, .slice p6 s.acks.length d6, .slice q7 s.purses.length e7]) (by simp [results, Tryz.results19, go_sem, y0, y1, y2, y3, y4, y5, y6, y7, y8, y9]) rfl ⟨HB8.out, q1, e1, q2, e2, q3, e3, p4, d4, p5, d5, p6, d6, q7, e7, rfl, (HO8.out.lower (by omega)).wide (fun b _ h => h.imp id (fun h => by omega)), _, HS8.out, J8.out.low (by omega) HS8.out.2, HE8.out.lower (by omega)⟩
theorem copyG (s : St) (o1 o2 o3 o4 o5 o6 o7 : Option Addr) (c1 c2 c3 c4 c5 c6 c7 : Nat) (N M : Nat) (w : World) (hm : StMem w M s (.slice o1 s.clients.length c1) (.slice o2 s.conns.length c2) (.slice o3 s.chans.length c3) (.slice o4 s.sent.length c4) (.slice o5 s.got.length c5) (.slice o6 s.acks.length c6) (.slice o7 s.purses.length c7)) (h6 : StMem w N { s with purses := [] } (.slice o1 s.clients.length c1) (.slice o2 s.conns.length c2) (.slice o3 s.chans.length c3) (.slice o4 s.sent.length c4) (.slice o5 s.got.length c5) (.slice o6 s.acks.length c6) (.slice none 0 0)) (hNM : N ≤ M) (hM : M ≤ w.heap.size) (hfit : s.fits) (hfew : few s) : Calls Tryz.prog 19 #[.agg #[.string s.name, .int .i64 s.height, .int .i64 s.time, .slice o1 s.clients.length c1, .slice o2 s.conns.length c2, .slice o3 s.chans.length c3, .slice o4 s.sent.length c4, .slice o5 s.got.length c5, .slice o6 s.acks.length c6, .slice o7 s.purses.length c7]] w fun e w' => Below w.heap.size w w' ∧ ∃ p1 d1 p2 d2 p3 d3 p4 d4 p5 d5 p6 d6 p7 d7, e = .returned (.agg #[.string s.name, .int .i64 s.height, .int .i64 s.time, .slice p1 s.clients.length d1, .slice p2 s.conns.length d2, .slice p3 s.chans.length d3, .slice p4 s.sent.length d4, .slice p5 s.got.length d5, .slice p6 s.acks.length d6, .slice p7 s.purses.length d7]) ∧ StOwnM (fun b => b < N ∨ w.heap.size ≤ b) w.heap.size w' s noX (.slice p1 s.clients.length d1) (.slice p2 s.conns.length d2) (.slice p3 s.chans.length d3) (.slice p4 s.sent.length d4) (.slice p5 s.got.length d5) (.slice p6 s.acks.length d6) (.slice p7 s.purses.length d7) :=
  (copyK s o1 o2 o3 o4 o5 o6 o7 c1 c2 c3 c4 c5 c6 c7 N M w hm h6 hNM hM hfit hfew).mono fun _ _ ⟨hb, p1, d1, p2, d2, p3, d3, p4, d4, p5, d5, p6, d6, p7, d7, e, h, _⟩ => ⟨hb, p1, d1, p2, d2, p3, d3, p4, d4, p5, d5, p6, d6, p7, d7, e, h⟩
theorem copyM (s : St) (v : Value) (N : Nat) (w : World) (hv : StV w N v s) (hN : N ≤ w.heap.size) (hfit : s.fits) (hfew : few s) : Calls Tryz.prog 19 #[v] w fun e w' => Below w.heap.size w w' ∧ ∃ p1 d1 p2 d2 p3 d3 p4 d4 p5 d5 p6 d6 p7 d7, e = .returned (.agg #[.string s.name, .int .i64 s.height, .int .i64 s.time, .slice p1 s.clients.length d1, .slice p2 s.conns.length d2, .slice p3 s.chans.length d3, .slice p4 s.sent.length d4, .slice p5 s.got.length d5, .slice p6 s.acks.length d6, .slice p7 s.purses.length d7]) ∧ StOwnM (fun b => b < N ∨ w.heap.size ≤ b) w.heap.size w' s noX (.slice p1 s.clients.length d1) (.slice p2 s.conns.length d2) (.slice p3 s.chans.length d3) (.slice p4 s.sent.length d4) (.slice p5 s.got.length d5) (.slice p6 s.acks.length d6) (.slice p7 s.purses.length d7) := by
  obtain ⟨o1, c1, o2, c2, o3, c3, o4, c4, o5, c5, o6, c6, o7, c7, rfl, hm⟩ := hv.open
  exact copyG s o1 o2 o3 o4 o5 o6 o7 c1 c2 c3 c4 c5 c6 c7 N N w hm ⟨hm.clients, hm.conns, hm.chans, hm.sent, hm.got, hm.acks, Many.nil _ _ _ _⟩ (Nat.le_refl _) hN hfit hfew
theorem copyC : CopyC 19 := by
  intro s v N w hv hN hfit hfew
  refine (copyM s v N w hv hN hfit hfew).mono ?_
  rintro e w' ⟨hb, p1, d1, p2, d2, p3, d3, p4, d4, p5, d5, p6, d6, p7, d7, rfl, h⟩
  exact ⟨hb, p1, d1, p2, d2, p3, d3, p4, d4, p5, d5, p6, d6, p7, d7, rfl, h.toOwn⟩
end Go.Proofs.YtbjlfhabnjpdmaaGreatDoor
