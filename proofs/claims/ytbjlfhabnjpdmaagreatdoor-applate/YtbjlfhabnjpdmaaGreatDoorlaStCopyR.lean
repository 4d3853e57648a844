/-
  Package state's Copy: what its drawn regions leave.
-/
import Derived.Test.YtbjlfhabnjpdmaaGreatDoorlaRegions
import Derived.Test.YtbjlfhabnjpdmaaGreatDoorlaStCopyM
import Derived.Test.YtbjlfhabnjpdmaaGreatDoorlaStSlots
import Derived.Laws.CopyOwn
namespace Go.Proofs.YtbjlfhabnjpdmaaGreatDoor
open Go.RowKit

section
variable (P : Program) (ops : Array Oper) (Q : Exit → Act → World → Prop) (fr : (Nat → Value) → Array Value) (G : Nat → Nat → Nat → Value → World → Prop) (w0 : World)
/-- what an operation leaves: its value in its slot, and the memory that it made -/
def LeftI (i : Nat) (σ : Nat → Value) (w : World) (a' : Act) (w' : World) : Prop := ∃ v, a' = ⟨fr (updF σ i v), []⟩ ∧ Below w.heap.size w w' ∧ G i w.heap.size w'.heap.size v w'
def StepI : Nat → List Oper → Prop
  | _, [] => True
  | i, o :: l => (∀ (σ : Nat → Value) (w : World), Below w0.heap.size w0 w → (∀ e ∈ o.after, Region.binds .any e = true → ∃ lo hi, G e.on lo hi (σ e.on) w) → wpOp P ops Q i (LeftI fr G i σ w) ⟨fr σ, []⟩ w) ∧ StepI (i + 1) l
end
theorem StepI.get {P : Program} {ops : Array Oper} {Q : Exit → Act → World → Prop} {fr : (Nat → Value) → Array Value} {G : Nat → Nat → Nat → Value → World → Prop} {w0 : World} :
    ∀ (l : List Oper) (k i : Nat) (o : Oper), StepI P ops Q fr G w0 k l → l[i]? = some o → ∀ (σ : Nat → Value) (w : World), Below w0.heap.size w0 w → (∀ e ∈ o.after, Region.binds .any e = true → ∃ lo hi, G e.on lo hi (σ e.on) w) → wpOp P ops Q (k + i) (LeftI fr G (k + i) σ w) ⟨fr σ, []⟩ w
  | [], _, _, _, _, h => by simp at h
  | x :: l, k, i, o, hs, h => by
    cases i with
    | zero =>
      obtain rfl : x = o := by simpa using h
      exact hs.1
    | succ i =>
      have := StepI.get l (k + 1) i o hs.2 (by simpa using h)
      rw [show k + (i + 1) = k + 1 + i by omega]
      exact this
theorem LeftI.mk {fr : (Nat → Value) → Array Value} {G : Nat → Nat → Nat → Value → World → Prop} {i : Nat} {σ : Nat → Value} {w w' : World} {a' : Act} (v : Value) (ha : a' = ⟨fr (updF σ i v), []⟩) (hb : Below w.heap.size w w') (hg : G i w.heap.size w'.heap.size v w') : LeftI fr G i σ w a' w' := ⟨v, ha, hb, hg⟩
theorem LeftI.mk0 {fr : (Nat → Value) → Array Value} {G : Nat → Nat → Nat → Value → World → Prop} {i : Nat} {σ : Nat → Value} {w : World} {a' : Act} (v : Value) (ha : a' = ⟨fr (updF σ i v), []⟩) (hg : G i w.heap.size w.heap.size v w) : LeftI fr G i σ w a' w := ⟨v, ha, Below.refl _ _, hg⟩
def updN (f : Nat → Nat) (i n : Nat) : Nat → Nat := fun j => if j = i then n else f j
/-- what has come up: each in its interval, these apart -/
def Ivals (G : Nat → Nat → Nat → Value → World → Prop) (w0 : World) (up : Nat → Prop) (σ : Nat → Value) (lo hi : Nat → Nat) (w : World) : Prop :=
  (∀ i, up i → G i (lo i) (hi i) (σ i) w ∧ w0.heap.size ≤ lo i ∧ lo i ≤ hi i ∧ hi i ≤ w.heap.size) ∧ ∀ i j, up i → up j → i ≠ j → hi i ≤ lo j ∨ hi j ≤ lo i
theorem Ivals.next {G : Nat → Nat → Nat → Value → World → Prop} {w0 w w' : World} {up up' : Nat → Prop} {σ : Nat → Value} {lo hi : Nat → Nat} (hstab : ∀ i lo hi v w w', Below w.heap.size w w' → G i lo hi v w → G i lo hi v w') (h : Ivals G w0 up σ lo hi w) {i : Nat} {v : Value} (hb : Below w.heap.size w w') (h0 : w0.heap.size ≤ w.heap.size) (hg : G i w.heap.size w'.heap.size v w') (hup : ∀ j, up' j → j = i ∨ up j) :
    Ivals G w0 up' (updF σ i v) (updN lo i w.heap.size) (updN hi i w'.heap.size) w' := by
  obtain ⟨h1, h2⟩ := h
  refine ⟨fun j hj => ?_, fun j k hj hk hne => ?_⟩
  · by_cases e : j = i
    · subst e
      simp only [updF, updN, if_true]
      exact ⟨hg, h0, hb.size, Nat.le_refl _⟩
    · simp only [updF, updN, if_neg e]
      obtain ⟨g1, g2, g3, g4⟩ := h1 j ((hup j hj).resolve_left e)
      exact ⟨hstab j _ _ _ w w' hb g1, g2, g3, Nat.le_trans g4 hb.size⟩
  · by_cases e : j = i
    · subst e
      have ek : k ≠ j := fun h => hne h.symm
      simp only [updN, if_true, if_neg ek]
      exact .inr (h1 k ((hup k hk).resolve_left ek)).2.2.2
    · by_cases ek : k = i
      · subst ek
        simp only [updN, if_true, if_neg e]
        exact .inl (h1 j ((hup j hj).resolve_left e)).2.2.2
      · simp only [updN, if_neg e, if_neg ek]
        exact h2 j k ((hup j hj).resolve_left e) ((hup k hk).resolve_left ek) hne
theorem region_ivals_tail {P : Program} {id : Nat} {Q : Exit → Act → World → Prop} {w : World} {l : List Oper} {a0 : Act} (n : Nat) (hm : P.follows .mixedOrders = true) (fr : (Nat → Value) → Array Value) (σ0 : Nat → Value) (h0 : a0 = ⟨fr σ0, []⟩)
    (G : Nat → Nat → Nat → Value → World → Prop) (hstab : ∀ i lo hi v w w', Below w.heap.size w w' → G i lo hi v w → G i lo hi v w') (hB : tailB l n = true)
    (hstep : StepI P l.toArray Q fr G w 0 (l.take n))
    (hend : ∀ (σ : Nat → Value) (lo hi : Nat → Nat) (w' : World), Below w.heap.size w w' → Ivals G w (fun i => i < n) σ lo hi w' → wpList P l.toArray Q (l.drop n) ⟨fr σ, []⟩ w') : (Code.region id l.toArray true).wp P Q a0 w := by
  subst h0
  simp only [tailB, Bool.and_eq_true, decide_eq_true_eq] at hB
  obtain ⟨hn, hs, hc, hah, hseq⟩ := hB
  refine wp_region_any hm ?_
  have hsz : l.toArray.size = l.length := by simp
  have inv0 : HeadInv .any l.toArray n (Array.replicate l.toArray.size false) :=
    ⟨by simp, fun j oj _ hx => (by rw [getD_replicate_false] at hx; cases hx), fun t _ ht => getD_in (by simpa using ht) (getD_replicate_false _ _)⟩
  have K := any_head (P := P) (Q := Q) (n := n) (fun s a w' => ∃ (σ : Nat → Value) (lo hi : Nat → Nat), s.size = l.length ∧ a = ⟨fr σ, []⟩ ∧ Below w.heap.size w w' ∧ Ivals G w (fun i => i < n ∧ s.getD i false = true) σ lo hi w') hs hc hn
    (fun i o ho e he hb => by have := aheadOps_get l 0 i o hah (by simpa using ho) e he hb; omega)
    (by
      rintro s a w' ⟨σ, lo, hi, hss, rfl, hj, hg⟩ i hir hin
      obtain ⟨hun, o, ho, hdep⟩ := mem_ready.1 hir
      have ho' : l[i]? = some o := by simpa using ho
      have ho2 : (l.take n)[i]? = some o := by rw [List.getElem?_take, if_pos hin]; exact ho'
      have hah' := aheadOps_get l 0 i o hah ho'
      have hst := StepI.get (l.take n) 0 i o hstep ho2 σ w' hj (fun e he hb => ⟨lo e.on, hi e.on, (hg.1 _ ⟨by have := hah' e he hb; omega, hdep e he hb⟩).1⟩)
      rw [Nat.zero_add] at hst
      refine wpOp_mono ?_ hst
      rintro a2 w2 ⟨v, rfl, hr, hgv⟩
      refine ⟨updF σ i v, updN lo i w'.heap.size, updN hi i w2.heap.size, by simpa using hss, rfl, hj.trans (hr.mono hj.size), hg.next hstab hr hj.size hgv fun j hjt => ?_⟩
      by_cases e : j = i
      · exact .inl e
      · refine .inr ⟨hjt.1, ?_⟩
        have := hjt.2
        rw [getD_set_ne false (Ne.symm e)] at this
        exact this)
    (by
      rintro s a w' hi ⟨σ, lo, hii, hss, rfl, hj, hg⟩ hall
      have he : s = (List.replicate n true ++ List.replicate (l.toArray.size - n) false).toArray := by
        apply Array.ext
        · simp; omega
        · intro i h1 h2
          by_cases hin : i < n
          · have h3 := hall i hin
            simp [Array.getD, h1] at h3
            rw [h3]
            simp [hin]
          · have h3 := hi.tail i (by omega) (by omega)
            simp [Array.getD, h1] at h3
            rw [h3]
            simp [List.getElem_append, hin]
      have hdl : (l.drop n).length = l.toArray.size - n := by simp
      have up : ∀ i, i < n → i < n ∧ s.getD i false = true := fun i hin => ⟨hin, by
        have h3 := hall i hin
        have hlt : i < s.size := by omega
        simp [hlt] at h3 ⊢
        exact h3⟩
      have hw := hend σ lo hii w' hj ⟨fun i hin => hg.1 i (up i hin), fun i j h1 h2 hne => hg.2 i j (up i h1) (up j h2) hne⟩
      have := wpAny_of_seq (md := .any) (Q' := Q) (l.drop n) n s ⟨fr σ, []⟩ w' (fun j => by simp [List.getElem?_drop]) (by rw [hdl, he]; exact hseq) hw
      rwa [hdl] at this)
    n (Array.replicate l.toArray.size false) ⟨fr σ0, []⟩ w.drew (by simp [leftB]; omega) inv0 ⟨σ0, fun _ => 0, fun _ => 0, by simp, rfl, (Below.refl _ _).drew, fun i hi => (by have h := hi.2; rw [getD_replicate_false] at h; cases h), fun i j hi => (by have h := hi.2; rw [getD_replicate_false] at h; cases h)⟩
  rwa [show n + (l.toArray.size - n) = l.toArray.size by omega] at K
end Go.Proofs.YtbjlfhabnjpdmaaGreatDoor
namespace Go.Proofs.YtbjlfhabnjpdmaaGreatDoor
open Go.RowKit

/-- a few of each -/
def few (s : St) : Prop := s.clients.length ≤ 100 ∧ s.conns.length ≤ 100 ∧ s.chans.length ≤ 100 ∧ s.sent.length ≤ 100 ∧ s.got.length ≤ 100 ∧ s.acks.length ≤ 100 ∧ s.purses.length ≤ 100 ∧ ∀ c ∈ s.clients, c.known.length ≤ 1000
structure MarksFit (s : St) : Prop where
  sent : ∀ m ∈ s.sent, m.fits
  got : ∀ m ∈ s.got, m.fits
  acks : ∀ m ∈ s.acks, m.fits
theorem cnCells_ok {l : List Cn} : ∀ r ∈ l.map cnCells, r.length = 4 ∧ ∀ x ∈ r, x.oneCell' = true := fun r hr => by
  obtain ⟨c, _, rfl⟩ := List.mem_map.1 hr
  refine ⟨rfl, fun x hx => ?_⟩
  simp [cnCells] at hx
  rcases hx with rfl | rfl | rfl | rfl <;> rfl
theorem chCells_ok {l : List Ch} : ∀ r ∈ l.map chCells, r.length = 7 ∧ ∀ x ∈ r, x.oneCell' = true := fun r hr => by
  obtain ⟨c, _, rfl⟩ := List.mem_map.1 hr
  refine ⟨rfl, fun x hx => ?_⟩
  simp [chCells] at hx
  rcases hx with rfl | rfl | rfl | rfl | rfl | rfl | rfl <;> rfl
theorem puCells_ok {l : List Pu} : ∀ r ∈ l.map puCells, r.length = 3 ∧ ∀ x ∈ r, x.oneCell' = true := fun r hr => by
  obtain ⟨c, _, rfl⟩ := List.mem_map.1 hr
  refine ⟨rfl, fun x hx => ?_⟩
  simp [puCells] at hx
  rcases hx with rfl | rfl | rfl <;> rfl
/-- what Copy is to answer -/
def CopyC (f : FuncId) : Prop := ∀ (s : St) (v : Value) (N : Nat) (w : World), StV w N v s → N ≤ w.heap.size → s.fits → few s →
  Calls Tryz.prog f #[v] w fun e w' => Below w.heap.size w w' ∧ ∃ p1 d1 p2 d2 p3 d3 p4 d4 p5 d5 p6 d6 p7 d7, e = .returned (.agg #[.string s.name, .int .i64 s.height, .int .i64 s.time, .slice p1 s.clients.length d1, .slice p2 s.conns.length d2, .slice p3 s.chans.length d3, .slice p4 s.sent.length d4, .slice p5 s.got.length d5, .slice p6 s.acks.length d6, .slice p7 s.purses.length d7]) ∧ StOwn N w.heap.size w' s (.slice p1 s.clients.length d1) (.slice p2 s.conns.length d2) (.slice p3 s.chans.length d3) (.slice p4 s.sent.length d4) (.slice p5 s.got.length d5) (.slice p6 s.acks.length d6) (.slice p7 s.purses.length d7)
set_option maxRecDepth 100000 in
set_option maxHeartbeats 4000000 in
theorem copyR5 {y0 y2 y5 y6 y7 y8 y9 y10 y11 y12 y13 y14 y15 y16 y23 y24 y25 y26 y27 y28 y29 y30 y31 y32 y33 y34 y35 y36 y37 y38 y39 y40 y41 y42 y43 y44 y45 y46 y47 y48 z17 z18 z19 z20 z21 z22 : Value} {gs gc N : Nat} (s : St) (x : Cl) (k n g ca ma : Nat) (ka : Option Addr) (o2 o3 o4 o5 o6 o7 : Option Addr) (c2 c3 c4 c5 c6 c7 : Nat) {w : World} (hN : N ≤ w.heap.size) (hrs : Hid (Row w gs 28 [.string s.name, .int .i64 s.height, .int .i64 s.time, .slice (some ⟨g, 0, none⟩) n ca, .slice o2 s.conns.length c2, .slice o3 s.chans.length c3, .slice o4 s.sent.length c4, .slice o5 s.got.length c5, .slice o6 s.acks.length c6, .slice o7 s.purses.length c7])) (hrc : Hid (Row w gc 79 [.string x.chain, .int .i64 x.trust, .bool x.frozen, .slice ka x.known.length ma])) (_hlt : (k : Int) < (n : Int)) (hgl : g < w.heap.size) (hcg : Hid (w.cell? ⟨g, k * 4, none⟩ = some (.string x.chain) ∧ w.cell? ⟨g, k * 4 + 1, none⟩ = some (.int .i64 x.trust) ∧ w.cell? ⟨g, k * 4 + 2, none⟩ = some (.bool x.frozen) ∧ w.cell? ⟨g, k * 4 + 3, none⟩ = some (.slice ka x.known.length ma))) (hfz : Hid (∀ o, w.frozen? ⟨g, o, none⟩ = false)) (hcv : Hid (ClV w N (.agg #[.string x.chain, .int .i64 x.trust, .bool x.frozen, .slice ka x.known.length ma]) x)) (hcf : Hid x.fits) (hkn : x.known.length ≤ 1000) (Q : Exit → Act → World → Prop)
    (hQ : Hid (∀ (σ : Nat → Value) (o : Option Addr) (m : Nat) (ps : List KnR) (w2 : World), Below w.heap.size w w2 → OwnKn w2 w.heap.size (.slice o ps.length m) ps → ps.map (·.k) = x.known → Q .normal ⟨#[y0, .pointer (some ⟨gs, 0, none⟩), y2, .int .i64 (k : Int), .pointer (some ⟨gc, 0, none⟩), y5, y6, y7, y8, y9, y10, y11, y12, y13, y14, y15, y16, σ 0, σ 1, σ 2, σ 3, .agg #[.string x.chain, .int .i64 x.trust, .bool x.frozen, .slice o ps.length m], .pointer (some ⟨g, k * 4, none⟩), y23, y24, y25, y26, y27, y28, y29, y30, y31, y32, y33, y34, y35, y36, y37, y38, y39, y40, y41, y42, y43, y44, y45, y46, y47, y48], []⟩ (w2.setCells g (k * 4) [.string x.chain, .int .i64 x.trust, .bool x.frozen, .slice o ps.length m]))) :
    Code.wp Tryz.prog (.region 5 ((Tryz.f19.body.bind (regOf 5)).getD #[]) true) Q ⟨#[y0, .pointer (some ⟨gs, 0, none⟩), y2, .int .i64 (k : Int), .pointer (some ⟨gc, 0, none⟩), y5, y6, y7, y8, y9, y10, y11, y12, y13, y14, y15, y16, z17, z18, z19, z20, z21, z22, y23, y24, y25, y26, y27, y28, y29, y30, y31, y32, y33, y34, y35, y36, y37, y38, y39, y40, y41, y42, y43, y44, y45, y46, y47, y48], []⟩ w := by
  conv => arg 2; arg 2; whnf
  conv => arg 4; dsimp only
  refine region_grows_tail 6 (by kernel_rfl) (fun σ => #[y0, .pointer (some ⟨gs, 0, none⟩), y2, .int .i64 (k : Int), .pointer (some ⟨gc, 0, none⟩), y5, y6, y7, y8, y9, y10, y11, y12, y13, y14, y15, y16, σ 0, σ 1, σ 2, σ 3, σ 4, σ 5, y23, y24, y25, y26, y27, y28, y29, y30, y31, y32, y33, y34, y35, y36, y37, y38, y39, y40, y41, y42, y43, y44, y45, y46, y47, y48]) (fun i => ([z17, z18, z19, z20, z21, z22] : List Value).getD i undef) rfl (fun i X W => match i with
    | 0 => X = .pointer (some ⟨gs, 3, none⟩)
    | 1 => X = .slice (some ⟨g, 0, none⟩) n ca
    | 2 => X = .int .i64 (k : Int)
    | 3 => X = .agg #[.string x.chain, .int .i64 x.trust, .bool x.frozen, .slice ka x.known.length ma]
    | 4 => ∃ o m ps, X = .agg #[.string x.chain, .int .i64 x.trust, .bool x.frozen, .slice o ps.length m] ∧ OwnKn W w.heap.size (.slice o ps.length m) ps ∧ ps.map (·.k) = x.known
    | 5 => X = .pointer (some ⟨g, k * 4, none⟩)
    | _ => True) ?_ (by kernel_rfl) ?_ ?_
  · intro i X W W' HB H
    match i, H with
    | 0, H => exact H
    | 1, H => exact H
    | 2, H => exact H
    | 3, H => exact H
    | 4, H => exact (by obtain ⟨o, m, ps, e, ho, hp⟩ := H; exact ⟨o, m, ps, e, ho.below HB, hp⟩)
    | 5, H => exact H
    | _ + 6, _ => exact trivial
  · refine ⟨?_, ?_, ?_, ?_, ?_, ?_, trivial⟩
    · -- 0: Op.fieldAddr 28 t1 3
      intro σ W HJ hdep
      simp [Region.binds] at hdep
      have HJ := hid HJ
      refine wpOp_plain rfl rfl ?_
      go_simp
      exact Left.mk0 (.pointer (some ⟨gs, 3, none⟩)) (by first | rfl | simp [updF, *]) HJ.out rfl
    · -- 1: Op.load 22 t17
      intro σ W HJ hdep
      simp [Region.binds] at hdep
      have HJ := hid HJ
      have kc := (hrs.out.below HJ.out hrs.out.lt).cell 3
      simp at kc
      refine wpOp_plain rfl rfl ?_
      go_simp
      exact Left.mk0 (.slice (some ⟨g, 0, none⟩) n ca) (by first | rfl | simp [updF, *]) HJ.out rfl
    · -- 2: Op.move t3
      intro σ W HJ hdep
      simp [Region.binds] at hdep
      have HJ := hid HJ
      refine wpOp_plain rfl rfl ?_
      go_simp
      exact Left.mk0 (.int .i64 (k : Int)) (by first | rfl | simp [updF, *]) HJ.out rfl
    · -- 3: Op.load 62 t4
      intro σ W HJ hdep
      simp [Region.binds] at hdep
      have HJ := hid HJ
      have k0 := (hrc.out.below HJ.out hrc.out.lt).cell 0
      have k1 := (hrc.out.below HJ.out hrc.out.lt).cell 1
      have k2 := (hrc.out.below HJ.out hrc.out.lt).cell 2
      have k3 := (hrc.out.below HJ.out hrc.out.lt).cell 3
      simp at k0
      simp at k1
      simp at k2
      simp at k3
      refine wpOp_plain rfl rfl ?_
      go_simp
      exact Left.mk0 (.agg #[.string x.chain, .int .i64 x.trust, .bool x.frozen, .slice ka x.known.length ma]) (by first | rfl | simp [updF, *]) HJ.out rfl
    · -- 4: Op.call { value (Operand.func 132), args := #[t20], argTypes
      intro σ W HJ hdep
      simp [Region.binds] at hdep
      have HJ := hid HJ
      have HC := hid (copiedCl_any x (.agg #[.string x.chain, .int .i64 x.trust, .bool x.frozen, .slice ka x.known.length ma]) N W (hcv.out.below (HJ.out.mono hN)) (Nat.le_trans hN HJ.out.size) hcf.out hkn)
      refine wpOp_plain rfl rfl ?_
      go_simp
      refine HC.out.mono ?_
      rintro e w2 ⟨hb2, o, m, ps, rfl, hown, hps⟩
      exact Left.mk (.agg #[.string x.chain, .int .i64 x.trust, .bool x.frozen, .slice o ps.length m]) (by first | rfl | simp [updF, *]) hb2 HJ.out ⟨o, m, ps, rfl, hown.mono HJ.out.size, hps⟩
    · -- 5: Op.indexAddr 22 t18 t19
      intro σ W HJ hdep
      simp [Region.binds] at hdep
      have HJ := hid HJ
      refine wpOp_plain rfl rfl ?_
      go_simp
      exact Left.mk0 (.pointer (some ⟨g, k * 4, none⟩)) (by first | rfl | simp [updF, *]) HJ.out rfl
  · intro σ W hj hg
    have HJ := hid hj
    clear hj
    simp only [List.drop_succ_cons, List.drop_zero]
    obtain ⟨o, m, ps, e4, ho, hp⟩ : ∃ o m ps, σ 4 = .agg #[.string x.chain, .int .i64 x.trust, .bool x.frozen, .slice o ps.length m] ∧ OwnKn W w.heap.size (.slice o ps.length m) ps ∧ ps.map (·.k) = x.known := hg 4 (by decide)
    have e5 : σ 5 = .pointer (some ⟨g, k * 4, none⟩) := hg 5 (by decide)
    have c0 := (HJ.out.cell (p := ⟨g, k * 4, none⟩) hgl).trans hcg.out.1
    have c1 := (HJ.out.cell (p := ⟨g, k * 4 + 1, none⟩) hgl).trans hcg.out.2.1
    have c2 := (HJ.out.cell (p := ⟨g, k * 4 + 2, none⟩) hgl).trans hcg.out.2.2.1
    have c3 := (HJ.out.cell (p := ⟨g, k * 4 + 3, none⟩) hgl).trans hcg.out.2.2.2
    have z0 := (World.frozen?_of_block (a := ⟨g, k * 4, none⟩) (HJ.out.block g hgl)).trans (hfz.out _)
    have z1 := (World.frozen?_of_block (a := ⟨g, k * 4 + 1, none⟩) (HJ.out.block g hgl)).trans (hfz.out _)
    have z2 := (World.frozen?_of_block (a := ⟨g, k * 4 + 2, none⟩) (HJ.out.block g hgl)).trans (hfz.out _)
    have z3 := (World.frozen?_of_block (a := ⟨g, k * 4 + 3, none⟩) (HJ.out.block g hgl)).trans (hfz.out _)
    have HO := hid ho
    have HP := hid hp
    have HJ2 := HJ
    clear hg ho hp
    rw [e4, e5]
    clear e4 e5
    go_wp2
    exact hQ.out σ o m ps W HJ2.out HO.out HP.out
set_option maxRecDepth 100000 in
set_option maxHeartbeats 4000000 in
theorem copyR7 {y0 y2 y3 y4 y5 y6 y7 y8 y9 y10 y11 y12 y13 y14 y15 y16 y17 y18 y19 y20 y21 y22 y23 y34 y35 y36 y37 y38 y39 y40 y41 y42 y43 y44 y45 y46 y47 y48 z24 z25 z26 z27 z28 z29 z30 z31 z32 z33 : Value} {gs N : Nat} (s : St) (q1 o2 o3 o4 o5 o6 o7 : Option Addr) (e1 c2 c3 c4 c5 c6 c7 : Nat) (v0 : Value) {w : World} (hN : N ≤ w.heap.size) (hrs : Hid (Row w gs 28 [.string s.name, .int .i64 s.height, .int .i64 s.time, .slice q1 s.clients.length e1, .slice o2 s.conns.length c2, .slice o3 s.chans.length c3, .slice o4 s.sent.length c4, .slice o5 s.got.length c5, .slice o6 s.acks.length c6, .slice o7 s.purses.length c7])) (hm : Hid (StMem w N s v0 (.slice o2 s.conns.length c2) (.slice o3 s.chans.length c3) (.slice o4 s.sent.length c4) (.slice o5 s.got.length c5) (.slice o6 s.acks.length c6) (.slice o7 s.purses.length c7))) (hfew : few s) (Q : Exit → Act → World → Prop)
    (hQ : Hid (∀ (σ : Nat → Value) (v2 v3 v7 : Value) (w2 : World), Below w.heap.size w w2 → RowT 81 4 w2 w.heap.size v2 (s.conns.map cnCells) → RowT 83 7 w2 w.heap.size v3 (s.chans.map chCells) → RowT 85 3 w2 w.heap.size v7 (s.purses.map puCells) → Q .normal ⟨#[y0, .pointer (some ⟨gs, 0, none⟩), y2, y3, y4, y5, y6, y7, y8, y9, y10, y11, y12, y13, y14, y15, y16, y17, y18, y19, y20, y21, y22, y23, σ 0, σ 1, v2, σ 3, σ 4, v3, σ 6, σ 7, v7, .pointer (some ⟨gs, 4, none⟩), .pointer (some ⟨gs, 5, none⟩), .pointer (some ⟨gs, 9, none⟩), y36, y37, y38, y39, y40, y41, y42, y43, y44, y45, y46, y47, y48], []⟩ (((w2.setCell ⟨gs, 4, none⟩ v2).setCell ⟨gs, 5, none⟩ v3).setCell ⟨gs, 9, none⟩ v7))) :
    Code.wp Tryz.prog (.region 7 ((Tryz.f19.body.bind (regOf 7)).getD #[]) true) Q ⟨#[y0, .pointer (some ⟨gs, 0, none⟩), y2, y3, y4, y5, y6, y7, y8, y9, y10, y11, y12, y13, y14, y15, y16, y17, y18, y19, y20, y21, y22, y23, z24, z25, z26, z27, z28, z29, z30, z31, z32, z33, y34, y35, y36, y37, y38, y39, y40, y41, y42, y43, y44, y45, y46, y47, y48], []⟩ w := by
  conv => arg 2; arg 2; whnf
  conv => arg 4; dsimp only
  unfold few at hfew
  refine region_grows_tail 10 (by kernel_rfl) (fun σ => #[y0, .pointer (some ⟨gs, 0, none⟩), y2, y3, y4, y5, y6, y7, y8, y9, y10, y11, y12, y13, y14, y15, y16, y17, y18, y19, y20, y21, y22, y23, σ 0, σ 1, σ 2, σ 3, σ 4, σ 5, σ 6, σ 7, σ 8, σ 9, y34, y35, y36, y37, y38, y39, y40, y41, y42, y43, y44, y45, y46, y47, y48]) (fun i => ([z24, z25, z26, z27, z28, z29, z30, z31, z32, z33] : List Value).getD i undef) rfl (fun i X W => match i with
    | 0 => X = .pointer (some ⟨gs, 4, none⟩)
    | 1 => X = .slice o2 s.conns.length c2
    | 2 => RowT 81 4 W w.heap.size X (s.conns.map cnCells)
    | 3 => X = .pointer (some ⟨gs, 5, none⟩)
    | 4 => X = .slice o3 s.chans.length c3
    | 5 => RowT 83 7 W w.heap.size X (s.chans.map chCells)
    | 6 => X = .pointer (some ⟨gs, 9, none⟩)
    | 7 => X = .slice o7 s.purses.length c7
    | 8 => RowT 85 3 W w.heap.size X (s.purses.map puCells)
    | 9 => X = .pointer (some ⟨gs, 4, none⟩)
    | _ => True) ?_ (by kernel_rfl) ?_ ?_
  · intro i X W W' HB H
    match i, H with
    | 0, H => exact H
    | 1, H => exact H
    | 2, H => exact (H.below HB)
    | 3, H => exact H
    | 4, H => exact H
    | 5, H => exact (H.below HB)
    | 6, H => exact H
    | 7, H => exact H
    | 8, H => exact (H.below HB)
    | 9, H => exact H
    | _ + 10, _ => exact trivial
  · refine ⟨?_, ?_, ?_, ?_, ?_, ?_, ?_, ?_, ?_, ?_, trivial⟩
    · -- 0: Op.fieldAddr 28 t1 4
      intro σ W HJ hdep
      simp [Region.binds] at hdep
      have HJ := hid HJ
      refine wpOp_plain rfl rfl ?_
      go_simp
      exact Left.mk0 (.pointer (some ⟨gs, 4, none⟩)) (by first | rfl | simp [updF, *]) HJ.out rfl
    · -- 1: Op.load 23 t24
      intro σ W HJ hdep
      simp [Region.binds] at hdep
      have HJ := hid HJ
      have kc := (hrs.out.below HJ.out hrs.out.lt).cell 4
      simp at kc
      refine wpOp_plain rfl rfl ?_
      go_simp
      exact Left.mk0 (.slice o2 s.conns.length c2) (by first | rfl | simp [updF, *]) HJ.out rfl
    · -- 2: Op.call { value (Operand.func 133), args := #[t25], argTypes
      intro σ W HJ hdep
      simp [Region.binds] at hdep
      have HJ := hid HJ
      have HC := hid (cloneCn (s.conns.map cnCells) (.slice o2 s.conns.length c2) N W (many_cells (hm.out.below (HJ.out.mono hN)).conns) (Nat.le_trans hN HJ.out.size) cnCells_ok (by rw [List.length_map]; omega))
      refine wpOp_plain rfl rfl ?_
      go_simp
      refine HC.out.mono ?_
      rintro e w2 ⟨hb2, v', rfl, hrow⟩
      exact Left.mk v' (by first | rfl | simp [updF, *]) hb2 HJ.out (hrow.mono HJ.out.size)
    · -- 3: Op.fieldAddr 28 t1 5
      intro σ W HJ hdep
      simp [Region.binds] at hdep
      have HJ := hid HJ
      refine wpOp_plain rfl rfl ?_
      go_simp
      exact Left.mk0 (.pointer (some ⟨gs, 5, none⟩)) (by first | rfl | simp [updF, *]) HJ.out rfl
    · -- 4: Op.load 24 t27
      intro σ W HJ hdep
      simp [Region.binds] at hdep
      have HJ := hid HJ
      have kc := (hrs.out.below HJ.out hrs.out.lt).cell 5
      simp at kc
      refine wpOp_plain rfl rfl ?_
      go_simp
      exact Left.mk0 (.slice o3 s.chans.length c3) (by first | rfl | simp [updF, *]) HJ.out rfl
    · -- 5: Op.call { value (Operand.func 134), args := #[t28], argTypes
      intro σ W HJ hdep
      simp [Region.binds] at hdep
      have HJ := hid HJ
      have HC := hid (cloneCh (s.chans.map chCells) (.slice o3 s.chans.length c3) N W (many_cells (hm.out.below (HJ.out.mono hN)).chans) (Nat.le_trans hN HJ.out.size) chCells_ok (by rw [List.length_map]; omega))
      refine wpOp_plain rfl rfl ?_
      go_simp
      refine HC.out.mono ?_
      rintro e w2 ⟨hb2, v', rfl, hrow⟩
      exact Left.mk v' (by first | rfl | simp [updF, *]) hb2 HJ.out (hrow.mono HJ.out.size)
    · -- 6: Op.fieldAddr 28 t1 9
      intro σ W HJ hdep
      simp [Region.binds] at hdep
      have HJ := hid HJ
      refine wpOp_plain rfl rfl ?_
      go_simp
      exact Left.mk0 (.pointer (some ⟨gs, 9, none⟩)) (by first | rfl | simp [updF, *]) HJ.out rfl
    · -- 7: Op.load 26 t30
      intro σ W HJ hdep
      simp [Region.binds] at hdep
      have HJ := hid HJ
      have kc := (hrs.out.below HJ.out hrs.out.lt).cell 9
      simp at kc
      refine wpOp_plain rfl rfl ?_
      go_simp
      exact Left.mk0 (.slice o7 s.purses.length c7) (by first | rfl | simp [updF, *]) HJ.out rfl
    · -- 8: Op.call { value (Operand.func 135), args := #[t31], argTypes
      intro σ W HJ hdep
      simp [Region.binds] at hdep
      have HJ := hid HJ
      have HC := hid (clonePu (s.purses.map puCells) (.slice o7 s.purses.length c7) N W (many_cells (hm.out.below (HJ.out.mono hN)).purses) (Nat.le_trans hN HJ.out.size) puCells_ok (by rw [List.length_map]; omega))
      refine wpOp_plain rfl rfl ?_
      go_simp
      refine HC.out.mono ?_
      rintro e w2 ⟨hb2, v', rfl, hrow⟩
      exact Left.mk v' (by first | rfl | simp [updF, *]) hb2 HJ.out (hrow.mono HJ.out.size)
    · -- 9: Op.fieldAddr 28 t1 4
      intro σ W HJ hdep
      simp [Region.binds] at hdep
      have HJ := hid HJ
      refine wpOp_plain rfl rfl ?_
      go_simp
      exact Left.mk0 (.pointer (some ⟨gs, 4, none⟩)) (by first | rfl | simp [updF, *]) HJ.out rfl
  · intro σ W hj hg
    have HJ := hid hj
    clear hj
    simp only [List.drop_succ_cons, List.drop_zero]
    have r2 : RowT 81 4 W w.heap.size (σ 2) (s.conns.map cnCells) := hg 2 (by decide)
    obtain ⟨oc2, cc2, e2, -⟩ := r2.shape
    have R2 := hid r2
    rw [e2] at R2
    clear r2
    generalize (s.conns.map cnCells).length = nn2 at *
    have r5 : RowT 83 7 W w.heap.size (σ 5) (s.chans.map chCells) := hg 5 (by decide)
    obtain ⟨oc5, cc5, e5, -⟩ := r5.shape
    have R5 := hid r5
    rw [e5] at R5
    clear r5
    generalize (s.chans.map chCells).length = nn5 at *
    have r8 : RowT 85 3 W w.heap.size (σ 8) (s.purses.map puCells) := hg 8 (by decide)
    obtain ⟨oc8, cc8, e8, -⟩ := r8.shape
    have R8 := hid r8
    rw [e8] at R8
    clear r8
    generalize (s.purses.map puCells).length = nn8 at *
    have e9 : σ 9 = .pointer (some ⟨gs, 4, none⟩) := hg 9 (by decide)
    have hr := hrs.out.below HJ.out hrs.out.lt
    have k4 : W.cell? ⟨gs, 4, none⟩ = some (.slice o2 s.conns.length c2) := hr.cell 4
    have k5 : W.cell? ⟨gs, 5, none⟩ = some (.slice o3 s.chans.length c3) := hr.cell 5
    have k9 : W.cell? ⟨gs, 9, none⟩ = some (.slice o7 s.purses.length c7) := hr.cell 9
    have z4 : W.frozen? ⟨gs, 4, none⟩ = false := hr.frozen 4
    have z5 : W.frozen? ⟨gs, 5, none⟩ = false := hr.frozen 5
    have z9 : W.frozen? ⟨gs, 9, none⟩ = false := hr.frozen 9
    have HJ2 := HJ
    clear hg hr
    rw [e2, e5, e8, e9]
    clear e2 e5 e8 e9
    go_wp2
    exact hQ.out σ _ _ _ W HJ2.out R2.out R5.out R8.out
set_option maxRecDepth 100000 in
set_option maxHeartbeats 4000000 in
theorem copyR8 {y0 y2 y3 y4 y5 y6 y7 y8 y9 y10 y11 y12 y13 y14 y15 y16 y17 y18 y19 y20 y21 y22 y23 y24 y25 y26 y27 y28 y29 y30 y31 y32 y33 y34 y35 y46 y47 y48 z36 z37 z38 z39 z40 z41 z42 z43 z44 z45 : Value} {gs N : Nat} (s : St) (q1 q2 q3 q7 o4 o5 o6 : Option Addr) (e1 n2 e2 n3 e3 n7 e7 c4 c5 c6 : Nat) (u1 u2 u3 u7 : Value) {w : World} (hN : N ≤ w.heap.size) (hrs : Hid (Row w gs 28 [.string s.name, .int .i64 s.height, .int .i64 s.time, .slice q1 s.clients.length e1, .slice q2 n2 e2, .slice q3 n3 e3, .slice o4 s.sent.length c4, .slice o5 s.got.length c5, .slice o6 s.acks.length c6, .slice q7 n7 e7])) (hm : Hid (StMem w N s u1 u2 u3 (.slice o4 s.sent.length c4) (.slice o5 s.got.length c5) (.slice o6 s.acks.length c6) u7)) (hfew : few s) (hfit : Hid (MarksFit s)) (Q : Exit → Act → World → Prop)
    (hQ : Hid (∀ (σ : Nat → Value) (p4 p5 p6 : Option Addr) (d4 d5 d6 : Nat) (w2 : World), Below w.heap.size w w2 → MarksO N w.heap.size w2 s (.slice p4 s.sent.length d4) (.slice p5 s.got.length d5) (.slice p6 s.acks.length d6) → Q .normal ⟨#[y0, .pointer (some ⟨gs, 0, none⟩), y2, y3, y4, y5, y6, y7, y8, y9, y10, y11, y12, y13, y14, y15, y16, y17, y18, y19, y20, y21, y22, y23, y24, y25, y26, y27, y28, y29, y30, y31, y32, y33, y34, y35, σ 0, σ 1, .slice p4 s.sent.length d4, σ 3, σ 4, .slice p5 s.got.length d5, σ 6, σ 7, .slice p6 s.acks.length d6, .pointer (some ⟨gs, 6, none⟩), .pointer (some ⟨gs, 7, none⟩), .pointer (some ⟨gs, 8, none⟩), y48], []⟩ (((w2.setCell ⟨gs, 6, none⟩ (.slice p4 s.sent.length d4)).setCell ⟨gs, 7, none⟩ (.slice p5 s.got.length d5)).setCell ⟨gs, 8, none⟩ (.slice p6 s.acks.length d6)))) :
    Code.wp Tryz.prog (.region 8 ((Tryz.f19.body.bind (regOf 8)).getD #[]) true) Q ⟨#[y0, .pointer (some ⟨gs, 0, none⟩), y2, y3, y4, y5, y6, y7, y8, y9, y10, y11, y12, y13, y14, y15, y16, y17, y18, y19, y20, y21, y22, y23, y24, y25, y26, y27, y28, y29, y30, y31, y32, y33, y34, y35, z36, z37, z38, z39, z40, z41, z42, z43, z44, z45, y46, y47, y48], []⟩ w := by
  conv => arg 2; arg 2; whnf
  conv => arg 4; dsimp only
  unfold few at hfew
  refine region_ivals_tail 10 (by kernel_rfl) (fun σ => #[y0, .pointer (some ⟨gs, 0, none⟩), y2, y3, y4, y5, y6, y7, y8, y9, y10, y11, y12, y13, y14, y15, y16, y17, y18, y19, y20, y21, y22, y23, y24, y25, y26, y27, y28, y29, y30, y31, y32, y33, y34, y35, σ 0, σ 1, σ 2, σ 3, σ 4, σ 5, σ 6, σ 7, σ 8, σ 9, y46, y47, y48]) (fun i => ([z36, z37, z38, z39, z40, z41, z42, z43, z44, z45] : List Value).getD i undef) rfl (fun i lo hi X W => match i with
    | 0 => X = .pointer (some ⟨gs, 6, none⟩)
    | 1 => X = .slice o4 s.sent.length c4
    | 2 => MkI N lo hi W X s.sent
    | 3 => X = .pointer (some ⟨gs, 7, none⟩)
    | 4 => X = .slice o5 s.got.length c5
    | 5 => MkI N lo hi W X s.got
    | 6 => X = .pointer (some ⟨gs, 8, none⟩)
    | 7 => X = .slice o6 s.acks.length c6
    | 8 => MkI N lo hi W X s.acks
    | 9 => X = .pointer (some ⟨gs, 6, none⟩)
    | _ => True) ?_ (by kernel_rfl) ?_ ?_
  · intro i lo hi X W W' HB H
    match i, H with
    | 0, H => exact H
    | 1, H => exact H
    | 2, H => exact H.below HB
    | 3, H => exact H
    | 4, H => exact H
    | 5, H => exact H.below HB
    | 6, H => exact H
    | 7, H => exact H
    | 8, H => exact H.below HB
    | 9, H => exact H
    | _ + 10, _ => exact trivial
  · refine ⟨?_, ?_, ?_, ?_, ?_, ?_, ?_, ?_, ?_, ?_, trivial⟩
    · -- 0: Op.fieldAddr 28 t1 6
      intro σ W HJ hdep
      simp [Region.binds] at hdep
      have HJ := hid HJ
      refine wpOp_plain rfl rfl ?_
      go_simp
      exact LeftI.mk0 (.pointer (some ⟨gs, 6, none⟩)) (by first | rfl | simp [updF, *]) rfl
    · -- 1: Op.load 25 t36
      intro σ W HJ hdep
      simp [Region.binds] at hdep
      have HJ := hid HJ
      have kc := (hrs.out.below HJ.out hrs.out.lt).cell 6
      simp at kc
      refine wpOp_plain rfl rfl ?_
      go_simp
      exact LeftI.mk0 (.slice o4 s.sent.length c4) (by first | rfl | simp [updF, *]) rfl
    · -- 2: Op.call { value (Operand.func 136), args := #[t37], argTypes
      intro σ W HJ hdep
      simp [Region.binds] at hdep
      have HJ := hid HJ
      have HC := hid (copiedMarks_any s.sent (.slice o4 s.sent.length c4) N W (hm.out.below (HJ.out.mono hN)).sent (Nat.le_trans hN HJ.out.size) (by omega) hfit.out.sent)
      refine wpOp_plain rfl rfl ?_
      go_simp
      refine HC.out.mono ?_
      rintro e w2 ⟨hb2, v', rfl, hh⟩
      exact LeftI.mk v' (by first | rfl | simp [updF, *]) hb2 (hh.marks (Nat.le_trans hN (Nat.le_trans HJ.out.size hb2.size)))
    · -- 3: Op.fieldAddr 28 t1 7
      intro σ W HJ hdep
      simp [Region.binds] at hdep
      have HJ := hid HJ
      refine wpOp_plain rfl rfl ?_
      go_simp
      exact LeftI.mk0 (.pointer (some ⟨gs, 7, none⟩)) (by first | rfl | simp [updF, *]) rfl
    · -- 4: Op.load 25 t39
      intro σ W HJ hdep
      simp [Region.binds] at hdep
      have HJ := hid HJ
      have kc := (hrs.out.below HJ.out hrs.out.lt).cell 7
      simp at kc
      refine wpOp_plain rfl rfl ?_
      go_simp
      exact LeftI.mk0 (.slice o5 s.got.length c5) (by first | rfl | simp [updF, *]) rfl
    · -- 5: Op.call { value (Operand.func 136), args := #[t40], argTypes
      intro σ W HJ hdep
      simp [Region.binds] at hdep
      have HJ := hid HJ
      have HC := hid (copiedMarks_any s.got (.slice o5 s.got.length c5) N W (hm.out.below (HJ.out.mono hN)).got (Nat.le_trans hN HJ.out.size) (by omega) hfit.out.got)
      refine wpOp_plain rfl rfl ?_
      go_simp
      refine HC.out.mono ?_
      rintro e w2 ⟨hb2, v', rfl, hh⟩
      exact LeftI.mk v' (by first | rfl | simp [updF, *]) hb2 (hh.marks (Nat.le_trans hN (Nat.le_trans HJ.out.size hb2.size)))
    · -- 6: Op.fieldAddr 28 t1 8
      intro σ W HJ hdep
      simp [Region.binds] at hdep
      have HJ := hid HJ
      refine wpOp_plain rfl rfl ?_
      go_simp
      exact LeftI.mk0 (.pointer (some ⟨gs, 8, none⟩)) (by first | rfl | simp [updF, *]) rfl
    · -- 7: Op.load 25 t42
      intro σ W HJ hdep
      simp [Region.binds] at hdep
      have HJ := hid HJ
      have kc := (hrs.out.below HJ.out hrs.out.lt).cell 8
      simp at kc
      refine wpOp_plain rfl rfl ?_
      go_simp
      exact LeftI.mk0 (.slice o6 s.acks.length c6) (by first | rfl | simp [updF, *]) rfl
    · -- 8: Op.call { value (Operand.func 136), args := #[t43], argTypes
      intro σ W HJ hdep
      simp [Region.binds] at hdep
      have HJ := hid HJ
      have HC := hid (copiedMarks_any s.acks (.slice o6 s.acks.length c6) N W (hm.out.below (HJ.out.mono hN)).acks (Nat.le_trans hN HJ.out.size) (by omega) hfit.out.acks)
      refine wpOp_plain rfl rfl ?_
      go_simp
      refine HC.out.mono ?_
      rintro e w2 ⟨hb2, v', rfl, hh⟩
      exact LeftI.mk v' (by first | rfl | simp [updF, *]) hb2 (hh.marks (Nat.le_trans hN (Nat.le_trans HJ.out.size hb2.size)))
    · -- 9: Op.fieldAddr 28 t1 6
      intro σ W HJ hdep
      simp [Region.binds] at hdep
      have HJ := hid HJ
      refine wpOp_plain rfl rfl ?_
      go_simp
      exact LeftI.mk0 (.pointer (some ⟨gs, 6, none⟩)) (by first | rfl | simp [updF, *]) rfl
  · intro σ lo hi W hj hg
    have HJ := hid hj
    clear hj
    simp only [List.drop_succ_cons, List.drop_zero]
    have r2 : MkI N (lo 2) (hi 2) W (σ 2) s.sent := (hg.1 2 (by decide)).1
    obtain ⟨oc2, cc2, e2⟩ := r2.shape
    have R2 := hid r2
    rw [e2] at R2
    clear r2
    have r5 : MkI N (lo 5) (hi 5) W (σ 5) s.got := (hg.1 5 (by decide)).1
    obtain ⟨oc5, cc5, e5⟩ := r5.shape
    have R5 := hid r5
    rw [e5] at R5
    clear r5
    have r8 : MkI N (lo 8) (hi 8) W (σ 8) s.acks := (hg.1 8 (by decide)).1
    obtain ⟨oc8, cc8, e8⟩ := r8.shape
    have R8 := hid r8
    rw [e8] at R8
    clear r8
    have e9 : σ 9 = .pointer (some ⟨gs, 6, none⟩) := (hg.1 9 (by decide)).1
    have q2 := (hg.1 2 (by decide)).2
    have q5 := (hg.1 5 (by decide)).2
    have q8 := (hg.1 8 (by decide)).2
    have HMO := hid (MarksO.of (base := w.heap.size) R2.out R5.out R8.out hN ⟨⟨q2.1, q2.2.2⟩, ⟨q5.1, q5.2.2⟩, ⟨q8.1, q8.2.2⟩⟩ (Nat.le_trans hN HJ.out.size) (hg.2 2 5 (by decide) (by decide) (by decide)) (hg.2 2 8 (by decide) (by decide) (by decide)) (hg.2 5 8 (by decide) (by decide) (by decide)))
    clear q2 q5 q8 R2 R5 R8
    have hr := hrs.out.below HJ.out hrs.out.lt
    have k6 : W.cell? ⟨gs, 6, none⟩ = some (.slice o4 s.sent.length c4) := hr.cell 6
    have k7 : W.cell? ⟨gs, 7, none⟩ = some (.slice o5 s.got.length c5) := hr.cell 7
    have k8 : W.cell? ⟨gs, 8, none⟩ = some (.slice o6 s.acks.length c6) := hr.cell 8
    have z6 : W.frozen? ⟨gs, 6, none⟩ = false := hr.frozen 6
    have z7 : W.frozen? ⟨gs, 7, none⟩ = false := hr.frozen 7
    have z8 : W.frozen? ⟨gs, 8, none⟩ = false := hr.frozen 8
    have HJ2 := HJ
    clear hg hr
    rw [e2, e5, e8, e9]
    clear e2 e5 e8 e9
    go_wp2
    exact hQ.out σ _ _ _ _ _ _ W HJ2.out HMO.out
end Go.Proofs.YtbjlfhabnjpdmaaGreatDoor
