/-
  What comes of the steps of a connection.
-/
import Derived.Test.YtclhcjiblfokaaaGreatDoorppRegions
import Derived.Test.YtclhcjiblfokaaaGreatDoorppStCopyM
import Derived.Test.YtclhcjiblfokaaaGreatDoorppStSlots
import Derived.Test.YtclhcjiblfokaaaGreatDoorppClShown
import Derived.Laws.CopyOwn
namespace Go.Proofs.YtclhcjiblfokaaaGreatDoor
open Go.RowKit

section
variable (P : Program) (ops : Array Oper) (Q : Exit → Act → World → Prop) (fr : (Nat → Value) → Array Value) (G : Nat → Nat → Nat → Value → World → Prop) (w0 : World)
/-- what an operation leaves: its value in its slot, and the memory that it made -/
def LeftI (i : Nat) (σ : Nat → Value) (w : World) (a' : Act) (w' : World) : Prop := ∃ v, a' = ⟨fr (updF σ i v), []⟩ ∧ Below w.heap.size w w' ∧ G i w.heap.size w'.heap.size v w'
def StepI : Nat → List Oper → Prop
  | _, [] => True
  | i, o :: l => (∀ (σ : Nat → Value) (w : World), Below w0.heap.size w0 w → (∀ e ∈ o.after, Region.binds .any e = true → ∃ lo hi, G e.on lo hi (σ e.on) w) → wpOp P ops Q i (LeftI fr G i σ w) ⟨fr σ, []⟩ w) ∧ StepI (i + 1) l
end
theorem StepI.get {P : Program} {ops : Array Oper} {Q : Exit → Act → World → Prop} {fr : (Nat → Value) → Array Value} {G : Nat → Nat → Nat → Value → World → Prop} {w0 : World} :
    ∀ (l : List Oper) (k i : Nat) (o : Oper), StepI P ops Q fr G w0 k l → l[i]? = some o → ∀ (σ : Nat → Value) (w : World), Below w0.heap.size w0 w → (∀ e ∈ o.after, Region.binds .any e = true → ∃ lo hi, G e.on lo hi (σ e.on) w) → wpOp P ops Q (k + i) (LeftI fr G (k + i) σ w) ⟨fr σ, []⟩ w
  | [], _, _, _, _, h => by simp at h
  | x :: l, k, i, o, hs, h => by
    cases i with
    | zero =>
      obtain rfl : x = o := by simpa using h
      exact hs.1
    | succ i =>
      have := StepI.get l (k + 1) i o hs.2 (by simpa using h)
      rw [show k + (i + 1) = k + 1 + i by omega]
      exact this
theorem LeftI.mk {fr : (Nat → Value) → Array Value} {G : Nat → Nat → Nat → Value → World → Prop} {i : Nat} {σ : Nat → Value} {w w' : World} {a' : Act} (v : Value) (ha : a' = ⟨fr (updF σ i v), []⟩) (hb : Below w.heap.size w w') (hg : G i w.heap.size w'.heap.size v w') : LeftI fr G i σ w a' w' := ⟨v, ha, hb, hg⟩
theorem LeftI.mk0 {fr : (Nat → Value) → Array Value} {G : Nat → Nat → Nat → Value → World → Prop} {i : Nat} {σ : Nat → Value} {w : World} {a' : Act} (v : Value) (ha : a' = ⟨fr (updF σ i v), []⟩) (hg : G i w.heap.size w.heap.size v w) : LeftI fr G i σ w a' w := ⟨v, ha, Below.refl _ _, hg⟩
def updN (f : Nat → Nat) (i n : Nat) : Nat → Nat := fun j => if j = i then n else f j
/-- what has come up: each in its interval, these apart -/
def Ivals (G : Nat → Nat → Nat → Value → World → Prop) (w0 : World) (up : Nat → Prop) (σ : Nat → Value) (lo hi : Nat → Nat) (w : World) : Prop :=
  (∀ i, up i → G i (lo i) (hi i) (σ i) w ∧ w0.heap.size ≤ lo i ∧ lo i ≤ hi i ∧ hi i ≤ w.heap.size) ∧ ∀ i j, up i → up j → i ≠ j → hi i ≤ lo j ∨ hi j ≤ lo i
theorem Ivals.next {G : Nat → Nat → Nat → Value → World → Prop} {w0 w w' : World} {up up' : Nat → Prop} {σ : Nat → Value} {lo hi : Nat → Nat} (hstab : ∀ i lo hi v w w', Below w.heap.size w w' → G i lo hi v w → G i lo hi v w') (h : Ivals G w0 up σ lo hi w) {i : Nat} {v : Value} (hb : Below w.heap.size w w') (h0 : w0.heap.size ≤ w.heap.size) (hg : G i w.heap.size w'.heap.size v w') (hup : ∀ j, up' j → j = i ∨ up j) :
    Ivals G w0 up' (updF σ i v) (updN lo i w.heap.size) (updN hi i w'.heap.size) w' := by
  obtain ⟨h1, h2⟩ := h
  refine ⟨fun j hj => ?_, fun j k hj hk hne => ?_⟩
  · by_cases e : j = i
    · subst e
      simp only [updF, updN, if_true]
      exact ⟨hg, h0, hb.size, Nat.le_refl _⟩
    · simp only [updF, updN, if_neg e]
      obtain ⟨g1, g2, g3, g4⟩ := h1 j ((hup j hj).resolve_left e)
      exact ⟨hstab j _ _ _ w w' hb g1, g2, g3, Nat.le_trans g4 hb.size⟩
  · by_cases e : j = i
    · subst e
      have ek : k ≠ j := fun h => hne h.symm
      simp only [updN, if_true, if_neg ek]
      exact .inr (h1 k ((hup k hk).resolve_left ek)).2.2.2
    · by_cases ek : k = i
      · subst ek
        simp only [updN, if_true, if_neg e]
        exact .inl (h1 j ((hup j hj).resolve_left e)).2.2.2
      · simp only [updN, if_neg e, if_neg ek]
        exact h2 j k ((hup j hj).resolve_left e) ((hup k hk).resolve_left ek) hne
theorem region_ivals_tail {P : Program} {id : Nat} {Q : Exit → Act → World → Prop} {w : World} {l : List Oper} {a0 : Act} (n : Nat) (hm : P.follows .mixedOrders = true) (fr : (Nat → Value) → Array Value) (σ0 : Nat → Value) (h0 : a0 = ⟨fr σ0, []⟩)
    (G : Nat → Nat → Nat → Value → World → Prop) (hstab : ∀ i lo hi v w w', Below w.heap.size w w' → G i lo hi v w → G i lo hi v w') (hB : tailB l n = true)
    (hstep : StepI P l.toArray Q fr G w 0 (l.take n))
    (hend : ∀ (σ : Nat → Value) (lo hi : Nat → Nat) (w' : World), Below w.heap.size w w' → Ivals G w (fun i => i < n) σ lo hi w' → wpList P l.toArray Q (l.drop n) ⟨fr σ, []⟩ w') : (Code.region id l.toArray true).wp P Q a0 w := by
  subst h0
  simp only [tailB, Bool.and_eq_true, decide_eq_true_eq] at hB
  obtain ⟨hn, hs, hc, hah, hseq⟩ := hB
  refine wp_region_any hm ?_
  have hsz : l.toArray.size = l.length := by simp
  have inv0 : HeadInv .any l.toArray n (Array.replicate l.toArray.size false) :=
    ⟨by simp, fun j oj _ hx => (by rw [getD_replicate_false] at hx; cases hx), fun t _ ht => getD_in (by simpa using ht) (getD_replicate_false _ _)⟩
  have K := any_head (P := P) (Q := Q) (n := n) (fun s a w' => ∃ (σ : Nat → Value) (lo hi : Nat → Nat), s.size = l.length ∧ a = ⟨fr σ, []⟩ ∧ Below w.heap.size w w' ∧ Ivals G w (fun i => i < n ∧ s.getD i false = true) σ lo hi w') hs hc hn
    (fun i o ho e he hb => by have := aheadOps_get l 0 i o hah (by simpa using ho) e he hb; omega)
    (by
      rintro s a w' ⟨σ, lo, hi, hss, rfl, hj, hg⟩ i hir hin
      obtain ⟨hun, o, ho, hdep⟩ := mem_ready.1 hir
      have ho' : l[i]? = some o := by simpa using ho
      have ho2 : (l.take n)[i]? = some o := by rw [List.getElem?_take, if_pos hin]; exact ho'
      have hah' := aheadOps_get l 0 i o hah ho'
      have hst := StepI.get (l.take n) 0 i o hstep ho2 σ w' hj (fun e he hb => ⟨lo e.on, hi e.on, (hg.1 _ ⟨by have := hah' e he hb; omega, hdep e he hb⟩).1⟩)
      rw [Nat.zero_add] at hst
      refine wpOp_mono ?_ hst
      rintro a2 w2 ⟨v, rfl, hr, hgv⟩
      refine ⟨updF σ i v, updN lo i w'.heap.size, updN hi i w2.heap.size, by simpa using hss, rfl, hj.trans (hr.mono hj.size), hg.next hstab hr hj.size hgv fun j hjt => ?_⟩
      by_cases e : j = i
      · exact .inl e
      · refine .inr ⟨hjt.1, ?_⟩
        have := hjt.2
        rw [getD_set_ne false (Ne.symm e)] at this
        exact this)
    (by
      rintro s a w' hi ⟨σ, lo, hii, hss, rfl, hj, hg⟩ hall
      have he : s = (List.replicate n true ++ List.replicate (l.toArray.size - n) false).toArray := by
        apply Array.ext
        · simp; omega
        · intro i h1 h2
          by_cases hin : i < n
          · have h3 := hall i hin
            simp [Array.getD, h1] at h3
            rw [h3]
            simp [hin]
          · have h3 := hi.tail i (by omega) (by omega)
            simp [Array.getD, h1] at h3
            rw [h3]
            simp [List.getElem_append, hin]
      have hdl : (l.drop n).length = l.toArray.size - n := by simp
      have up : ∀ i, i < n → i < n ∧ s.getD i false = true := fun i hin => ⟨hin, by
        have h3 := hall i hin
        have hlt : i < s.size := by omega
        simp [hlt] at h3 ⊢
        exact h3⟩
      have hw := hend σ lo hii w' hj ⟨fun i hin => hg.1 i (up i hin), fun i j h1 h2 hne => hg.2 i j (up i h1) (up j h2) hne⟩
      have := wpAny_of_seq (md := .any) (Q' := Q) (l.drop n) n s ⟨fr σ, []⟩ w' (fun j => by simp [List.getElem?_drop]) (by rw [hdl, he]; exact hseq) hw
      rwa [hdl] at this)
    n (Array.replicate l.toArray.size false) ⟨fr σ0, []⟩ w.drew (by simp [leftB]; omega) inv0 ⟨σ0, fun _ => 0, fun _ => 0, by simp, rfl, (Below.refl _ _).drew, fun i hi => (by have h := hi.2; rw [getD_replicate_false] at h; cases h), fun i j hi => (by have h := hi.2; rw [getD_replicate_false] at h; cases h)⟩
  rwa [show n + (l.toArray.size - n) = l.toArray.size by omega] at K
end Go.Proofs.YtclhcjiblfokaaaGreatDoor
namespace Go.Proofs.YtclhcjiblfokaaaGreatDoor
open Go.RowKit

/-- a few of each -/
def few (s : St) : Prop := s.clients.length ≤ 100 ∧ s.conns.length ≤ 100 ∧ s.chans.length ≤ 100 ∧ s.sent.length ≤ 100 ∧ s.got.length ≤ 100 ∧ s.acks.length ≤ 100 ∧ s.purses.length ≤ 100 ∧ ∀ c ∈ s.clients, c.known.length ≤ 1000
structure MarksFit (s : St) : Prop where
  sent : ∀ m ∈ s.sent, m.fits
  got : ∀ m ∈ s.got, m.fits
  acks : ∀ m ∈ s.acks, m.fits
theorem cnCells_ok {l : List Cn} : ∀ r ∈ l.map cnCells, r.length = 4 ∧ ∀ x ∈ r, x.oneCell' = true := fun r hr => by
  obtain ⟨c, _, rfl⟩ := List.mem_map.1 hr
  refine ⟨rfl, fun x hx => ?_⟩
  simp [cnCells] at hx
  rcases hx with rfl | rfl | rfl | rfl <;> rfl
theorem chCells_ok {l : List Ch} : ∀ r ∈ l.map chCells, r.length = 7 ∧ ∀ x ∈ r, x.oneCell' = true := fun r hr => by
  obtain ⟨c, _, rfl⟩ := List.mem_map.1 hr
  refine ⟨rfl, fun x hx => ?_⟩
  simp [chCells] at hx
  rcases hx with rfl | rfl | rfl | rfl | rfl | rfl | rfl <;> rfl
theorem puCells_ok {l : List Pu} : ∀ r ∈ l.map puCells, r.length = 3 ∧ ∀ x ∈ r, x.oneCell' = true := fun r hr => by
  obtain ⟨c, _, rfl⟩ := List.mem_map.1 hr
  refine ⟨rfl, fun x hx => ?_⟩
  simp [puCells] at hx
  rcases hx with rfl | rfl | rfl <;> rfl
set_option maxRecDepth 100000 in
set_option maxHeartbeats 4000000 in
theorem copyR5 {y0 y2 y5 y6 y7 y8 y9 y10 y11 y12 y13 y14 y15 y16 y23 y24 y25 y26 y27 y28 y29 y30 y31 y32 y33 y34 y35 y36 y37 y38 y39 y40 y41 y42 y43 y44 y45 y46 y47 y48 z17 z18 z19 z20 z21 z22 : Value} {gs gc N : Nat} (s : St) (x : Cl) (k n g ca ma : Nat) (ka : Option Addr) (o2 o3 o4 o5 o6 o7 : Option Addr) (c2 c3 c4 c5 c6 c7 : Nat) {w : World} (hN : N ≤ w.heap.size) (hrs : Hid (Row w gs 28 [.string s.name, .int .i64 s.height, .int .i64 s.time, .slice (some ⟨g, 0, none⟩) n ca, .slice o2 s.conns.length c2, .slice o3 s.chans.length c3, .slice o4 s.sent.length c4, .slice o5 s.got.length c5, .slice o6 s.acks.length c6, .slice o7 s.purses.length c7])) (hrc : Hid (Row w gc 79 [.string x.chain, .int .i64 x.trust, .bool x.frozen, .slice ka x.known.length ma])) (_hlt : (k : Int) < (n : Int)) (hgl : g < w.heap.size) (hcg : Hid (w.cell? ⟨g, k * 4, none⟩ = some (.string x.chain) ∧ w.cell? ⟨g, k * 4 + 1, none⟩ = some (.int .i64 x.trust) ∧ w.cell? ⟨g, k * 4 + 2, none⟩ = some (.bool x.frozen) ∧ w.cell? ⟨g, k * 4 + 3, none⟩ = some (.slice ka x.known.length ma))) (hfz : Hid (∀ o, w.frozen? ⟨g, o, none⟩ = false)) (hcv : Hid (ClV w N (.agg #[.string x.chain, .int .i64 x.trust, .bool x.frozen, .slice ka x.known.length ma]) x)) (hcf : Hid x.fits) (hkn : x.known.length ≤ 1000) (Q : Exit → Act → World → Prop)
    (hQ : Hid (∀ (σ : Nat → Value) (o : Option Addr) (m : Nat) (ps : List KnR) (w2 : World), Below w.heap.size w w2 → OwnKn w2 w.heap.size (.slice o ps.length m) ps → ps.map (·.k) = x.known → Q .normal ⟨#[y0, .pointer (some ⟨gs, 0, none⟩), y2, .int .i64 (k : Int), .pointer (some ⟨gc, 0, none⟩), y5, y6, y7, y8, y9, y10, y11, y12, y13, y14, y15, y16, σ 0, σ 1, σ 2, σ 3, .agg #[.string x.chain, .int .i64 x.trust, .bool x.frozen, .slice o ps.length m], .pointer (some ⟨g, k * 4, none⟩), y23, y24, y25, y26, y27, y28, y29, y30, y31, y32, y33, y34, y35, y36, y37, y38, y39, y40, y41, y42, y43, y44, y45, y46, y47, y48], []⟩ (w2.setCells g (k * 4) [.string x.chain, .int .i64 x.trust, .bool x.frozen, .slice o ps.length m]))) :
    Code.wp Tryz.prog (.region 5 ((Tryz.f35.body.bind (regOf 5)).getD #[]) true) Q ⟨#[y0, .pointer (some ⟨gs, 0, none⟩), y2, .int .i64 (k : Int), .pointer (some ⟨gc, 0, none⟩), y5, y6, y7, y8, y9, y10, y11, y12, y13, y14, y15, y16, z17, z18, z19, z20, z21, z22, y23, y24, y25, y26, y27, y28, y29, y30, y31, y32, y33, y34, y35, y36, y37, y38, y39, y40, y41, y42, y43, y44, y45, y46, y47, y48], []⟩ w := by
  conv => arg 2; arg 2; whnf
  conv => arg 4; dsimp only
  refine region_grows_tail 6 (by kernel_rfl) (fun σ => #[y0, .pointer (some ⟨gs, 0, none⟩), y2, .int .i64 (k : Int), .pointer (some ⟨gc, 0, none⟩), y5, y6, y7, y8, y9, y10, y11, y12, y13, y14, y15, y16, σ 0, σ 1, σ 2, σ 3, σ 4, σ 5, y23, y24, y25, y26, y27, y28, y29, y30, y31, y32, y33, y34, y35, y36, y37, y38, y39, y40, y41, y42, y43, y44, y45, y46, y47, y48]) (fun i => ([z17, z18, z19, z20, z21, z22] : List Value).getD i undef) rfl (fun i X W => match i with
    | 0 => X = .pointer (some ⟨gs, 3, none⟩)
    | 1 => X = .slice (some ⟨g, 0, none⟩) n ca
    | 2 => X = .int .i64 (k : Int)
    | 3 => X = .agg #[.string x.chain, .int .i64 x.trust, .bool x.frozen, .slice ka x.known.length ma]
    | 4 => ∃ o m ps, X = .agg #[.string x.chain, .int .i64 x.trust, .bool x.frozen, .slice o ps.length m] ∧ OwnKn W w.heap.size (.slice o ps.length m) ps ∧ ps.map (·.k) = x.known
    | 5 => X = .pointer (some ⟨g, k * 4, none⟩)
    | _ => True) ?_ (by kernel_rfl) ?_ ?_
  · intro i X W W' HB H
    match i, H with
    | 0, H => exact H
    | 1, H => exact H
    | 2, H => exact H
    | 3, H => exact H
    | 4, H => exact (by obtain ⟨o, m, ps, e, ho, hp⟩ := H; exact ⟨o, m, ps, e, ho.below HB, hp⟩)
    | 5, H => exact H
    | _ + 6, _ => exact trivial
  · refine ⟨?_, ?_, ?_, ?_, ?_, ?_, trivial⟩
    · -- 0: Op.fieldAddr 28 t1 3
      intro σ W HJ hdep
      simp [Region.binds] at hdep
      have HJ := hid HJ
      refine wpOp_plain rfl rfl ?_
      go_simp
      exact Left.mk0 (.pointer (some ⟨gs, 3, none⟩)) (by first | rfl | simp [updF, *]) HJ.out rfl
    · -- 1: Op.load 22 t17
      intro σ W HJ hdep
      simp [Region.binds] at hdep
      have HJ := hid HJ
      have kc := (hrs.out.below HJ.out hrs.out.lt).cell 3
      simp at kc
      refine wpOp_plain rfl rfl ?_
      go_simp
      exact Left.mk0 (.slice (some ⟨g, 0, none⟩) n ca) (by first | rfl | simp [updF, *]) HJ.out rfl
    · -- 2: Op.move t3
      intro σ W HJ hdep
      simp [Region.binds] at hdep
      have HJ := hid HJ
      refine wpOp_plain rfl rfl ?_
      go_simp
      exact Left.mk0 (.int .i64 (k : Int)) (by first | rfl | simp [updF, *]) HJ.out rfl
    · -- 3: Op.load 62 t4
      intro σ W HJ hdep
      simp [Region.binds] at hdep
      have HJ := hid HJ
      have k0 := (hrc.out.below HJ.out hrc.out.lt).cell 0
      have k1 := (hrc.out.below HJ.out hrc.out.lt).cell 1
      have k2 := (hrc.out.below HJ.out hrc.out.lt).cell 2
      have k3 := (hrc.out.below HJ.out hrc.out.lt).cell 3
      simp at k0
      simp at k1
      simp at k2
      simp at k3
      refine wpOp_plain rfl rfl ?_
      go_simp
      exact Left.mk0 (.agg #[.string x.chain, .int .i64 x.trust, .bool x.frozen, .slice ka x.known.length ma]) (by first | rfl | simp [updF, *]) HJ.out rfl
    · -- 4: Op.call { value (Operand.func 132), args := #[t20], argTypes
      intro σ W HJ hdep
      simp [Region.binds] at hdep
      have HJ := hid HJ
      have HC := hid (copiedCl_any x (.agg #[.string x.chain, .int .i64 x.trust, .bool x.frozen, .slice ka x.known.length ma]) N W (hcv.out.below (HJ.out.mono hN)) (Nat.le_trans hN HJ.out.size) hcf.out hkn)
      refine wpOp_plain rfl rfl ?_
      go_simp
      refine HC.out.mono ?_
      rintro e w2 ⟨hb2, o, m, ps, rfl, hown, hps⟩
      exact Left.mk (.agg #[.string x.chain, .int .i64 x.trust, .bool x.frozen, .slice o ps.length m]) (by first | rfl | simp [updF, *]) hb2 HJ.out ⟨o, m, ps, rfl, hown.mono HJ.out.size, hps⟩
    · -- 5: Op.indexAddr 22 t18 t19
      intro σ W HJ hdep
      simp [Region.binds] at hdep
      have HJ := hid HJ
      refine wpOp_plain rfl rfl ?_
      go_simp
      exact Left.mk0 (.pointer (some ⟨g, k * 4, none⟩)) (by first | rfl | simp [updF, *]) HJ.out rfl
  · intro σ W hj hg
    have HJ := hid hj
    clear hj
    simp only [List.drop_succ_cons, List.drop_zero]
    obtain ⟨o, m, ps, e4, ho, hp⟩ : ∃ o m ps, σ 4 = .agg #[.string x.chain, .int .i64 x.trust, .bool x.frozen, .slice o ps.length m] ∧ OwnKn W w.heap.size (.slice o ps.length m) ps ∧ ps.map (·.k) = x.known := hg 4 (by decide)
    have e5 : σ 5 = .pointer (some ⟨g, k * 4, none⟩) := hg 5 (by decide)
    have c0 := (HJ.out.cell (p := ⟨g, k * 4, none⟩) hgl).trans hcg.out.1
    have c1 := (HJ.out.cell (p := ⟨g, k * 4 + 1, none⟩) hgl).trans hcg.out.2.1
    have c2 := (HJ.out.cell (p := ⟨g, k * 4 + 2, none⟩) hgl).trans hcg.out.2.2.1
    have c3 := (HJ.out.cell (p := ⟨g, k * 4 + 3, none⟩) hgl).trans hcg.out.2.2.2
    have z0 := (World.frozen?_of_block (a := ⟨g, k * 4, none⟩) (HJ.out.block g hgl)).trans (hfz.out _)
    have z1 := (World.frozen?_of_block (a := ⟨g, k * 4 + 1, none⟩) (HJ.out.block g hgl)).trans (hfz.out _)
    have z2 := (World.frozen?_of_block (a := ⟨g, k * 4 + 2, none⟩) (HJ.out.block g hgl)).trans (hfz.out _)
    have z3 := (World.frozen?_of_block (a := ⟨g, k * 4 + 3, none⟩) (HJ.out.block g hgl)).trans (hfz.out _)
    have HO := hid ho
    have HP := hid hp
    have HJ2 := HJ
    clear hg ho hp
    rw [e4, e5]
    clear e4 e5
    go_wp2
    exact hQ.out σ o m ps W HJ2.out HO.out HP.out
set_option maxRecDepth 100000 in
set_option maxHeartbeats 4000000 in
theorem copyR7 {y0 y2 y3 y4 y5 y6 y7 y8 y9 y10 y11 y12 y13 y14 y15 y16 y17 y18 y19 y20 y21 y22 y23 y34 y35 y36 y37 y38 y39 y40 y41 y42 y43 y44 y45 y46 y47 y48 z24 z25 z26 z27 z28 z29 z30 z31 z32 z33 : Value} {gs N : Nat} (s : St) (q1 o2 o3 o4 o5 o6 o7 : Option Addr) (e1 c2 c3 c4 c5 c6 c7 : Nat) (v0 : Value) {w : World} (hN : N ≤ w.heap.size) (hrs : Hid (Row w gs 28 [.string s.name, .int .i64 s.height, .int .i64 s.time, .slice q1 s.clients.length e1, .slice o2 s.conns.length c2, .slice o3 s.chans.length c3, .slice o4 s.sent.length c4, .slice o5 s.got.length c5, .slice o6 s.acks.length c6, .slice o7 s.purses.length c7])) (hm : Hid (StMem w N s v0 (.slice o2 s.conns.length c2) (.slice o3 s.chans.length c3) (.slice o4 s.sent.length c4) (.slice o5 s.got.length c5) (.slice o6 s.acks.length c6) (.slice o7 s.purses.length c7))) (hfew : few s) (Q : Exit → Act → World → Prop)
    (hQ : Hid (∀ (σ : Nat → Value) (v2 v3 v7 : Value) (w2 : World), Below w.heap.size w w2 → RowT 89 4 w2 w.heap.size v2 (s.conns.map cnCells) → RowT 53 7 w2 w.heap.size v3 (s.chans.map chCells) → RowT 98 3 w2 w.heap.size v7 (s.purses.map puCells) → Q .normal ⟨#[y0, .pointer (some ⟨gs, 0, none⟩), y2, y3, y4, y5, y6, y7, y8, y9, y10, y11, y12, y13, y14, y15, y16, y17, y18, y19, y20, y21, y22, y23, σ 0, σ 1, v2, σ 3, σ 4, v3, σ 6, σ 7, v7, .pointer (some ⟨gs, 4, none⟩), .pointer (some ⟨gs, 5, none⟩), .pointer (some ⟨gs, 9, none⟩), y36, y37, y38, y39, y40, y41, y42, y43, y44, y45, y46, y47, y48], []⟩ (((w2.setCell ⟨gs, 4, none⟩ v2).setCell ⟨gs, 5, none⟩ v3).setCell ⟨gs, 9, none⟩ v7))) :
    Code.wp Tryz.prog (.region 7 ((Tryz.f35.body.bind (regOf 7)).getD #[]) true) Q ⟨#[y0, .pointer (some ⟨gs, 0, none⟩), y2, y3, y4, y5, y6, y7, y8, y9, y10, y11, y12, y13, y14, y15, y16, y17, y18, y19, y20, y21, y22, y23, z24, z25, z26, z27, z28, z29, z30, z31, z32, z33, y34, y35, y36, y37, y38, y39, y40, y41, y42, y43, y44, y45, y46, y47, y48], []⟩ w := by
  conv => arg 2; arg 2; whnf
  conv => arg 4; dsimp only
  unfold few at hfew
  refine region_grows_tail 10 (by kernel_rfl) (fun σ => #[y0, .pointer (some ⟨gs, 0, none⟩), y2, y3, y4, y5, y6, y7, y8, y9, y10, y11, y12, y13, y14, y15, y16, y17, y18, y19, y20, y21, y22, y23, σ 0, σ 1, σ 2, σ 3, σ 4, σ 5, σ 6, σ 7, σ 8, σ 9, y34, y35, y36, y37, y38, y39, y40, y41, y42, y43, y44, y45, y46, y47, y48]) (fun i => ([z24, z25, z26, z27, z28, z29, z30, z31, z32, z33] : List Value).getD i undef) rfl (fun i X W => match i with
    | 0 => X = .pointer (some ⟨gs, 4, none⟩)
    | 1 => X = .slice o2 s.conns.length c2
    | 2 => RowT 89 4 W w.heap.size X (s.conns.map cnCells)
    | 3 => X = .pointer (some ⟨gs, 5, none⟩)
    | 4 => X = .slice o3 s.chans.length c3
    | 5 => RowT 53 7 W w.heap.size X (s.chans.map chCells)
    | 6 => X = .pointer (some ⟨gs, 9, none⟩)
    | 7 => X = .slice o7 s.purses.length c7
    | 8 => RowT 98 3 W w.heap.size X (s.purses.map puCells)
    | 9 => X = .pointer (some ⟨gs, 4, none⟩)
    | _ => True) ?_ (by kernel_rfl) ?_ ?_
  · intro i X W W' HB H
    match i, H with
    | 0, H => exact H
    | 1, H => exact H
    | 2, H => exact (H.below HB)
    | 3, H => exact H
    | 4, H => exact H
    | 5, H => exact (H.below HB)
    | 6, H => exact H
    | 7, H => exact H
    | 8, H => exact (H.below HB)
    | 9, H => exact H
    | _ + 10, _ => exact trivial
  · refine ⟨?_, ?_, ?_, ?_, ?_, ?_, ?_, ?_, ?_, ?_, trivial⟩
    · -- 0: Op.fieldAddr 28 t1 4
      intro σ W HJ hdep
      simp [Region.binds] at hdep
      have HJ := hid HJ
      refine wpOp_plain rfl rfl ?_
      go_simp
      exact Left.mk0 (.pointer (some ⟨gs, 4, none⟩)) (by first | rfl | simp [updF, *]) HJ.out rfl
    · -- 1: Op.load 23 t24
      intro σ W HJ hdep
      simp [Region.binds] at hdep
      have HJ := hid HJ
      have kc := (hrs.out.below HJ.out hrs.out.lt).cell 4
      simp at kc
      refine wpOp_plain rfl rfl ?_
      go_simp
      exact Left.mk0 (.slice o2 s.conns.length c2) (by first | rfl | simp [updF, *]) HJ.out rfl
    · -- 2: Op.call { value (Operand.func 133), args := #[t25], argTypes
      intro σ W HJ hdep
      simp [Region.binds] at hdep
      have HJ := hid HJ
      have HC := hid (cloneCn (s.conns.map cnCells) (.slice o2 s.conns.length c2) N W (many_cells (hm.out.below (HJ.out.mono hN)).conns) (Nat.le_trans hN HJ.out.size) cnCells_ok (by rw [List.length_map]; omega))
      refine wpOp_plain rfl rfl ?_
      go_simp
      refine HC.out.mono ?_
      rintro e w2 ⟨hb2, v', rfl, hrow⟩
      exact Left.mk v' (by first | rfl | simp [updF, *]) hb2 HJ.out (hrow.mono HJ.out.size)
    · -- 3: Op.fieldAddr 28 t1 5
      intro σ W HJ hdep
      simp [Region.binds] at hdep
      have HJ := hid HJ
      refine wpOp_plain rfl rfl ?_
      go_simp
      exact Left.mk0 (.pointer (some ⟨gs, 5, none⟩)) (by first | rfl | simp [updF, *]) HJ.out rfl
    · -- 4: Op.load 24 t27
      intro σ W HJ hdep
      simp [Region.binds] at hdep
      have HJ := hid HJ
      have kc := (hrs.out.below HJ.out hrs.out.lt).cell 5
      simp at kc
      refine wpOp_plain rfl rfl ?_
      go_simp
      exact Left.mk0 (.slice o3 s.chans.length c3) (by first | rfl | simp [updF, *]) HJ.out rfl
    · -- 5: Op.call { value (Operand.func 134), args := #[t28], argTypes
      intro σ W HJ hdep
      simp [Region.binds] at hdep
      have HJ := hid HJ
      have HC := hid (cloneCh (s.chans.map chCells) (.slice o3 s.chans.length c3) N W (many_cells (hm.out.below (HJ.out.mono hN)).chans) (Nat.le_trans hN HJ.out.size) chCells_ok (by rw [List.length_map]; omega))
      refine wpOp_plain rfl rfl ?_
      go_simp
      refine HC.out.mono ?_
      rintro e w2 ⟨hb2, v', rfl, hrow⟩
      exact Left.mk v' (by first | rfl | simp [updF, *]) hb2 HJ.out (hrow.mono HJ.out.size)
    · -- 6: Op.fieldAddr 28 t1 9
      intro σ W HJ hdep
      simp [Region.binds] at hdep
      have HJ := hid HJ
      refine wpOp_plain rfl rfl ?_
      go_simp
      exact Left.mk0 (.pointer (some ⟨gs, 9, none⟩)) (by first | rfl | simp [updF, *]) HJ.out rfl
    · -- 7: Op.load 26 t30
      intro σ W HJ hdep
      simp [Region.binds] at hdep
      have HJ := hid HJ
      have kc := (hrs.out.below HJ.out hrs.out.lt).cell 9
      simp at kc
      refine wpOp_plain rfl rfl ?_
      go_simp
      exact Left.mk0 (.slice o7 s.purses.length c7) (by first | rfl | simp [updF, *]) HJ.out rfl
    · -- 8: Op.call { value (Operand.func 135), args := #[t31], argTypes
      intro σ W HJ hdep
      simp [Region.binds] at hdep
      have HJ := hid HJ
      have HC := hid (clonePu (s.purses.map puCells) (.slice o7 s.purses.length c7) N W (many_cells (hm.out.below (HJ.out.mono hN)).purses) (Nat.le_trans hN HJ.out.size) puCells_ok (by rw [List.length_map]; omega))
      refine wpOp_plain rfl rfl ?_
      go_simp
      refine HC.out.mono ?_
      rintro e w2 ⟨hb2, v', rfl, hrow⟩
      exact Left.mk v' (by first | rfl | simp [updF, *]) hb2 HJ.out (hrow.mono HJ.out.size)
    · -- 9: Op.fieldAddr 28 t1 4
      intro σ W HJ hdep
      simp [Region.binds] at hdep
      have HJ := hid HJ
      refine wpOp_plain rfl rfl ?_
      go_simp
      exact Left.mk0 (.pointer (some ⟨gs, 4, none⟩)) (by first | rfl | simp [updF, *]) HJ.out rfl
  · intro σ W hj hg
    have HJ := hid hj
    clear hj
    simp only [List.drop_succ_cons, List.drop_zero]
    have r2 : RowT 89 4 W w.heap.size (σ 2) (s.conns.map cnCells) := hg 2 (by decide)
    obtain ⟨oc2, cc2, e2, -⟩ := r2.shape
    have R2 := hid r2
    rw [e2] at R2
    clear r2
    generalize (s.conns.map cnCells).length = nn2 at *
    have r5 : RowT 53 7 W w.heap.size (σ 5) (s.chans.map chCells) := hg 5 (by decide)
    obtain ⟨oc5, cc5, e5, -⟩ := r5.shape
    have R5 := hid r5
    rw [e5] at R5
    clear r5
    generalize (s.chans.map chCells).length = nn5 at *
    have r8 : RowT 98 3 W w.heap.size (σ 8) (s.purses.map puCells) := hg 8 (by decide)
    obtain ⟨oc8, cc8, e8, -⟩ := r8.shape
    have R8 := hid r8
    rw [e8] at R8
    clear r8
    generalize (s.purses.map puCells).length = nn8 at *
    have e9 : σ 9 = .pointer (some ⟨gs, 4, none⟩) := hg 9 (by decide)
    have hr := hrs.out.below HJ.out hrs.out.lt
    have k4 : W.cell? ⟨gs, 4, none⟩ = some (.slice o2 s.conns.length c2) := hr.cell 4
    have k5 : W.cell? ⟨gs, 5, none⟩ = some (.slice o3 s.chans.length c3) := hr.cell 5
    have k9 : W.cell? ⟨gs, 9, none⟩ = some (.slice o7 s.purses.length c7) := hr.cell 9
    have z4 : W.frozen? ⟨gs, 4, none⟩ = false := hr.frozen 4
    have z5 : W.frozen? ⟨gs, 5, none⟩ = false := hr.frozen 5
    have z9 : W.frozen? ⟨gs, 9, none⟩ = false := hr.frozen 9
    have HJ2 := HJ
    clear hg hr
    rw [e2, e5, e8, e9]
    clear e2 e5 e8 e9
    go_wp2
    exact hQ.out σ _ _ _ W HJ2.out R2.out R5.out R8.out
set_option maxRecDepth 100000 in
set_option maxHeartbeats 4000000 in
theorem copyR8 {y0 y2 y3 y4 y5 y6 y7 y8 y9 y10 y11 y12 y13 y14 y15 y16 y17 y18 y19 y20 y21 y22 y23 y24 y25 y26 y27 y28 y29 y30 y31 y32 y33 y34 y35 y46 y47 y48 z36 z37 z38 z39 z40 z41 z42 z43 z44 z45 : Value} {gs N : Nat} (s : St) (q1 q2 q3 q7 o4 o5 o6 : Option Addr) (e1 n2 e2 n3 e3 n7 e7 c4 c5 c6 : Nat) (u1 u2 u3 u7 : Value) {w : World} (hN : N ≤ w.heap.size) (hrs : Hid (Row w gs 28 [.string s.name, .int .i64 s.height, .int .i64 s.time, .slice q1 s.clients.length e1, .slice q2 n2 e2, .slice q3 n3 e3, .slice o4 s.sent.length c4, .slice o5 s.got.length c5, .slice o6 s.acks.length c6, .slice q7 n7 e7])) (hm : Hid (StMem w N s u1 u2 u3 (.slice o4 s.sent.length c4) (.slice o5 s.got.length c5) (.slice o6 s.acks.length c6) u7)) (hfew : few s) (hfit : Hid (MarksFit s)) (Q : Exit → Act → World → Prop)
    (hQ : Hid (∀ (σ : Nat → Value) (p4 p5 p6 : Option Addr) (d4 d5 d6 : Nat) (w2 : World), Below w.heap.size w w2 → MarksO N w.heap.size w2 s (.slice p4 s.sent.length d4) (.slice p5 s.got.length d5) (.slice p6 s.acks.length d6) → Q .normal ⟨#[y0, .pointer (some ⟨gs, 0, none⟩), y2, y3, y4, y5, y6, y7, y8, y9, y10, y11, y12, y13, y14, y15, y16, y17, y18, y19, y20, y21, y22, y23, y24, y25, y26, y27, y28, y29, y30, y31, y32, y33, y34, y35, σ 0, σ 1, .slice p4 s.sent.length d4, σ 3, σ 4, .slice p5 s.got.length d5, σ 6, σ 7, .slice p6 s.acks.length d6, .pointer (some ⟨gs, 6, none⟩), .pointer (some ⟨gs, 7, none⟩), .pointer (some ⟨gs, 8, none⟩), y48], []⟩ (((w2.setCell ⟨gs, 6, none⟩ (.slice p4 s.sent.length d4)).setCell ⟨gs, 7, none⟩ (.slice p5 s.got.length d5)).setCell ⟨gs, 8, none⟩ (.slice p6 s.acks.length d6)))) :
    Code.wp Tryz.prog (.region 8 ((Tryz.f35.body.bind (regOf 8)).getD #[]) true) Q ⟨#[y0, .pointer (some ⟨gs, 0, none⟩), y2, y3, y4, y5, y6, y7, y8, y9, y10, y11, y12, y13, y14, y15, y16, y17, y18, y19, y20, y21, y22, y23, y24, y25, y26, y27, y28, y29, y30, y31, y32, y33, y34, y35, z36, z37, z38, z39, z40, z41, z42, z43, z44, z45, y46, y47, y48], []⟩ w := by
  conv => arg 2; arg 2; whnf
  conv => arg 4; dsimp only
  unfold few at hfew
  refine region_ivals_tail 10 (by kernel_rfl) (fun σ => #[y0, .pointer (some ⟨gs, 0, none⟩), y2, y3, y4, y5, y6, y7, y8, y9, y10, y11, y12, y13, y14, y15, y16, y17, y18, y19, y20, y21, y22, y23, y24, y25, y26, y27, y28, y29, y30, y31, y32, y33, y34, y35, σ 0, σ 1, σ 2, σ 3, σ 4, σ 5, σ 6, σ 7, σ 8, σ 9, y46, y47, y48]) (fun i => ([z36, z37, z38, z39, z40, z41, z42, z43, z44, z45] : List Value).getD i undef) rfl (fun i lo hi X W => match i with
    | 0 => X = .pointer (some ⟨gs, 6, none⟩)
    | 1 => X = .slice o4 s.sent.length c4
    | 2 => MkI N lo hi W X s.sent
    | 3 => X = .pointer (some ⟨gs, 7, none⟩)
    | 4 => X = .slice o5 s.got.length c5
    | 5 => MkI N lo hi W X s.got
    | 6 => X = .pointer (some ⟨gs, 8, none⟩)
    | 7 => X = .slice o6 s.acks.length c6
    | 8 => MkI N lo hi W X s.acks
    | 9 => X = .pointer (some ⟨gs, 6, none⟩)
    | _ => True) ?_ (by kernel_rfl) ?_ ?_
  · intro i lo hi X W W' HB H
    match i, H with
    | 0, H => exact H
    | 1, H => exact H
    | 2, H => exact H.below HB
    | 3, H => exact H
    | 4, H => exact H
    | 5, H => exact H.below HB
    | 6, H => exact H
    | 7, H => exact H
    | 8, H => exact H.below HB
    | 9, H => exact H
    | _ + 10, _ => exact trivial
  · refine ⟨?_, ?_, ?_, ?_, ?_, ?_, ?_, ?_, ?_, ?_, trivial⟩
    · -- 0: Op.fieldAddr 28 t1 6
      intro σ W HJ hdep
      simp [Region.binds] at hdep
      have HJ := hid HJ
      refine wpOp_plain rfl rfl ?_
      go_simp
      exact LeftI.mk0 (.pointer (some ⟨gs, 6, none⟩)) (by first | rfl | simp [updF, *]) rfl
    · -- 1: Op.load 25 t36
      intro σ W HJ hdep
      simp [Region.binds] at hdep
      have HJ := hid HJ
      have kc := (hrs.out.below HJ.out hrs.out.lt).cell 6
      simp at kc
      refine wpOp_plain rfl rfl ?_
      go_simp
      exact LeftI.mk0 (.slice o4 s.sent.length c4) (by first | rfl | simp [updF, *]) rfl
    · -- 2: Op.call { value (Operand.func 136), args := #[t37], argTypes
      intro σ W HJ hdep
      simp [Region.binds] at hdep
      have HJ := hid HJ
      have HC := hid (copiedMarks_any s.sent (.slice o4 s.sent.length c4) N W (hm.out.below (HJ.out.mono hN)).sent (Nat.le_trans hN HJ.out.size) (by omega) hfit.out.sent)
      refine wpOp_plain rfl rfl ?_
      go_simp
      refine HC.out.mono ?_
      rintro e w2 ⟨hb2, v', rfl, hh⟩
      exact LeftI.mk v' (by first | rfl | simp [updF, *]) hb2 (hh.marks (Nat.le_trans hN (Nat.le_trans HJ.out.size hb2.size)))
    · -- 3: Op.fieldAddr 28 t1 7
      intro σ W HJ hdep
      simp [Region.binds] at hdep
      have HJ := hid HJ
      refine wpOp_plain rfl rfl ?_
      go_simp
      exact LeftI.mk0 (.pointer (some ⟨gs, 7, none⟩)) (by first | rfl | simp [updF, *]) rfl
    · -- 4: Op.load 25 t39
      intro σ W HJ hdep
      simp [Region.binds] at hdep
      have HJ := hid HJ
      have kc := (hrs.out.below HJ.out hrs.out.lt).cell 7
      simp at kc
      refine wpOp_plain rfl rfl ?_
      go_simp
      exact LeftI.mk0 (.slice o5 s.got.length c5) (by first | rfl | simp [updF, *]) rfl
    · -- 5: Op.call { value (Operand.func 136), args := #[t40], argTypes
      intro σ W HJ hdep
      simp [Region.binds] at hdep
      have HJ := hid HJ
      have HC := hid (copiedMarks_any s.got (.slice o5 s.got.length c5) N W (hm.out.below (HJ.out.mono hN)).got (Nat.le_trans hN HJ.out.size) (by omega) hfit.out.got)
      refine wpOp_plain rfl rfl ?_
      go_simp
      refine HC.out.mono ?_
      rintro e w2 ⟨hb2, v', rfl, hh⟩
      exact LeftI.mk v' (by first | rfl | simp [updF, *]) hb2 (hh.marks (Nat.le_trans hN (Nat.le_trans HJ.out.size hb2.size)))
    · -- 6: Op.fieldAddr 28 t1 8
      intro σ W HJ hdep
      simp [Region.binds] at hdep
      have HJ := hid HJ
      refine wpOp_plain rfl rfl ?_
      go_simp
      exact LeftI.mk0 (.pointer (some ⟨gs, 8, none⟩)) (by first | rfl | simp [updF, *]) rfl
    · -- 7: Op.load 25 t42
      intro σ W HJ hdep
      simp [Region.binds] at hdep
      have HJ := hid HJ
      have kc := (hrs.out.below HJ.out hrs.out.lt).cell 8
      simp at kc
      refine wpOp_plain rfl rfl ?_
      go_simp
      exact LeftI.mk0 (.slice o6 s.acks.length c6) (by first | rfl | simp [updF, *]) rfl
    · -- 8: Op.call { value (Operand.func 136), args := #[t43], argTypes
      intro σ W HJ hdep
      simp [Region.binds] at hdep
      have HJ := hid HJ
      have HC := hid (copiedMarks_any s.acks (.slice o6 s.acks.length c6) N W (hm.out.below (HJ.out.mono hN)).acks (Nat.le_trans hN HJ.out.size) (by omega) hfit.out.acks)
      refine wpOp_plain rfl rfl ?_
      go_simp
      refine HC.out.mono ?_
      rintro e w2 ⟨hb2, v', rfl, hh⟩
      exact LeftI.mk v' (by first | rfl | simp [updF, *]) hb2 (hh.marks (Nat.le_trans hN (Nat.le_trans HJ.out.size hb2.size)))
    · -- 9: Op.fieldAddr 28 t1 6
      intro σ W HJ hdep
      simp [Region.binds] at hdep
      have HJ := hid HJ
      refine wpOp_plain rfl rfl ?_
      go_simp
      exact LeftI.mk0 (.pointer (some ⟨gs, 6, none⟩)) (by first | rfl | simp [updF, *]) rfl
  · intro σ lo hi W hj hg
    have HJ := hid hj
    clear hj
    simp only [List.drop_succ_cons, List.drop_zero]
    have r2 : MkI N (lo 2) (hi 2) W (σ 2) s.sent := (hg.1 2 (by decide)).1
    obtain ⟨oc2, cc2, e2⟩ := r2.shape
    have R2 := hid r2
    rw [e2] at R2
    clear r2
    have r5 : MkI N (lo 5) (hi 5) W (σ 5) s.got := (hg.1 5 (by decide)).1
    obtain ⟨oc5, cc5, e5⟩ := r5.shape
    have R5 := hid r5
    rw [e5] at R5
    clear r5
    have r8 : MkI N (lo 8) (hi 8) W (σ 8) s.acks := (hg.1 8 (by decide)).1
    obtain ⟨oc8, cc8, e8⟩ := r8.shape
    have R8 := hid r8
    rw [e8] at R8
    clear r8
    have e9 : σ 9 = .pointer (some ⟨gs, 6, none⟩) := (hg.1 9 (by decide)).1
    have q2 := (hg.1 2 (by decide)).2
    have q5 := (hg.1 5 (by decide)).2
    have q8 := (hg.1 8 (by decide)).2
    have HMO := hid (MarksO.of (base := w.heap.size) R2.out R5.out R8.out hN ⟨⟨q2.1, q2.2.2⟩, ⟨q5.1, q5.2.2⟩, ⟨q8.1, q8.2.2⟩⟩ (Nat.le_trans hN HJ.out.size) (hg.2 2 5 (by decide) (by decide) (by decide)) (hg.2 2 8 (by decide) (by decide) (by decide)) (hg.2 5 8 (by decide) (by decide) (by decide)))
    clear q2 q5 q8 R2 R5 R8
    have hr := hrs.out.below HJ.out hrs.out.lt
    have k6 : W.cell? ⟨gs, 6, none⟩ = some (.slice o4 s.sent.length c4) := hr.cell 6
    have k7 : W.cell? ⟨gs, 7, none⟩ = some (.slice o5 s.got.length c5) := hr.cell 7
    have k8 : W.cell? ⟨gs, 8, none⟩ = some (.slice o6 s.acks.length c6) := hr.cell 8
    have z6 : W.frozen? ⟨gs, 6, none⟩ = false := hr.frozen 6
    have z7 : W.frozen? ⟨gs, 7, none⟩ = false := hr.frozen 7
    have z8 : W.frozen? ⟨gs, 8, none⟩ = false := hr.frozen 8
    have HJ2 := HJ
    clear hg hr
    rw [e2, e5, e8, e9]
    clear e2 e5 e8 e9
    go_wp2
    exact hQ.out σ _ _ _ _ _ _ W HJ2.out HMO.out
end Go.Proofs.YtclhcjiblfokaaaGreatDoor
namespace Go.Proofs.YtclhcjiblfokaaaGreatDoor
open Go.RowKit

theorem RowsH.on {α : Type} {t : TypeId} {R : World → Nat → List Value → α → Prop} {k N base : Nat} {w w' : World} {v : Value} {l : List α} (h : RowsH t R k N base w v l) (hb : Below 0 w w') (hk : ∀ b, b < w.heap.size → b < N ∨ base ≤ b → w'.heap[b]? = w.heap[b]?) : RowsH t R k N base w' v l := by
  obtain ⟨rs, h1, h2, h3⟩ := h
  exact ⟨rs, h1, h2.keep fun g hg => hk g (h2.own g hg).2 (.inr (h2.own g hg).1), fun i r x hr hx => ((h3 i r x hr hx).on hb (fun b hF => hk b hF.2.2 hF.2.1)).wide (fun b hF => ⟨hF.1, hF.2.1, Nat.lt_of_lt_of_le hF.2.2 hb.size⟩) (fun b hF => hF.2.2)⟩
theorem Row.setRow {w : World} {g : Nat} {t : TypeId} {old : List Value} (h : Row w g t old) (cs : List Value) : Row (w.setRow g cs.toArray) g t cs := setRow_heap w g old.toArray cs.toArray t (0, 0) h
/-- blocks of rows of different types are different -/
theorem RowT.ne {t u : TypeId} {k j : Nat} {w : World} {b1 b2 : Nat} {v x : Value} {rs qs : List (List Value)} (h : RowT t k w b1 v rs) (h' : RowT u j w b2 x qs) (htu : t ≠ u) : ∀ b, v.ownBlock = some b → x.ownBlock ≠ some b := by
  intro b e1 e2
  rcases h.2.2 with ⟨rfl, _⟩ | ⟨g, c, cur, rfl, _, h8, _⟩
  · cases e1
  rcases h'.2.2 with ⟨rfl, _⟩ | ⟨g', c', cur', rfl, _, h9, _⟩
  · cases e2
  obtain rfl : g = b := by simpa [Value.ownBlock] using e1
  obtain rfl : g' = g := by simpa [Value.ownBlock] using e2
  rw [h8] at h9
  simp at h9
  exact htu h9.2
set_option maxRecDepth 100000 in
set_option maxHeartbeats 8000000 in
theorem copyM (s : St) (v : Value) (N : Nat) (w : World) (hv : StV w N v s) (hN : N ≤ w.heap.size) (hfit : s.fits) (hfew : few s) : Calls Tryz.prog 35 #[v] w fun e w' => Below w.heap.size w w' ∧ ∃ p1 d1 p2 d2 p3 d3 p4 d4 p5 d5 p6 d6 p7 d7, e = .returned (.agg #[.string s.name, .int .i64 s.height, .int .i64 s.time, .slice p1 s.clients.length d1, .slice p2 s.conns.length d2, .slice p3 s.chans.length d3, .slice p4 s.sent.length d4, .slice p5 s.got.length d5, .slice p6 s.acks.length d6, .slice p7 s.purses.length d7]) ∧ StOwnM (fun b => b < N ∨ w.heap.size ≤ b) w.heap.size w' s noX (.slice p1 s.clients.length d1) (.slice p2 s.conns.length d2) (.slice p3 s.chans.length d3) (.slice p4 s.sent.length d4) (.slice p5 s.got.length d5) (.slice p6 s.acks.length d6) (.slice p7 s.purses.length d7) := by
  obtain ⟨o1, c1, o2, c2, o3, c3, o4, c4, o5, c5, o6, c6, o7, c7, rfl, hm⟩ := hv.open
  have HFEW := hid hfew
  have HMF := hid (show MarksFit s from ⟨hfit.2.2.2.2.1.2, hfit.2.2.2.2.2.1.2, hfit.2.2.2.2.2.2.1.2⟩)
  have HCF := hid hfit.2.1.2
  have HCK := hid hfew.2.2.2.2.2.2.2
  have hl1 : s.clients.length ≤ 100 := hfew.1
  obtain ⟨w0, hw0⟩ : ∃ w0, (w.alloc (.cells #[.string s.name, .int .i64 s.height, .int .i64 s.time, .slice o1 s.clients.length c1, .slice o2 s.conns.length c2, .slice o3 s.chans.length c3, .slice o4 s.sent.length c4, .slice o5 s.got.length c5, .slice o6 s.acks.length c6, .slice o7 s.purses.length c7] 28)).alloc (.cells #[.string ⟨#[]⟩, .int .i64 0, .int .i64 0, .slice none 0 0, .slice none 0 0, .slice none 0 0, .slice none 0 0, .slice none 0 0, .slice none 0 0, .slice none 0 0] 28) = w0 := ⟨_, rfl⟩
  have hb0 : Below w.heap.size w w0 := by rw [← hw0]; exact ((Below.refl _ _).alloc (Nat.le_refl _) _).alloc (by simp) _
  have HB0 := hid hb0
  have HR0 := hid (show Row w0 w.heap.size 28 [.string s.name, .int .i64 s.height, .int .i64 s.time, .slice o1 s.clients.length c1, .slice o2 s.conns.length c2, .slice o3 s.chans.length c3, .slice o4 s.sent.length c4, .slice o5 s.got.length c5, .slice o6 s.acks.length c6, .slice o7 s.purses.length c7] by rw [← hw0]; exact (Row.new _ _ _).alloc _)
  have HZ0 := hid (show Row w0 (w.heap.size + 1) 28 [.string ⟨#[]⟩, .int .i64 0, .int .i64 0, .slice none 0 0, .slice none 0 0, .slice none 0 0, .slice none 0 0, .slice none 0 0, .slice none 0 0, .slice none 0 0] by rw [← hw0]; exact Row.newAt _ _ _ _ (by simp))
  have hsz0 : w0.heap.size = w.heap.size + 2 := by rw [← hw0]; simp
  have hN0 : N ≤ w0.heap.size := by omega
  have HM := hid (show ∀ wx, Below w.heap.size w wx → StMem wx N s (.slice o1 s.clients.length c1) (.slice o2 s.conns.length c2) (.slice o3 s.chans.length c3) (.slice o4 s.sent.length c4) (.slice o5 s.got.length c5) (.slice o6 s.acks.length c6) (.slice o7 s.purses.length c7) from fun wx hx => hm.below (hx.mono hN))
  obtain ⟨rs, hr1, hr2, hr3⟩ := (hm.below (hb0.mono hN)).clients
  have hok : ∀ r ∈ rs, r.length = 4 ∧ ∀ x ∈ r, x.oneCell' = true := fun r hr => by
    obtain ⟨i, hi⟩ := List.getElem?_of_mem hr
    have hil := (List.getElem?_eq_some_iff.1 hi).1
    obtain ⟨dv, rfl, hd⟩ := hr3 i r (s.clients[i]'(by omega)) hi (List.getElem?_eq_getElem _)
    obtain ⟨od, cd, rfl, -⟩ := hd.shape
    exact ⟨rfl, fun x hx => by simp at hx; rcases hx with rfl | rfl | rfl | rfl <;> rfl⟩
  have HCL := hid (cloneCl rs (.slice o1 s.clients.length c1) N w0 hr2 hN0 hok (by omega))
  have HNEW := hid (show ∀ w1 v1, Below w0.heap.size w0 w1 → RowT 79 4 w1 w0.heap.size v1 rs → RowsH 79 ClR 4 N w0.heap.size w1 v1 s.clients from fun w1 v1 hb hr => RowsH.new ClR.stays hr1 hr hr3 hN0 hN0 hb)
  have k3 : w0.cell? ⟨w.heap.size, 3, none⟩ = some (.slice o1 s.clients.length c1) := HR0.out.cell 3
  have z3 : w0.frozen? ⟨w.heap.size, 3, none⟩ = false := HR0.out.frozen 3
  have HW0 := hid hw0
  clear hv hm hfit hfew hb0 hw0 hr1 hr2 hr3 hok
  go_enter Tryz.func35, Tryz.ntmps35
  go_upto_region 1 with fail
  rw [HW0.out]
  go_wp2_with fail
  refine HCL.out.mono ?_
  rintro e w1 ⟨hb1, v1, rfl, hrow⟩
  have hrh := HNEW.out _ _ hb1 hrow
  obtain ⟨q1, e1, rfl, -⟩ := hrh.shape
  have hrb1 := HR0.out.below hb1 HR0.out.lt
  have hzb1 := HZ0.out.below hb1 HZ0.out.lt
  have k3' : w1.cell? ⟨w.heap.size, 3, none⟩ = some (.slice o1 s.clients.length c1) := hrb1.cell 3
  have z3' : w1.frozen? ⟨w.heap.size, 3, none⟩ = false := hrb1.frozen 3
  obtain ⟨w2, hw2⟩ : ∃ w2, w1.setCell ⟨w.heap.size, 3, none⟩ (.slice q1 s.clients.length e1) = w2 := ⟨_, rfl⟩
  have hs2 : w2.heap.size = w1.heap.size := by rw [← hw2]; simp [World.setCell]
  have ho2 : ∀ b, b ≠ w.heap.size → w2.heap[b]? = w1.heap[b]? := fun b hb => by rw [← hw2]; exact Below.heap_setCell _ _ _ _ hb
  have HRH := hid (show RowsH 79 ClR 4 N w0.heap.size w2 (.slice q1 s.clients.length e1) s.clients from hrh.on (by rw [← hw2]; exact (Below.refl 0 w1).setCell (Nat.zero_le _) _) (fun b _ hb => ho2 b (by omega)))
  have HR2 := hid (show Row w2 w.heap.size 28 [.string s.name, .int .i64 s.height, .int .i64 s.time, .slice q1 s.clients.length e1, .slice o2 s.conns.length c2, .slice o3 s.chans.length c3, .slice o4 s.sent.length c4, .slice o5 s.got.length c5, .slice o6 s.acks.length c6, .slice o7 s.purses.length c7] by rw [← hw2]; exact hrb1.set 3 _)
  have HZ2 := hid (show Row w2 (w.heap.size + 1) 28 [.string ⟨#[]⟩, .int .i64 0, .int .i64 0, .slice none 0 0, .slice none 0 0, .slice none 0 0, .slice none 0 0, .slice none 0 0, .slice none 0 0, .slice none 0 0] by rw [← hw2]; exact hzb1.other _ (by simp))
  have HB2 := hid (show Below w.heap.size w w2 by rw [← hw2]; exact (HB0.out.trans (hb1.mono HB0.out.size)).setCell (Nat.le_refl _) _)
  have hsz2 : w0.heap.size ≤ w2.heap.size := by rw [hs2]; exact hb1.size
  have HW2 := hid hw2
  clear k3 z3 hb1 hrow hrh hrb1 hzb1 hs2 ho2 hw2
  go_upto_region 2 with fail
  rw [HW2.out]
  clear k3' z3'
  have k3 : w2.cell? ⟨w.heap.size, 3, none⟩ = some (.slice q1 s.clients.length e1) := HR2.out.cell 3
  go_wp2_with fail
  clear k3
  go_loopw [12] (fun i wr => ∃ k : Nat, k ≤ s.clients.length ∧ i = .int .i64 (k : Int) ∧ Hid (RowsH 79 ClR 4 N w0.heap.size wr (.slice q1 s.clients.length e1) s.clients ∧ Below w0.heap.size w2 wr)) (fun i _ => s.clients.length - (intOf i).toNat)
  case atStart => exact ⟨0, by omega, rfl, hid ⟨HRH.out, Below.refl _ _⟩⟩
  case round =>
    obtain ⟨k, hk, rfl, HT⟩ := hrel
    have HRW := hid HT.out.1
    have HBW := hid HT.out.2
    have hszw := HBW.out.size
    clear HT
    by_cases hlt : k < s.clients.length
    · obtain ⟨x, hx⟩ : ∃ x, s.clients[k]? = some x := ⟨_, List.getElem?_eq_getElem hlt⟩
      have hlt' : (k : Int) < (s.clients.length : Int) := by omega
      obtain ⟨g, rq, r, rfl, hgb, hgl, hq1, hq2, hq3, hq4, hq5, hc, hfz⟩ := HRW.out.at hx
      obtain ⟨dv, rfl, hdv⟩ := hq4
      obtain ⟨ka, ma, rfl, -⟩ := hdv.shape
      have f0 := hc 0 _ rfl
      have f1 := hc 1 _ rfl
      have f2 := hc 2 _ rfl
      have f3 := hc 3 _ rfl
      simp only [Nat.add_zero] at f0
      obtain ⟨w3, hw3⟩ : ∃ w3, wr.alloc (.cells #[.string x.chain, .int .i64 x.trust, .bool x.frozen, .slice ka x.known.length ma] 79) = w3 := ⟨_, rfl⟩
      have hb3 : Below wr.heap.size wr w3 := by rw [← hw3]; exact (Below.refl _ _).alloc (Nat.le_refl _) _
      have HR3 := hid (show Row w3 wr.heap.size 79 [.string x.chain, .int .i64 x.trust, .bool x.frozen, .slice ka x.known.length ma] by rw [← hw3]; exact Row.new _ _ _)
      have HB3 := hid hb3
      have HC3 := hid (show w3.cell? ⟨g, k * 4, none⟩ = some (.string x.chain) ∧ w3.cell? ⟨g, k * 4 + 1, none⟩ = some (.int .i64 x.trust) ∧ w3.cell? ⟨g, k * 4 + 2, none⟩ = some (.bool x.frozen) ∧ w3.cell? ⟨g, k * 4 + 3, none⟩ = some (.slice ka x.known.length ma) from ⟨(hb3.cell hgl).trans f0, (hb3.cell hgl).trans f1, (hb3.cell hgl).trans f2, (hb3.cell hgl).trans f3⟩)
      have HF3 := hid (show ∀ o, w3.frozen? ⟨g, o, none⟩ = false from fun o => (World.frozen?_of_block (a := ⟨g, o, none⟩) (hb3.block g hgl)).trans (hfz o))
      have HV3 := hid (show ClV w3 wr.heap.size (.agg #[.string x.chain, .int .i64 x.trust, .bool x.frozen, .slice ka x.known.length ma]) x from ⟨_, rfl, hdv.below hb3⟩)
      have HXF := hid (HCF.out x (List.mem_of_getElem? hx))
      have hkn := HCK.out x (List.mem_of_getElem? hx)
      have HRS := hid ((HR2.out.below HBW.out (by omega)).below hb3 (by omega))
      have HQ1 := hid hq1
      have HQ2 := hid hq2
      have HQ3 := hid hq3
      have HQ5 := hid hq5
      have HX := hid hx
      have HW3 := hid hw3
      have hgl3 : g < w3.heap.size := Nat.lt_of_lt_of_le hgl hb3.size
      clear hb3 hw3 hq1 hq2 hq3 hq5 hx hc hfz hdv
      go_upto_region 5 with fail
      rw [HW3.out]
      clear f0 f1 f2 f3
      refine copyR5 s x k s.clients.length g e1 ma ka o2 o3 o4 o5 o6 o7 c2 c3 c4 c5 c6 c7 (N := wr.heap.size) HB3.out.size HRS HR3 hlt' hgl3 HC3 HF3 HV3 HXF hkn _ (hid ?_)
      intro σ o m ps w4 hb4 hown hps
      have hbx : Below wr.heap.size wr w4 := HB3.out.trans (hb4.mono HB3.out.size)
      have HOW := hid (show Held (fun b => b ≠ g ∧ (b < N ∨ w0.heap.size ≤ b) ∧ b < w4.heap.size) w4 (fun wz => ClR wz wz.heap.size [.string x.chain, .int .i64 x.trust, .bool x.frozen, .slice o ps.length m] x) from
        ⟨fun b hb => hb.2.2, fun wz hz hkk => ⟨_, rfl, by rw [← hps]; exact hown.held.2 wz hz fun b hF => hkk b ⟨by omega, .inr (by have := HB3.out.size; omega), hF.2⟩⟩⟩)
      have hput := (HQ2.out.below hbx).put (i := k) (r := [.string x.chain, .int .i64 x.trust, .bool x.frozen, .slice o ps.length m]) (by rw [HQ1.out]; exact hlt) ⟨rfl, fun y hy => by simp at hy; rcases hy with rfl | rfl | rfl | rfl <;> rfl⟩
      have HNR := hid (RowsH.put (t := 79) (R := ClR) (k := 4) (N := N) (base := w0.heap.size) (n := s.clients.length) (c := e1) HQ1.out (fun j r y hr hy => ((HQ5.out j r y hr hy).below hbx).wide (fun b hF => ⟨hF.1, hF.2.1, Nat.lt_of_lt_of_le hF.2.2 hbx.size⟩) (fun b hF => hF.2.2)) HX.out HOW.out (grown_putCells w4 g (k * 4) [.string x.chain, .int .i64 x.trust, .bool x.frozen, .slice o ps.length m]) hput)
      have HNB := hid (show Below w0.heap.size w2 (w4.setCells g (k * 4) [.string x.chain, .int .i64 x.trust, .bool x.frozen, .slice o ps.length m]) from below_setCells hgb _ _ _ (HBW.out.trans (hbx.mono (by omega))))
      clear hb4 hown hps hbx hput HOW HQ1 HQ2 HQ3 HQ5 HX
      go_wp2
      go_roundw
      case rel => exact ⟨k + 1, by omega, by go_num, hid ⟨HNR.out, HNB.out⟩⟩
      case measure => simp [intOf]; omega
    · have hge : decide ((k : Int) < (s.clients.length : Int)) = false := by simp; omega
      have HR3 := hid (HR2.out.below HBW.out (by omega))
      have HZ3 := hid (HZ2.out.below HBW.out (by omega))
      have HB3 := hid (show Below w.heap.size w wr from HB2.out.trans (HBW.out.mono (by omega)))
      have H1 := hid HRW.out.held
      go_upto_region 7 with fail
      refine copyR7 s q1 o2 o3 o4 o5 o6 o7 e1 c2 c3 c4 c5 c6 c7 (.slice o1 s.clients.length c1) (N := N) (by omega) HR3 (hid (HM.out _ HB3.out)) HFEW.out _ (hid ?_)
      intro σ v2 v3 v7 w4 hb4 h2 h3 h7
      obtain ⟨q2, e2, rfl, -⟩ := h2.shape
      obtain ⟨q3, e3, rfl, -⟩ := h3.shape
      obtain ⟨q7, e7, rfl, -⟩ := h7.shape
      have n2 := fun b e => (h2.own b e).2
      have n3 := fun b e => (h3.own b e).2
      have n7 := fun b e => (h7.own b e).2
      have H2 := hid h2
      have H3 := hid h3
      have H7 := hid h7
      have H1' := hid (H1.out.below hb4)
      have hr4 := HR3.out.below hb4 HR3.out.lt
      have hz4 := HZ3.out.below hb4 HZ3.out.lt
      simp only [List.length_map] at H2 H3 H7 n2 n3 n7 ⊢
      obtain ⟨w5, hw5⟩ : ∃ w5, ((w4.setCell ⟨w.heap.size, 4, none⟩ (.slice q2 s.conns.length e2)).setCell ⟨w.heap.size, 5, none⟩ (.slice q3 s.chans.length e3)).setCell ⟨w.heap.size, 9, none⟩ (.slice q7 s.purses.length e7) = w5 := ⟨_, rfl⟩
      have hs5 : w5.heap.size = w4.heap.size := by rw [← hw5]; simp [World.setCell]
      have ho5 : ∀ b, b ≠ w.heap.size → w5.heap[b]? = w4.heap[b]? := fun b hb => by rw [← hw5]; exact (Below.heap_setCell _ _ _ _ hb).trans ((Below.heap_setCell _ _ _ _ hb).trans (Below.heap_setCell _ _ _ _ hb))
      have hbb5 : Below 0 w4 w5 := by rw [← hw5]; exact (((Below.refl 0 w4).setCell (Nat.zero_le _) _).setCell (Nat.zero_le _) _).setCell (Nat.zero_le _) _
      have HR5 := hid (show Row w5 w.heap.size 28 [.string s.name, .int .i64 s.height, .int .i64 s.time, .slice q1 s.clients.length e1, .slice q2 s.conns.length e2, .slice q3 s.chans.length e3, .slice o4 s.sent.length c4, .slice o5 s.got.length c5, .slice o6 s.acks.length c6, .slice q7 s.purses.length e7] by rw [← hw5]; exact ((hr4.set 4 _).set 5 _).set 9 _)
      have HZ5 := hid (show Row w5 (w.heap.size + 1) 28 [.string ⟨#[]⟩, .int .i64 0, .int .i64 0, .slice none 0 0, .slice none 0 0, .slice none 0 0, .slice none 0 0, .slice none 0 0, .slice none 0 0, .slice none 0 0] by rw [← hw5]; exact ((hz4.other _ (by simp)).other _ (by simp)).other _ (by simp))
      have HB5 := hid (show Below w.heap.size w w5 by rw [← hw5]; exact (((HB3.out.trans (hb4.mono HB3.out.size)).setCell (Nat.le_refl _) _).setCell (Nat.le_refl _) _).setCell (Nat.le_refl _) _)
      have hw45 : wr.heap.size ≤ w4.heap.size := hb4.size
      have G1 := hid (H1'.out.on hbb5 (fun b hF => ho5 b (by omega)))
      have G2 := hid (show OwnC 89 cnCells 4 w5 wr.heap.size (.slice q2 s.conns.length e2) s.conns from OwnC.keep H2.out (fun b e => ho5 b (by have := (RowT.own H2.out b e).1; omega)))
      have G3 := hid (show OwnC 53 chCells 7 w5 wr.heap.size (.slice q3 s.chans.length e3) s.chans from OwnC.keep H3.out (fun b e => ho5 b (by have := (RowT.own H3.out b e).1; omega)))
      have G7 := hid (show OwnC 98 puCells 3 w5 wr.heap.size (.slice q7 s.purses.length e7) s.purses from OwnC.keep H7.out (fun b e => ho5 b (by have := (RowT.own H7.out b e).1; omega)))
      rw [hw5]
      clear h2 h3 h7 H2 H3 H7 H1' hr4 hz4 hw5 ho5 hbb5 hb4
      go_upto_region 8 with fail
      refine copyR8 s q1 q2 q3 q7 o4 o5 o6 e1 s.conns.length e2 s.chans.length e3 s.purses.length e7 c4 c5 c6 (.slice o1 s.clients.length c1) (.slice o2 s.conns.length c2) (.slice o3 s.chans.length c3) (.slice o7 s.purses.length c7) (N := N) (by omega) HR5 (hid (HM.out _ HB5.out)) HFEW.out HMF _ (hid ?_)
      intro τ p4 p5 p6 d4 d5 d6 w6 hb6 h4
      have hr6 := HR5.out.below hb6 HR5.out.lt
      have hz6 := HZ5.out.below hb6 HZ5.out.lt
      obtain ⟨w7, hw7⟩ : ∃ w7, ((w6.setCell ⟨w.heap.size, 6, none⟩ (.slice p4 s.sent.length d4)).setCell ⟨w.heap.size, 7, none⟩ (.slice p5 s.got.length d5)).setCell ⟨w.heap.size, 8, none⟩ (.slice p6 s.acks.length d6) = w7 := ⟨_, rfl⟩
      have hs7 : w7.heap.size = w6.heap.size := by rw [← hw7]; simp [World.setCell]
      have ho7 : ∀ b, b ≠ w.heap.size → w7.heap[b]? = w6.heap[b]? := fun b hb => by rw [← hw7]; exact (Below.heap_setCell _ _ _ _ hb).trans ((Below.heap_setCell _ _ _ _ hb).trans (Below.heap_setCell _ _ _ _ hb))
      have hbb7 : Below 0 w6 w7 := by rw [← hw7]; exact (((Below.refl 0 w6).setCell (Nat.zero_le _) _).setCell (Nat.zero_le _) _).setCell (Nat.zero_le _) _
      have HR7 := hid (show Row w7 w.heap.size 28 [.string s.name, .int .i64 s.height, .int .i64 s.time, .slice q1 s.clients.length e1, .slice q2 s.conns.length e2, .slice q3 s.chans.length e3, .slice p4 s.sent.length d4, .slice p5 s.got.length d5, .slice p6 s.acks.length d6, .slice q7 s.purses.length e7] by rw [← hw7]; exact ((hr6.set 6 _).set 7 _).set 8 _)
      have HZ7 := hid (show Row w7 (w.heap.size + 1) 28 [.string ⟨#[]⟩, .int .i64 0, .int .i64 0, .slice none 0 0, .slice none 0 0, .slice none 0 0, .slice none 0 0, .slice none 0 0, .slice none 0 0, .slice none 0 0] by rw [← hw7]; exact ((hz6.other _ (by simp)).other _ (by simp)).other _ (by simp))
      have HB7 := hid (show Below w.heap.size w w7 by rw [← hw7]; exact (((HB5.out.trans (hb6.mono HB5.out.size)).setCell (Nat.le_refl _) _).setCell (Nat.le_refl _) _).setCell (Nat.le_refl _) _)
      have hw67 : w5.heap.size ≤ w6.heap.size := hb6.size
      have I2 := OwnC.keep (G2.out.below hb6) (fun b e => ho7 b (by have := (RowT.own G2.out b e).1; omega))
      have I3 := OwnC.keep (G3.out.below hb6) (fun b e => ho7 b (by have := (RowT.own G3.out b e).1; omega))
      have I7 := OwnC.keep (G7.out.below hb6) (fun b e => ho7 b (by have := (RowT.own G7.out b e).1; omega))
      have HOWN := hid (show StOwnM (fun b => b < N ∨ w0.heap.size ≤ b) w0.heap.size w7 s noX (.slice q1 s.clients.length e1) (.slice q2 s.conns.length e2) (.slice q3 s.chans.length e3) (.slice p4 s.sent.length d4) (.slice p5 s.got.length d5) (.slice p6 s.acks.length d6) (.slice q7 s.purses.length e7) from
        StOwnM.make (m1 := wr.heap.size) (m2 := w5.heap.size) ⟨by omega, by omega, by omega, by omega⟩ ((G1.out.below hb6).on hbb7 (fun b hF => ho7 b (by omega))) I2 I3 I7 (RowT.ne I2 I3 (by decide)) (RowT.ne I2 I7 (by decide)) (RowT.ne I3 I7 (by decide))
          (fun b e => by have := n2 b e; omega) (fun b e => by have := n3 b e; omega) (fun b e => by have := n7 b e; omega) (h4.on hbb7 (fun b hlt hF => ho7 b (by omega))))
      rw [hw7]
      clear I2 I3 I7 h4 hr6 hz6 hw7 ho7 hbb7 hb6 G1 G2 G3 G7 n2 n3 n7
      obtain ⟨w8, hw8⟩ : ∃ w8, w7.setRow (w.heap.size + 1) #[.string s.name, .int .i64 s.height, .int .i64 s.time, .slice q1 s.clients.length e1, .slice q2 s.conns.length e2, .slice q3 s.chans.length e3, .slice p4 s.sent.length d4, .slice p5 s.got.length d5, .slice p6 s.acks.length d6, .slice q7 s.purses.length e7] = w8 := ⟨_, rfl⟩
      have HR8 := hid (show Row w8 (w.heap.size + 1) 28 [.string s.name, .int .i64 s.height, .int .i64 s.time, .slice q1 s.clients.length e1, .slice q2 s.conns.length e2, .slice q3 s.chans.length e3, .slice p4 s.sent.length d4, .slice p5 s.got.length d5, .slice p6 s.acks.length d6, .slice q7 s.purses.length e7] by rw [← hw8]; exact Row.setRow HZ7.out _)
      have HB8 := hid (show Below w.heap.size w w8 by rw [← hw8]; exact below_setRow HB7.out (by omega) _)
      have HO8 := hid (HOWN.out.on (w' := w8) (by rw [← hw8]; exact below_setRow (Below.refl 0 w7) (Nat.zero_le _) _) (fun b _ (hlt : b < N ∨ w0.heap.size ≤ b) => by rw [← hw8]; exact setRow_other _ _ _ _ (by omega)))
      have HW8 := hid hw8
      have HHZ := hid (show w7.heap[w.heap.size + 1]? = some (.cells #[.string ⟨#[]⟩, .int .i64 0, .int .i64 0, .slice none 0 0, .slice none 0 0, .slice none 0 0, .slice none 0 0, .slice none 0 0, .slice none 0 0, .slice none 0 0] 28 (0, 0)) from HZ7.out)
      have HIZ := hid (show (Tryz.prog.info? 28).map (·.size) = some 10 by kernel_rfl)
      have HON := hid (show (#[.string s.name, .int .i64 s.height, .int .i64 s.time, .slice q1 s.clients.length e1, .slice q2 s.conns.length e2, .slice q3 s.chans.length e3, .slice p4 s.sent.length d4, .slice p5 s.got.length d5, .slice p6 s.acks.length d6, .slice q7 s.purses.length e7] : Array Value).all (·.oneCell') = true by simp [Value.oneCell'])
      have k0 : w7.cell? ⟨w.heap.size, 0, none⟩ = some (.string s.name) := HR7.out.cell 0
      have k1 : w7.cell? ⟨w.heap.size, 1, none⟩ = some (.int .i64 s.height) := HR7.out.cell 1
      have k2 : w7.cell? ⟨w.heap.size, 2, none⟩ = some (.int .i64 s.time) := HR7.out.cell 2
      have k3 : w7.cell? ⟨w.heap.size, 3, none⟩ = some (.slice q1 s.clients.length e1) := HR7.out.cell 3
      have k4 : w7.cell? ⟨w.heap.size, 4, none⟩ = some (.slice q2 s.conns.length e2) := HR7.out.cell 4
      have k5 : w7.cell? ⟨w.heap.size, 5, none⟩ = some (.slice q3 s.chans.length e3) := HR7.out.cell 5
      have k6 : w7.cell? ⟨w.heap.size, 6, none⟩ = some (.slice p4 s.sent.length d4) := HR7.out.cell 6
      have k7 : w7.cell? ⟨w.heap.size, 7, none⟩ = some (.slice p5 s.got.length d5) := HR7.out.cell 7
      have k8 : w7.cell? ⟨w.heap.size, 8, none⟩ = some (.slice p6 s.acks.length d6) := HR7.out.cell 8
      have k9 : w7.cell? ⟨w.heap.size, 9, none⟩ = some (.slice q7 s.purses.length e7) := HR7.out.cell 9
      clear hw8
      go_wp2_with (refine wpList_store_row rfl 28 (.tmp 2) (.tmp 48) rfl (w.heap.size + 1) #[.string s.name, .int .i64 s.height, .int .i64 s.time, .slice q1 s.clients.length e1, .slice q2 s.conns.length e2, .slice q3 s.chans.length e3, .slice p4 s.sent.length d4, .slice p5 s.got.length d5, .slice p6 s.acks.length d6, .slice q7 s.purses.length e7] rfl rfl 28 #[.string ⟨#[]⟩, .int .i64 0, .int .i64 0, .slice none 0 0, .slice none 0 0, .slice none 0 0, .slice none 0 0, .slice none 0 0, .slice none 0 0, .slice none 0 0] HHZ.out HIZ.out rfl HON.out ?_)
      rw [HW8.out]
      have y0 := HR8.out.cell 0
      simp at y0
      have y1 := HR8.out.cell 1
      simp at y1
      have y2 := HR8.out.cell 2
      simp at y2
      have y3 := HR8.out.cell 3
      simp at y3
      have y4 := HR8.out.cell 4
      simp at y4
      have y5 := HR8.out.cell 5
      simp at y5
      have y6 := HR8.out.cell 6
      simp at y6
      have y7 := HR8.out.cell 7
      simp at y7
      have y8 := HR8.out.cell 8
      simp at y8
      have y9 := HR8.out.cell 9
      simp at y9
      exact bodyPost_ret (v := .agg #[.string s.name, .int .i64 s.height, .int .i64 s.time, .slice q1 s.clients.length e1, .slice q2 s.conns.length e2, .slice q3 s.chans.length e3, .slice p4 s.sent.length d4, .slice p5 s.got.length d5, .slice p6 s.acks.length d6, .slice q7 s.purses.length e7]) (by simp [results, Tryz.results35, go_sem, y0, y1, y2, y3, y4, y5, y6, y7, y8, y9]) rfl ⟨HB8.out, q1, e1, q2, e2, q3, e3, p4, d4, p5, d5, p6, d6, q7, e7, rfl, (HO8.out.lower (by omega)).wide (fun b _ h => h.imp id (fun h => by omega))⟩
end Go.Proofs.YtclhcjiblfokaaaGreatDoor
namespace Go.Proofs.YtclhcjiblfokaaaGreatDoor
open Go.RowKit

/-- what is shown of the other chain -/
structure Sh where
  height : Int
  prf : Prf
  gap : Gp
def Sh.fits (h : Sh) : Prop := h.prf.fits ∧ h.gap.fits
def ShV (w : World) (N : Nat) (v : Value) (h : Sh) : Prop := ∃ x1 x2 x3 k1 v1 t1 k2 v2 t2, v = .agg #[.int .i64 h.height, .int .i64 h.prf.index, .int .i64 h.prf.size, x1, x2, x3, .bool h.gap.hasL, .bool h.gap.hasR, .int .i64 h.gap.left.index, .int .i64 h.gap.left.size, k1, v1, t1, .int .i64 h.gap.right.index, .int .i64 h.gap.right.size, k2, v2, t2] ∧
  PrfV w N (.agg #[.int .i64 h.prf.index, .int .i64 h.prf.size, x1, x2, x3]) h.prf ∧ GpV w N (.agg #[.bool h.gap.hasL, .bool h.gap.hasR, .int .i64 h.gap.left.index, .int .i64 h.gap.left.size, k1, v1, t1, .int .i64 h.gap.right.index, .int .i64 h.gap.right.size, k2, v2, t2]) h.gap
theorem ShV.below {w w' : World} {N : Nat} {v : Value} {h : Sh} (hv : ShV w N v h) (hg : Below N w w') : ShV w' N v h := by
  obtain ⟨x1, x2, x3, k1, v1, t1, k2, v2, t2, e, hp, hq⟩ := hv
  exact ⟨x1, x2, x3, k1, v1, t1, k2, v2, t2, e, hp.below hg, hq.below hg⟩
theorem ShV.mono {w : World} {N M : Nat} {v : Value} {h : Sh} (hv : ShV w N v h) (hN : N ≤ M) : ShV w M v h := by
  obtain ⟨x1, x2, x3, k1, v1, t1, k2, v2, t2, e, hp, hq⟩ := hv
  exact ⟨x1, x2, x3, k1, v1, t1, k2, v2, t2, e, hp.mono hN, hq.mono hN⟩
/-- .. its slices in the open -/
theorem ShV.open {w : World} {N : Nat} {v : Value} {h : Sh} (hv : ShV w N v h) : ∃ q1 e1 q2 e2 q3 e3 r1 s1 r2 s2 r3 s3 r4 s4 r5 s5 r6 s6,
    v = .agg #[.int .i64 h.height, .int .i64 h.prf.index, .int .i64 h.prf.size, .slice q1 h.prf.key.length e1, .slice q2 h.prf.val.length e2, .slice q3 h.prf.path.length e3, .bool h.gap.hasL, .bool h.gap.hasR, .int .i64 h.gap.left.index, .int .i64 h.gap.left.size, .slice r1 h.gap.left.key.length s1, .slice r2 h.gap.left.val.length s2, .slice r3 h.gap.left.path.length s3, .int .i64 h.gap.right.index, .int .i64 h.gap.right.size, .slice r4 h.gap.right.key.length s4, .slice r5 h.gap.right.val.length s5, .slice r6 h.gap.right.path.length s6] ∧
    PrfV w N (.agg #[.int .i64 h.prf.index, .int .i64 h.prf.size, .slice q1 h.prf.key.length e1, .slice q2 h.prf.val.length e2, .slice q3 h.prf.path.length e3]) h.prf := by
  obtain ⟨x1, x2, x3, k1, v1, t1, k2, v2, t2, rfl, hp, hq⟩ := hv
  have hp' := hp
  obtain ⟨a1, a2, a3, ea, b1, b2, b3⟩ := hp
  obtain ⟨c1, c2, c3, c4, c5, c6, eb, d1, d2, d3, d4, d5, d6⟩ := hq
  simp at ea eb
  obtain ⟨rfl, rfl, rfl⟩ := ea
  obtain ⟨rfl, rfl, rfl, rfl, rfl, rfl⟩ := eb
  obtain ⟨q1, e1, rfl, -⟩ := b1.shape
  obtain ⟨q2, e2, rfl, -⟩ := b2.shape
  obtain ⟨q3, e3, rfl, -⟩ := b3.shape
  obtain ⟨r1, s1, rfl, -⟩ := d1.shape
  obtain ⟨r2, s2, rfl, -⟩ := d2.shape
  obtain ⟨r3, s3, rfl, -⟩ := d3.shape
  obtain ⟨r4, s4, rfl, -⟩ := d4.shape
  obtain ⟨r5, s5, rfl, -⟩ := d5.shape
  obtain ⟨r6, s6, rfl, -⟩ := d6.shape
  exact ⟨_, _, _, _, _, _, _, _, _, _, _, _, _, _, _, _, _, _, rfl, hp'⟩

def clAt (s : St) (c : Int) : Cl := (s.clients[c.toNat]?).getD Cl.none
def cnAt (s : St) (i : Int) : Cn := (s.conns[i.toNat]?).getD ⟨0, 0, 0, 0⟩
theorem clAt_some {s : St} {k : Nat} {x : Cl} (h : s.clients[k]? = some x) : clAt s (k : Int) = x := by unfold clAt; rw [Int.toNat_natCast, h]; rfl
theorem cnAt_some {s : St} {k : Nat} {x : Cn} (h : s.conns[k]? = some x) : cnAt s (k : Int) = x := by unfold cnAt; rw [Int.toNat_natCast, h]; rfl
/-- what keeps something from going over a client -/
def liveN (s : St) (c : Int) : Int := if c < 0 ∨ (s.clients.length : Int) ≤ c then 6 else if activeB (clAt s c) s.time = false then 12 else 0
theorem liveN_none {s : St} {c : Int} (h : c < 0 ∨ (s.clients.length : Int) ≤ c) : liveN s c = 6 := if_pos h
theorem liveN_ok {s : St} {c : Int} (h : liveN s c = 0) : 0 ≤ c ∧ c < (s.clients.length : Int) := by
  unfold liveN at h
  split at h
  · cases h
  · omega
theorem liveN_at {s : St} {k : Nat} {x : Cl} (h : s.clients[k]? = some x) : liveN s (k : Int) = if activeB x s.time = false then 12 else 0 := by
  have := (List.getElem?_eq_some_iff.1 h).1
  unfold liveN
  rw [if_neg (by omega), clAt_some h]
/-- a right state's pieces -/
theorem wrongS_name {s : St} (h : wrongS s = 0) : nameB s.name = true ∧ (fromB 0 s.height = true ∧ fromB 0 s.time = true) ∧ manyB s = false ∧ deepS s = 0 := by
  unfold wrongS at h
  split at h
  · cases h
  split at h
  · cases h
  split at h
  · cases h
  rename_i h1 h2 h3
  refine ⟨by simpa using h1, ?_, by simpa using h3, h⟩
  cases e1 : fromB 0 s.height <;> cases e2 : fromB 0 s.time <;> simp_all
theorem wrongS_client {s : St} (h : wrongS s = 0) : ∀ c ∈ s.clients, wrongCl c = 0 := by
  have h' := (orN_iff _).1 (wrongS_name h).2.2.2
  simp only [List.mem_cons, List.not_mem_nil, or_false, forall_eq_or_imp, forall_eq] at h'
  exact (firstW_iff _ _).1 h'.1
theorem wrongS_few {s : St} (h : wrongS s = 0) : few s := by
  have h3 := (wrongS_name h).2.2.1
  unfold manyB at h3
  have h4 := of_decide_eq_false h3
  exact ⟨by omega, by omega, by omega, by omega, by omega, by omega, by omega, fun c hc => by have := ((wrongCl_iff c).1 (wrongS_client h c hc)).2.2.1; omega⟩
theorem wrongS_time {s : St} (h : wrongS s = 0) : 0 ≤ s.time ∧ s.time ≤ 1000000000000 := (fromB_iff _ _).1 (wrongS_name h).2.1.2
/-- a wrong state's answer is its own -/
theorem wrongS_more {s : St} {l : List Cn} (h : wrongS s = 0) (hl : l.length ≤ 8) (hc : ∀ c ∈ l, wrongCn c = 0) : wrongS { s with conns := l } = 0 := by
  obtain ⟨h1, h2, h3, h4⟩ := wrongS_name h
  have h5 := of_decide_eq_false (show decide _ = false from h3)
  unfold wrongS
  rw [if_neg (by simp [h1]), if_neg (by simp [h2.1, h2.2]), if_neg (by simp [manyB]; omega)]
  have h' := (orN_iff _).1 h4
  simp only [List.mem_cons, List.not_mem_nil, or_false, forall_eq_or_imp, forall_eq] at h'
  refine (orN_iff _).2 ?_
  simp only [List.mem_cons, List.not_mem_nil, or_false, forall_eq_or_imp, forall_eq]
  exact ⟨h'.1, (firstW_iff _ _).2 hc, h'.2.2⟩
/-- what reads as a state: below N, or from base on -/
def HoldsS (N base : Nat) (w : World) (v : Value) (t : St) : Prop := Held (fun b => (b < N ∨ base ≤ b) ∧ b < w.heap.size) w (fun w2 => StV w2 w2.heap.size v t)
theorem HoldsS.now {N base : Nat} {w : World} {v : Value} {t : St} (h : HoldsS N base w v t) : StV w w.heap.size v t := Held.now h
theorem HoldsS.on {N base : Nat} {w w2 : World} {v : Value} {t : St} (h : HoldsS N base w v t) (hb : Below 0 w w2) (hk : ∀ b, b < w.heap.size → b < N ∨ base ≤ b → w2.heap[b]? = w.heap[b]?) : HoldsS N base w2 v t :=
  (Held.on h hb (fun b hF => hk b hF.2 hF.1)).wide (fun _ hF => ⟨hF.1, Nat.lt_of_lt_of_le hF.2 hb.size⟩) (fun _ hF => hF.2)
theorem HoldsS.below {N base : Nat} {w w2 : World} {v : Value} {t : St} (h : HoldsS N base w v t) (hb : Below w.heap.size w w2) : HoldsS N base w2 v t := h.on (hb.mono (Nat.zero_le _)) (fun b hlt _ => hb.block b hlt)
theorem HoldsS.lower {N base base' : Nat} {w : World} {v : Value} {t : St} (h : HoldsS N base w v t) (hb : base' ≤ base) : HoldsS N base' w v t := Held.wide h (fun _ hF => ⟨hF.1.imp id (Nat.le_trans hb), hF.2⟩) (fun _ hF => hF.2)
theorem setRow_below {B g : Nat} {w0 w : World} (hb : Below B w0 w) (hg : B ≤ g) (cs : Array Value) : Below B w0 (w.setRow g cs) := hb.trans ⟨rfl, rfl, rfl, by simp, fun k hk => setRow_other w g k cs (by omega)⟩
theorem HoldsS.row {N base : Nat} {w : World} {v : Value} {t : St} (h : HoldsS N base w v t) {g : Nat} (h1 : N ≤ g) (h2 : g < base) (cs : Array Value) : HoldsS N base (w.setRow g cs) v t :=
  h.on (setRow_below (Below.refl 0 w) (Nat.zero_le _) cs) (fun b _ hlt => setRow_other w g b cs (by omega))
theorem HoldsS.setCell {N base : Nat} {w : World} {v : Value} {t : St} (h : HoldsS N base w v t) {a : Addr} (h1 : N ≤ a.block) (h2 : a.block < base) (x : Value) : HoldsS N base (w.setCell a x) v t :=
  h.on ((Below.refl 0 w).setCell (Nat.zero_le _) x) (fun b _ hlt => Below.heap_setCell _ _ _ _ (by omega))
theorem stV_none (w : World) (N : Nat) : StV w N (.agg #[.string ⟨#[]⟩, .int .i64 0, .int .i64 0, .slice none 0 0, .slice none 0 0, .slice none 0 0, .slice none 0 0, .slice none 0 0, .slice none 0 0, .slice none 0 0]) St.none := ⟨_, _, _, _, _, _, _, rfl, Many.nil _ _ _ _, Many.nil _ _ _ _, Many.nil _ _ _ _, Many.nil _ _ _ _, Many.nil _ _ _ _, Many.nil _ _ _ _, Many.nil _ _ _ _⟩
theorem holdsS_none (N base : Nat) (w : World) : HoldsS N base w (.agg #[.string ⟨#[]⟩, .int .i64 0, .int .i64 0, .slice none 0 0, .slice none 0 0, .slice none 0 0, .slice none 0 0, .slice none 0 0, .slice none 0 0, .slice none 0 0]) St.none := ⟨fun _ h => h.2, fun w2 _ _ => stV_none w2 _⟩
end Go.Proofs.YtclhcjiblfokaaaGreatDoor
