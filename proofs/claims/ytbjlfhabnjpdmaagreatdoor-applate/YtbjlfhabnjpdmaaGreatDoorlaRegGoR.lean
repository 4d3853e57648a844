/-
  A region that draws its order and writes into variables of the call's own.
-/
import Derived.Test.YtbjlfhabnjpdmaaGreatDoorlaRegGo
import Derived.Test.YtbjlfhabnjpdmaaGreatDoorlaFrKit
namespace Go.Proofs.YtbjlfhabnjpdmaaGreatDoor
open Go.RowKit

/-- a relation of worlds that all growth keeps -/
structure Rel (R : World → World → Prop) : Prop where
  low : ∀ W W', Below W.heap.size W W' → R W W'
  trans : ∀ a b c, R a b → R b c → R a c
section
variable (P : Program) (ops : Array Oper) (Q : Exit → Act → World → Prop) (fr : (Nat → Value) → Array Value) (R : World → World → Prop) (w : World) (C : World → Prop) (t : Array Value) (tl : List Oper)
def StayR (G : Fact) : Prop := ∀ v W W', R W W' → G v W → G v W'
def DoesR (o : Oper) (k : Nat) (a : Act) (W : World) (G : Fact) : Prop := ops[k]? = some o → wpOp P ops Q k (fun a' W' => ∃ v, a' = a.put o.dst v ∧ R W W' ∧ G v W') a W
def RS : Nat → List Fact → List Oper → Prop
  | _, F, [] => ∀ σ W, R w W → C W → AllF F 0 σ W → wpList P ops Q tl ⟨fr σ, []⟩ W
  | k, F, o :: l => ∃ G, StayR R G ∧ (∀ σ W, R w W → C W → Has t F o.after k l σ W → DoesR P ops Q R o k ⟨fr σ, []⟩ W G) ∧ RS (k + 1) (F ++ [G]) l
end
variable {P : Program} {ops : Array Oper} {Q : Exit → Act → World → Prop} {fr : (Nat → Value) → Array Value} {R : World → World → Prop} {w : World} {C : World → Prop} {t : Array Value} {tl : List Oper} {F : List Fact} {k : Nat} {o : Oper} {l : List Oper}
theorem RS.facts : ∀ (l : List Oper) (k : Nat) (F : List Fact), RS P ops Q fr R w C t tl k F l → F.length = k → (∀ G ∈ F, StayR R G) → ∃ Fs, Fs.length = k + l.length ∧ (∀ G ∈ Fs, StayR R G) ∧ (∀ i, i < k → Fs[i]? = F[i]?) ∧
    (∀ i o, l[i]? = some o → ∀ σ W, R w W → C W → Has t (Fs.take (k + i)) o.after (k + i) (l.drop (i + 1)) σ W → DoesR P ops Q R o (k + i) ⟨fr σ, []⟩ W (Fs.getD (k + i) (fun _ _ => True))) ∧
    ∀ σ W, R w W → C W → AllF Fs 0 σ W → wpList P ops Q tl ⟨fr σ, []⟩ W
  | [], k, F, h, hk, hs => ⟨F, by simpa using hk, hs, fun _ _ => rfl, fun i o h => by simp at h, h⟩
  | o :: l, k, F, h, hk, hs => by
    obtain ⟨G, h1, h2, h3⟩ := h
    obtain ⟨Fs, e1, e2, e3, e4, e5⟩ := RS.facts l (k + 1) (F ++ [G]) h3 (by simp [hk]) (fun H hH => by
      rcases List.mem_append.1 hH with h | h
      · exact hs H h
      · obtain rfl := List.mem_singleton.1 h; exact h1)
    have eF : Fs.take k = F := by
      apply List.ext_getElem?
      intro i
      rw [List.getElem?_take]
      split
      · rename_i hi
        rw [e3 i (by omega), List.getElem?_append_left (by omega)]
      · rw [List.getElem?_eq_none (by omega)]
    refine ⟨Fs, by simp at e1 ⊢; omega, e2, fun i hi => by rw [e3 i (by omega), List.getElem?_append_left (by omega)], fun i p hp => ?_, e5⟩
    cases i with
    | zero =>
      obtain rfl : o = p := by simpa using hp
      intro σ W hb hc hh
      rw [Nat.add_zero, eF] at hh
      have : Fs.getD (k + 0) (fun _ _ => True) = G := by
        rw [List.getD_eq_getElem?_getD, Nat.add_zero, e3 k (by omega), List.getElem?_append_right (by omega), hk]
        simp
      rw [this]
      exact h2 σ W hb hc hh
    | succ i =>
      have := e4 i p (by simpa using hp)
      rw [show k + 1 + i = k + (i + 1) by omega] at this
      exact this
theorem region_goR {id : Nat} (hR : Rel R) (hm : P.follows .mixedOrders = true) (hC : ∀ W, R w W → C W) (hah : (aheadOps 0 l && apartD l) = true) (hfr : ∀ σ, slotAll t l 0 σ = fr σ) (h : RS P l.toArray Q fr R w C t [] 0 [] l) : (Code.region id l.toArray true).wp P Q ⟨t, []⟩ w := by
  rw [Bool.and_eq_true] at hah
  obtain ⟨Fs, e1, e2, -, e4, e5⟩ := RS.facts l 0 [] h rfl (by simp)
  have hst : ∀ i, StayR R (Fs.getD i (fun _ _ => True)) := fun i => by
    rw [List.getD_eq_getElem?_getD]
    cases hi : Fs[i]? with
    | none => exact fun _ _ _ _ _ => trivial
    | some G => exact e2 G (List.mem_of_getElem? hi)
  have h0 : ∀ s : Array Bool, ∀ i, s.getD i false = true ∨ s.getD i false = false := fun s i => by cases s.getD i false <;> simp
  refine region_inv hm (fun s a W => ∃ σ, s.size = l.length ∧ a = ⟨fr σ, []⟩ ∧ R w W ∧ (∀ i, s.getD i false = true → (Fs.getD i (fun _ _ => True)) (σ i) W) ∧ (∀ i o d, l[i]? = some o → o.dst = some d → s.getD i false = false → σ i = t.getD d undef) ∧ ∀ i o, l[i]? = some o → s.getD i false = true → ∀ e ∈ o.after, Region.binds .any e = true → s.getD e.on false = true) ?_ ?_ ?_
  · refine ⟨fun i => t.getD (((l[i]?).bind (·.dst)).getD 0) undef, by simp, ?_, hR.low _ _ (Below.refl _ _).drew, (fun i hi => by rw [getD_replicate_false] at hi; cases hi), (fun i o d hi hd _ => by simp [hi, hd]), (fun i o _ hi => by rw [getD_replicate_false] at hi; cases hi)⟩
    rw [← hfr, slotAll_start]
    intro j o d hj ho
    simp [hj, ho]
  · rintro s a W ⟨σ, hs, rfl, hb, hg, hu, hd⟩ i hi
    obtain ⟨hun, o, ho, hdep⟩ := mem_ready.1 hi
    have ho' : l[i]? = some o := by simpa using ho
    have hil : i < s.size := by rw [hs]; exact (List.getElem?_eq_some_iff.1 ho').1
    have hui : s.getD i false = false := by
      rw [Array.getD_eq_getD_getElem?, Array.getElem?_eq_getElem hil] at hun ⊢
      exact hun
    have := e4 i o ho' σ W hb (hC W hb) ⟨fun e he hbd => by
      have hlt := aheadOps_get l 0 i o hah.1 ho' e he hbd
      have := hg _ (hdep e he hbd)
      rw [List.getD_eq_getElem?_getD, List.getElem?_take, if_pos hlt, ← List.getD_eq_getElem?_getD]
      exact this, fresh_of _ _ fun q p d hq hpd he => ?_⟩ (by simpa using ho')
    · rw [Nat.zero_add] at this
      refine wpOp_mono ?_ this
      rintro a' W' ⟨v, rfl, h1, h2⟩
      refine ⟨updF σ i v, by simpa using hs, ?_, hR.trans _ _ _ hb h1, fun j hjt => ?_, fun j p d hj hpd hjf => ?_, fun j p hj hjt e he hbd => ?_⟩
      · have := slotAll_put l t 0 i o σ v hah.2 ho'
        rw [Nat.zero_add] at this
        rw [← hfr, ← hfr, this]
      · by_cases e : j = i
        · subst e
          simpa [updF] using h2
        · have hjs : s.getD j false = true := by
            rw [getD_set_ne false (Ne.symm e)] at hjt
            exact hjt
          rw [show updF σ i v j = σ j by simp [updF, e]]
          exact hst j _ _ _ h1 (hg j hjs)
      · by_cases e : j = i
        · subst e
          rw [Array.getD_eq_getD_getElem?, Array.getElem?_setIfInBounds_self_of_lt hil] at hjf
          cases hjf
        · rw [getD_set_ne false (Ne.symm e)] at hjf
          rw [show updF σ i v j = σ j by simp [updF, e]]
          exact hu j p d hj hpd hjf
      · have key : s.getD e.on false = true := by
          by_cases e' : j = i
          · subst e'
            obtain rfl : o = p := by rw [ho'] at hj; exact Option.some.inj hj
            exact hdep e he hbd
          · rw [getD_set_ne false (Ne.symm e')] at hjt
            exact hd j p hj hjt e he hbd
        by_cases e' : e.on = i
        · rw [e', Array.getD_eq_getD_getElem?, Array.getElem?_setIfInBounds_self_of_lt hil]
          rfl
        · rw [getD_set_ne false (Ne.symm e')]
          exact key
    · rw [Nat.zero_add] at he ⊢
      rw [List.getElem?_drop] at hq
      rw [show i + 1 + q = i + 1 + q from rfl]
      obtain ⟨e, hem, hbd, hon⟩ := he
      rcases h0 s (i + 1 + q) with hj | hj
      · have := hd _ p hq hj e hem hbd
        rw [hon, hui] at this
        cases this
      · exact hu _ p d hq hpd hj
  · rintro s a W ⟨σ, hs, rfl, hb, hg, -, -⟩ hr
    refine e5 σ W hb (hC W hb) (allF_of _ _ _ _ fun i hi => ?_)
    rw [Nat.zero_add]
    refine hg i ?_
    have all : ∀ n i, i < n → i < l.length → s.getD i false = true := by
      intro n
      induction n with
      | zero => intro i h; omega
      | succ n ih =>
        intro i hin hil
        cases hb : s.getD i false with
        | true => rfl
        | false =>
          exfalso
          have ho : l[i]? = some l[i] := List.getElem?_eq_getElem hil
          have hah' := aheadOps_get l 0 i _ hah.1 ho
          have : i ∈ Region.ready .any l.toArray s := mem_ready.2 ⟨getD_in (by rw [hs]; exact hil) hb, l[i], by simp, fun e he hbd => ih _ (by have := hah' e he hbd; omega) (by have := hah' e he hbd; omega)⟩
          rw [hr] at this
          cases this
    exact all (i + 1) i (by omega) (by omega)
theorem StayR.eq (v : Value) : StayR R (fun X _ => X = v) := fun _ _ _ _ h => h
theorem doesR_val {a : Act} {W W' : World} {v : Value} {G : Fact} (hw : Region.wanted o (yielded ops a.tmps) = true) (h : (execOp a.eval o).run P W = .ok (.value v) W') (hb : R W W') (hg : G v W') : DoesR P ops Q R o k a W G := fun ho => by
  unfold wpOp
  rw [ho]
  simp only [hw, if_true]
  exact .inl (by unfold Oper.wp; rw [h]; exact ⟨v, rfl, hb, hg⟩)
theorem doesR_call {a : Act} {W : World} {f : FuncId} {args : Array Value} {G : Fact} (hw : Region.wanted o (yielded ops a.tmps) = true) (h : (execOp a.eval o).run P W = .ok (.enter f args) W) (hc : Calls P f args W fun e W' => ∃ v, e = .returned v ∧ R W W' ∧ G v W') : DoesR P ops Q R o k a W G := fun ho => by
  unfold wpOp
  rw [ho]
  simp only [hw, if_true]
  refine .inl ?_
  unfold Oper.wp
  rw [h]
  refine hc.mono ?_
  rintro e W' ⟨v, rfl, hb, hg⟩
  exact ⟨v, rfl, hb, hg⟩
theorem RS.val {v : Value} (hR : Rel R) (hg : o.guard = none) (h : ∀ σ W, R w W → C W → Has t F o.after k l σ W → (execOp (Act.eval ⟨fr σ, []⟩) o).run P W = .ok (.value v) W) (hn : RS P ops Q fr R w C t tl (k + 1) (F ++ [fun X _ => X = v]) l) : RS P ops Q fr R w C t tl k F (o :: l) :=
  ⟨_, StayR.eq v, fun σ W hb hc hh => doesR_val (wanted_of hg) (h σ W hb hc hh) (hR.low _ _ (Below.refl _ _)) rfl, hn⟩
theorem RS.valW {v : Value} (hR : Rel R) (h : ∀ σ W, R w W → C W → Has t F o.after k l σ W → Region.wanted o (yielded ops (fr σ)) = true ∧ (execOp (Act.eval ⟨fr σ, []⟩) o).run P W = .ok (.value v) W) (hn : RS P ops Q fr R w C t tl (k + 1) (F ++ [fun X _ => X = v]) l) : RS P ops Q fr R w C t tl k F (o :: l) :=
  ⟨_, StayR.eq v, fun σ W hb hc hh => doesR_val (h σ W hb hc hh).1 (h σ W hb hc hh).2 (hR.low _ _ (Below.refl _ _)) rfl, hn⟩
theorem RS.pass (hR : Rel R) (h : ∀ σ W, R w W → C W → Has t F o.after k l σ W → Region.wanted o (yielded ops (fr σ)) = false) (hn : RS P ops Q fr R w C t tl (k + 1) (F ++ [fun X _ => X = undef]) l) : RS P ops Q fr R w C t tl k F (o :: l) :=
  ⟨_, StayR.eq undef, fun σ W hb hc hh ho => by
    unfold wpOp
    rw [ho]
    simp only [h σ W hb hc hh]
    exact ⟨undef, rfl, hR.low _ _ (Below.refl _ _), rfl⟩, hn⟩
theorem RS.callG (G : Fact) (hs : StayR R G) (hg : o.guard = none) (h : ∀ σ W, R w W → C W → Has t F o.after k l σ W → ∃ f args, (execOp (Act.eval ⟨fr σ, []⟩) o).run P W = .ok (.enter f args) W ∧ Calls P f args W fun e W' => ∃ v, e = .returned v ∧ R W W' ∧ G v W') (hn : RS P ops Q fr R w C t tl (k + 1) (F ++ [G]) l) : RS P ops Q fr R w C t tl k F (o :: l) :=
  ⟨G, hs, fun σ W hb hc hh => by
    obtain ⟨f, args, h1, h2⟩ := h σ W hb hc hh
    exact doesR_call (wanted_of hg) h1 h2, hn⟩
/-- memory is made, or written -/
theorem RS.new (G : Fact) (hs : StayR R G) (hg : o.guard = none) (h : ∀ σ W, R w W → C W → Has t F o.after k l σ W → ∃ v W', (execOp (Act.eval ⟨fr σ, []⟩) o).run P W = .ok (.value v) W' ∧ R W W' ∧ G v W') (hn : RS P ops Q fr R w C t tl (k + 1) (F ++ [G]) l) : RS P ops Q fr R w C t tl k F (o :: l) :=
  ⟨G, hs, fun σ W hb hc hh => by
    obtain ⟨v, W', h1, h2, h3⟩ := h σ W hb hc hh
    exact doesR_val (wanted_of hg) h1 h2 h3, hn⟩
/-- something is written -/
theorem RS.sto (A : World → Prop) (hs : ∀ W W', R W W' → A W → A W') (hg : o.guard = none) (h : ∀ σ W, R w W → C W → Has t F o.after k l σ W → ∃ W', (execOp (Act.eval ⟨fr σ, []⟩) o).run P W = .ok .skip W' ∧ R W W' ∧ A W') (hn : RS P ops Q fr R w C t tl (k + 1) (F ++ [fun _ W => A W]) l) : RS P ops Q fr R w C t tl k F (o :: l) :=
  ⟨fun _ W => A W, fun _ W W' hb h => hs W W' hb h, fun σ W hb hc hh ho => by
    obtain ⟨W', h1, h2, h3⟩ := h σ W hb hc hh
    unfold wpOp
    rw [ho]
    simp only [wanted_of hg, if_true]
    exact .inl (by unfold Oper.wp; rw [h1]; exact ⟨undef, rfl, h2, h3⟩), hn⟩
/-- some blocks may be written; what is said of them stays, once it is so -/
def Wr (gs : List Nat) (As : List (World → Prop)) (W W' : World) : Prop := Below 0 W W' ∧ (∀ k, k < W.heap.size → k ∉ gs → W'.heap[k]? = W.heap[k]?) ∧ ∀ A ∈ As, A W → A W'
theorem Wr.rel {gs : List Nat} {As : List (World → Prop)} (h : ∀ A ∈ As, ∀ W W', Below W.heap.size W W' → A W → A W') : Rel (Wr gs As) :=
  ⟨fun W W' hb => ⟨hb.mono (Nat.zero_le _), fun k hk _ => hb.block k hk, fun A hA => h A hA W W' hb⟩, fun _ _ _ h1 h2 => ⟨h1.1.trans h2.1, fun k hk hg => (h2.2.1 k (Nat.lt_of_lt_of_le hk h1.1.size) hg).trans (h1.2.1 k hk hg), fun A hA hA1 => h2.2.2 A hA (h1.2.2 A hA hA1)⟩⟩
theorem Wr.below {gs : List Nat} {As : List (World → Prop)} {B : Nat} {W W' : World} (h : Wr gs As W W') (hB : B ≤ W.heap.size) (hg : ∀ g ∈ gs, B ≤ g) : Below B W W' := ⟨h.1.os, h.1.tape, h.1.output, h.1.size, fun k hk => h.2.1 k (by omega) (fun hm => by have := hg k hm; omega)⟩
theorem Wr.row {gs : List Nat} {As : List (World → Prop)} {W W' : World} {g : Nat} {ty : TypeId} {cs : List Value} (h : Wr gs As W W') (hr : Row W g ty cs) (hg : g ∉ gs) : Row W' g ty cs := (h.2.1 g hr.lt hg).trans hr
theorem Wr.write {gs : List Nat} {As : List (World → Prop)} {W W' : World} {g : Nat} (O : Only g W W') (hg : g ∈ gs) (h : ∀ A ∈ As, A W → A W') : Wr gs As W W' := ⟨O.below, fun k _ hk => O.same k (fun e => hk (e ▸ hg)), h⟩
/-- a variable is written -/
theorem exec_store {o : Oper} {ev : Operand → Value} {W : World} {g : Nat} {ty : TypeId} {x y : Operand} {cells : Array Value} {old : List Value} (ho : o.op = .store ty x y) (hx : ev x = .pointer (some ⟨g, 0, none⟩)) (hy : ev y = .agg cells) (hr : Row W g ty old) (hs : Struct ty old.length) (hn : old.length = cells.size) (h1 : cells.all (·.oneCell') = true) :
    (execOp ev o).run Tryz.prog W = .ok .skip (W.setRow g cells) := by
  unfold execOp
  simp only [ho, hx, hy, Instr.storeAt, Instr.sureAddr, Sem.run_bind, Sem.run_pure, Result.andThen_ok, run_storeVar_row W g ty ty old.toArray cells hr (by rw [hs.2, hn]) (by simpa using hn) h1]
theorem row_setRow {W : World} {g : Nat} {ty : TypeId} {old : List Value} (hr : Row W g ty old) (cells : Array Value) : Row (W.setRow g cells) g ty cells.toList := by
  have := setRow_heap W g old.toArray cells ty (0, 0) hr
  unfold Row
  simpa using this
/-- a variable of so many cells -/
def Sp (g : Nat) (ty : TypeId) (n : Nat) (W : World) : Prop := ∃ old, Row W g ty old ∧ old.length = n
theorem Sp.low {g : Nat} {ty : TypeId} {n : Nat} {W W' : World} (hb : Below W.heap.size W W') (h : Sp g ty n W) : Sp g ty n W' := by
  obtain ⟨old, h1, h2⟩ := h
  exact ⟨old, h1.below hb h1.lt, h2⟩
theorem Sp.only {g k : Nat} {ty : TypeId} {n : Nat} {W W' : World} (O : Only k W W') (hk : g ≠ k) (h : Sp g ty n W) : Sp g ty n W' := by
  obtain ⟨old, h1, h2⟩ := h
  exact ⟨old, (O.same g hk).trans h1, h2⟩
/-- a variable is written: the operation, in a region that draws its order -/
theorem Sp.store {o : Oper} {ev : Operand → Value} {W : World} {g n : Nat} {ty : TypeId} {x y : Operand} {cells : Array Value} (h : Sp g ty n W) (ho : o.op = .store ty x y) (hx : ev x = .pointer (some ⟨g, 0, none⟩)) (hy : ev y = .agg cells) (hs : Struct ty n) (hn : n = cells.size) (h1 : cells.all (·.oneCell') = true) :
    ∃ W', (execOp ev o).run Tryz.prog W = .ok .skip W' ∧ Only g W W' ∧ Row W' g ty cells.toList := by
  obtain ⟨old, hr, rfl⟩ := h
  exact ⟨_, exec_store ho hx hy hr hs hn h1, Only.row g W cells, row_setRow hr cells⟩
theorem RS.store {g n : Nat} {ty : TypeId} {x y : Operand} (A : World → Prop) (hs : ∀ W W', R W W' → A W → A W') (hg : o.guard = none) (ho : o.op = .store ty x y) (hsp : ∀ W, R w W → Sp g ty n W) (hst : Struct ty n)
    (h : ∀ σ W, R w W → C W → Has t F o.after k l σ W → ∃ cells : Array Value, Act.eval ⟨fr σ, []⟩ x = .pointer (some ⟨g, 0, none⟩) ∧ Act.eval ⟨fr σ, []⟩ y = .agg cells ∧ n = cells.size ∧ cells.all (·.oneCell') = true ∧ ∀ W', Only g W W' → Row W' g ty cells.toList → R W W' ∧ A W')
    (hn : RS Tryz.prog ops Q fr R w C t tl (k + 1) (F ++ [fun _ W => A W]) l) : RS Tryz.prog ops Q fr R w C t tl k F (o :: l) :=
  RS.sto A hs hg (fun σ W hb hc hh => by
    obtain ⟨cells, h1, h2, h3, h4, h5⟩ := h σ W hb hc hh
    obtain ⟨W', g1, g2, g3⟩ := (hsp W hb).store ho h1 h2 hst h3 h4
    exact ⟨W', g1, h5 W' g2 g3⟩) hn
end Go.Proofs.YtbjlfhabnjpdmaaGreatDoor
