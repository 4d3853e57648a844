/-
  A mark more, in its place: packet.with.
-/
import Derived.Test.YtclhcjiblfokaaaGreatDoorppPkMath
import Derived.Test.YtclhcjiblfokaaaGreatDoorppStCmp
import Derived.Test.YtclhcjiblfokaaaGreatDoorppFrKit
import Derived.Test.YtclhcjiblfokaaaGreatDoorppRegWant
import Derived.Test.YtclhcjiblfokaaaGreatDoorppPkKit
import Derived.Test.YtclhcjiblfokaaaGreatDoorppMkDel
import Derived.Test.YtclhcjiblfokaaaGreatDoorppCoOpened
import Derived.BigQuiet
import Derived.Deep.RegionHeld3
import Derived.Deep.RegionWith
namespace Go.Proofs.YtclhcjiblfokaaaGreatDoor
open Go.RowKit

/-- where a mark stands, or would stand -/
structure AtM (l : List Mk) (ch seq : Int) (i : Nat) (fd : Bool) : Prop where
  le : i ≤ l.length
  lo : ∀ t p, t < i → l[t]? = some p → lessMk p ⟨ch, seq, []⟩ = true
  hi : ∀ t p, i ≤ t → l[t]? = some p → lessMk p ⟨ch, seq, []⟩ = false
  fd : fd = true ↔ ∃ p, l[i]? = some p ∧ p.chan = ch ∧ p.seq = seq
theorem filter_prefix {l : List Mk} {q : Mk → Bool} {i : Nat} (hi : i ≤ l.length) (h1 : ∀ t p, t < i → l[t]? = some p → q p = true) (h2 : ∀ t p, i ≤ t → l[t]? = some p → q p = false) : (l.filter q).length = i := by
  have e : l = l.take i ++ l.drop i := (List.take_append_drop i l).symm
  rw [e, List.filter_append, List.length_append]
  have k1 : (l.take i).filter q = l.take i := List.filter_eq_self.2 fun p hp => by
    obtain ⟨t, ht⟩ := List.getElem?_of_mem hp
    rw [List.getElem?_take] at ht
    split at ht
    · rename_i hlt
      exact h1 t p hlt ht
    · cases ht
  have k2 : (l.drop i).filter q = [] := List.filter_eq_nil_iff.2 fun p hp => by
    obtain ⟨t, ht⟩ := List.getElem?_of_mem hp
    rw [List.getElem?_drop] at ht
    have := h2 (i + t) p (by omega) ht
    simp [this]
  rw [k1, k2, List.length_take]
  simp
  omega
theorem AtM.place {l : List Mk} {ch seq : Int} {i : Nat} {fd : Bool} (h : AtM l ch seq i fd) (hs : SortM l) : i = placeM l ch seq ∧ fd = (hasM l ch seq).isSome := by
  have hp : placeM l ch seq = i := filter_prefix h.le h.lo h.hi
  refine ⟨hp.symm, ?_⟩
  cases hm : hasM l ch seq with
  | some m =>
    have := (place_at (x := ⟨ch, seq, []⟩) hs hm).1
    simp only [hp] at this
    have hk := hasM_ok hm
    exact h.fd.2 ⟨m, this, hk.2⟩
  | none =>
    cases hf : fd with
    | false => rfl
    | true =>
      obtain ⟨p, h1, h2⟩ := h.fd.1 hf
      exact absurd h2 (hasM_none hm p (List.mem_of_getElem? h1))
theorem sortM_lt {l : List Mk} (h : SortM l) {i j : Nat} {a b : Mk} (hij : i < j) (ha : l[i]? = some a) (hb : l[j]? = some b) : lessMk a b = true := by
  obtain ⟨h1, e1⟩ := List.getElem?_eq_some_iff.1 ha
  obtain ⟨h2, e2⟩ := List.getElem?_eq_some_iff.1 hb
  have h' : l.Pairwise fun a b => lessMk a b = true := h
  rw [List.pairwise_iff_getElem] at h'
  have := h' i j h1 h2 hij
  rwa [e1, e2] at this
/-- how two marks compare -/
def cmpM (a : Mk) (ch seq : Int) : Int := orN [cmpN a.chan ch, cmpN a.seq seq]
theorem cmpM_neg (a : Mk) (ch seq : Int) : cmpM a ch seq < 0 ↔ lessMk a ⟨ch, seq, []⟩ = true := by
  have := lessMk_cmp a ⟨ch, seq, []⟩
  rw [this]
  simp [cmpM]
theorem cmpM_zero (a : Mk) (ch seq : Int) : cmpM a ch seq = 0 ↔ a.chan = ch ∧ a.seq = seq := by
  unfold cmpM
  rw [orN_iff]
  simp only [List.mem_cons, List.not_mem_nil, or_false, forall_eq_or_imp, forall_eq]
  unfold cmpN
  constructor
  · rintro ⟨h1, h2⟩
    refine ⟨?_, ?_⟩
    · split at h1
      · cases h1
      · split at h1
        · cases h1
        · omega
    · split at h2
      · cases h2
      · split at h2
        · cases h2
        · omega
  · rintro ⟨rfl, rfl⟩
    simp
set_option maxRecDepth 100000 in
set_option maxHeartbeats 4000000 in
theorem srchR5 {y1 y3 y5 y6 y7 y8 y9 y10 y12 y13 y14 y15 y16 y17 y18 y19 y20 y21 y22 y23 y32 y33 y34 y35 y36 y37 y38 y39 y40 y41 y42 y43 y44 y45 y46 y47 y48 z24 z25 z26 z27 z28 z29 z30 z31 : Value} {gt b f k n ca : Nat} {p0 p1 ch seq cc : Int} {od : Option Addr} {nd cd : Nat} {w : World} (hgt : Hid (Row w gt 59 [.int .i64 ch, .int .i64 seq, .slice none 0 0])) (hlb : (k : Int) < (n : Int)) (hbb : b < w.heap.size) (hcb : Hid (w.cell? ⟨b, f + k * 3, none⟩ = some (.int .i64 p0) ∧ w.cell? ⟨b, f + k * 3 + 1, none⟩ = some (.int .i64 p1) ∧ w.cell? ⟨b, f + k * 3 + 2, none⟩ = some (.slice od nd cd))) (hcc : ∀ W, Below w.heap.size w W → Calls Tryz.prog 69 #[.agg #[.int .i64 p0, .int .i64 p1, .slice od nd cd], .agg #[.int .i64 ch, .int .i64 seq, .slice none 0 0]] W fun e w' => e = .returned (.int .i64 cc) ∧ Below W.heap.size W w') (Q : Exit → Act → World → Prop)
    (hQ : Hid (∀ (σ : Nat → Value) (w' : World), Below w.heap.size w w' → σ 7 = .bool (decide (cc < 0)) → Q .normal ⟨#[.slice (some ⟨b, f, none⟩) n ca, y1, .func (.func 69) #[] #[], y3, .pointer (some ⟨gt, 0, none⟩), y5, y6, y7, y8, y9, y10, .int .i64 (k : Int), y12, y13, y14, y15, y16, y17, y18, y19, y20, y21, y22, y23, σ 0, σ 1, σ 2, σ 3, σ 4, σ 5, σ 6, σ 7, y32, y33, y34, y35, y36, y37, y38, y39, y40, y41, y42, y43, y44, y45, y46, y47, y48], []⟩ w')) :
    Code.wp Tryz.prog (.region 5 ((Tryz.f130.body.bind (regOf 5)).getD #[]) true) Q ⟨#[.slice (some ⟨b, f, none⟩) n ca, y1, .func (.func 69) #[] #[], y3, .pointer (some ⟨gt, 0, none⟩), y5, y6, y7, y8, y9, y10, .int .i64 (k : Int), y12, y13, y14, y15, y16, y17, y18, y19, y20, y21, y22, y23, z24, z25, z26, z27, z28, z29, z30, z31, y32, y33, y34, y35, y36, y37, y38, y39, y40, y41, y42, y43, y44, y45, y46, y47, y48], []⟩ w := by
  conv => arg 2; arg 2; whnf
  conv => arg 4; dsimp only
  refine region_grows (by kernel_rfl) (fun σ => #[.slice (some ⟨b, f, none⟩) n ca, y1, .func (.func 69) #[] #[], y3, .pointer (some ⟨gt, 0, none⟩), y5, y6, y7, y8, y9, y10, .int .i64 (k : Int), y12, y13, y14, y15, y16, y17, y18, y19, y20, y21, y22, y23, σ 0, σ 1, σ 2, σ 3, σ 4, σ 5, σ 6, σ 7, y32, y33, y34, y35, y36, y37, y38, y39, y40, y41, y42, y43, y44, y45, y46, y47, y48]) (fun i => ([z24, z25, z26, z27, z28, z29, z30, z31] : List Value).getD i undef) rfl (fun i X W => match i with
    | 0 => X = .func (.func 69) #[] #[]
    | 1 => X = .slice (some ⟨b, f, none⟩) n ca
    | 2 => X = .int .i64 (k : Int)
    | 3 => X = .pointer (some ⟨b, f + k * 3, none⟩)
    | 4 => X = .agg #[.int .i64 p0, .int .i64 p1, .slice od nd cd]
    | 5 => X = .agg #[.int .i64 ch, .int .i64 seq, .slice none 0 0]
    | 6 => X = .int .i64 cc
    | 7 => X = .bool (decide (cc < 0))
    | _ => True) ?_ (by kernel_rfl) ?_ ?_
  · intro i X W W' HB H
    iterate 8 (obtain _ | i := i; first | exact H)
    exact H
  · refine ⟨?_, ?_, ?_, ?_, ?_, ?_, ?_, ?_, trivial⟩
    all_goals (intro σ W HJ hdep; simp [Region.binds] at hdep; have HJ := hid HJ; obtain ⟨gtk0, gtk1, gtk2⟩ := (hgt.out.below HJ.out hgt.out.lt).k3; obtain ⟨bk0, bk1, bk2⟩ := hcb.out; replace bk0 := (HJ.out.cell (by exact hbb)).trans bk0; replace bk1 := (HJ.out.cell (by exact hbb)).trans bk1; replace bk2 := (HJ.out.cell (by exact hbb)).trans bk2)
    · refine wpOp_plain rfl rfl ?_; go_simp; exact Left.mk0 _ (by first | rfl | simp [updF, *]) HJ.out rfl
    · refine wpOp_plain rfl rfl ?_; go_simp; exact Left.mk0 _ (by first | rfl | simp [updF, *]) HJ.out rfl
    · refine wpOp_plain rfl rfl ?_; go_simp; exact Left.mk0 _ (by first | rfl | simp [updF, *]) HJ.out rfl
    · refine wpOp_plain rfl rfl ?_; go_simp; exact Left.mk0 _ (by first | rfl | simp [updF, *]) HJ.out rfl
    · refine wpOp_plain rfl rfl ?_; go_simp; exact Left.mk0 _ (by first | rfl | simp [updF, *]) HJ.out rfl
    · refine wpOp_plain rfl rfl ?_; go_simp; exact Left.mk0 _ (by first | rfl | simp [updF, *]) HJ.out rfl
    · have HC := hid (hcc W HJ.out); refine wpOp_plain rfl rfl ?_; go_simp; refine HC.out.mono ?_; rintro e w2 ⟨rfl, hb⟩; exact Left.mk _ (by first | rfl | simp [updF, *]) hb HJ.out rfl
    · refine wpOp_plain rfl rfl ?_; go_simp; exact Left.mk0 _ (by first | rfl | simp [updF, *]) HJ.out rfl
  · intro σ w' hb hg
    exact hQ.out σ w' hb (hg 7 (by decide))
set_option maxRecDepth 100000 in
set_option maxHeartbeats 4000000 in
theorem srchR8 {y1 y3 y5 y10 y11 y12 y13 y14 y15 y16 y17 y18 y19 y20 y21 y22 y23 y24 y25 y26 y27 y28 y29 y30 y31 y32 y33 y34 z6 z7 z35 z36 z37 z38 z39 z40 z41 z42 z43 z44 z45 z46 z47 z48 : Value} {gt b f k n ca : Nat} {p0 p1 ch seq cc : Int} {od : Option Addr} {nd cd : Nat} {w : World} (hgt : Hid (Row w gt 59 [.int .i64 ch, .int .i64 seq, .slice none 0 0])) (hlb : (k : Int) < (n : Int)) (hbb : b < w.heap.size) (hcb : Hid (w.cell? ⟨b, f + k * 3, none⟩ = some (.int .i64 p0) ∧ w.cell? ⟨b, f + k * 3 + 1, none⟩ = some (.int .i64 p1) ∧ w.cell? ⟨b, f + k * 3 + 2, none⟩ = some (.slice od nd cd))) (hcc : ∀ W, Below w.heap.size w W → Calls Tryz.prog 69 #[.agg #[.int .i64 p0, .int .i64 p1, .slice od nd cd], .agg #[.int .i64 ch, .int .i64 seq, .slice none 0 0]] W fun e w' => e = .returned (.int .i64 cc) ∧ Below W.heap.size W w') (Q : Exit → Act → World → Prop)
    (hQ : Hid (∀ (σ : Nat → Value) (w' : World), Below w.heap.size w w' → σ 14 = .int .i64 (k : Int) → σ 15 = .bool (cc == 0) → Q .normal ⟨#[.slice (some ⟨b, f, none⟩) n ca, y1, .func (.func 69) #[] #[], y3, .pointer (some ⟨gt, 0, none⟩), y5, σ 14, σ 15, .int .i64 (n : Int), .int .i64 (k : Int), y10, y11, y12, y13, y14, y15, y16, y17, y18, y19, y20, y21, y22, y23, y24, y25, y26, y27, y28, y29, y30, y31, y32, y33, y34, σ 0, σ 1, σ 2, σ 3, σ 4, σ 5, σ 6, σ 7, σ 8, σ 9, σ 10, σ 11, σ 12, σ 13], []⟩ w')) :
    Code.wp Tryz.prog (.region 8 ((Tryz.f130.body.bind (regOf 8)).getD #[]) true) Q ⟨#[.slice (some ⟨b, f, none⟩) n ca, y1, .func (.func 69) #[] #[], y3, .pointer (some ⟨gt, 0, none⟩), y5, z6, z7, .int .i64 (n : Int), .int .i64 (k : Int), y10, y11, y12, y13, y14, y15, y16, y17, y18, y19, y20, y21, y22, y23, y24, y25, y26, y27, y28, y29, y30, y31, y32, y33, y34, z35, z36, z37, z38, z39, z40, z41, z42, z43, z44, z45, z46, z47, z48], []⟩ w := by
  conv => arg 2; arg 2; whnf
  conv => arg 4; dsimp only
  refine region_grows (by kernel_rfl) (fun σ => #[.slice (some ⟨b, f, none⟩) n ca, y1, .func (.func 69) #[] #[], y3, .pointer (some ⟨gt, 0, none⟩), y5, σ 14, σ 15, .int .i64 (n : Int), .int .i64 (k : Int), y10, y11, y12, y13, y14, y15, y16, y17, y18, y19, y20, y21, y22, y23, y24, y25, y26, y27, y28, y29, y30, y31, y32, y33, y34, σ 0, σ 1, σ 2, σ 3, σ 4, σ 5, σ 6, σ 7, σ 8, σ 9, σ 10, σ 11, σ 12, σ 13]) (fun i => ([z35, z36, z37, z38, z39, z40, z41, z42, z43, z44, z45, z46, z47, z48, z6, z7] : List Value).getD i undef) rfl (fun i X W => match i with
    | 0 => X = .int .i64 (k : Int)
    | 1 => X = .int .i64 (k : Int)
    | 2 => X = .int .i64 (n : Int)
    | 3 => X = .bool true
    | 4 => X = .bool true
    | 5 => X = .func (.func 69) #[] #[]
    | 6 => X = .slice (some ⟨b, f, none⟩) n ca
    | 7 => X = .int .i64 (k : Int)
    | 8 => X = .pointer (some ⟨b, f + k * 3, none⟩)
    | 9 => X = .agg #[.int .i64 p0, .int .i64 p1, .slice od nd cd]
    | 10 => X = .agg #[.int .i64 ch, .int .i64 seq, .slice none 0 0]
    | 11 => X = .int .i64 cc
    | 12 => X = .bool (cc == 0)
    | 13 => X = .bool (cc == 0)
    | 14 => X = .int .i64 (k : Int)
    | 15 => X = .bool (cc == 0)
    | _ => True) ?_ (by kernel_rfl) ?_ ?_
  · intro i X W W' HB H
    iterate 16 (obtain _ | i := i; first | exact H)
    exact H
  · refine ⟨?_, ?_, ?_, ?_, ?_, ?_, ?_, ?_, ?_, ?_, ?_, ?_, ?_, ?_, ?_, ?_, trivial⟩
    all_goals (intro σ W HJ hdep; simp [Region.binds] at hdep; have HJ := hid HJ; obtain ⟨gtk0, gtk1, gtk2⟩ := (hgt.out.below HJ.out hgt.out.lt).k3; obtain ⟨bk0, bk1, bk2⟩ := hcb.out; replace bk0 := (HJ.out.cell (by exact hbb)).trans bk0; replace bk1 := (HJ.out.cell (by exact hbb)).trans bk1; replace bk2 := (HJ.out.cell (by exact hbb)).trans bk2)
    · refine wpOp_plain rfl rfl ?_; go_simp; exact Left.mk0 _ (by first | rfl | simp [updF, *]) HJ.out rfl
    · refine wpOp_plain rfl rfl ?_; go_simp; exact Left.mk0 _ (by first | rfl | simp [updF, *]) HJ.out rfl
    · refine wpOp_plain rfl rfl ?_; go_simp; exact Left.mk0 _ (by first | rfl | simp [updF, *]) HJ.out rfl
    · refine wpOp_plain rfl rfl ?_; go_simp; exact Left.mk0 _ (by first | rfl | simp [updF, *]) HJ.out rfl
    · refine wpOp_plain rfl rfl ?_; go_simp; exact Left.mk0 _ (by first | rfl | simp [updF, *]) HJ.out rfl
    · refine wpOp_want rfl (by simp [Region.wanted, yielded, *]) ?_; go_simp; exact Left.mk0 _ (by first | rfl | simp [updF, *]) HJ.out rfl
    · refine wpOp_want rfl (by simp [Region.wanted, yielded, *]) ?_; go_simp; exact Left.mk0 _ (by first | rfl | simp [updF, *]) HJ.out rfl
    · refine wpOp_want rfl (by simp [Region.wanted, yielded, *]) ?_; go_simp; exact Left.mk0 _ (by first | rfl | simp [updF, *]) HJ.out rfl
    · refine wpOp_want rfl (by simp [Region.wanted, yielded, *]) ?_; go_simp; exact Left.mk0 _ (by first | rfl | simp [updF, *]) HJ.out rfl
    · refine wpOp_want rfl (by simp [Region.wanted, yielded, *]) ?_; go_simp; exact Left.mk0 _ (by first | rfl | simp [updF, *]) HJ.out rfl
    · refine wpOp_want rfl (by simp [Region.wanted, yielded, *]) ?_; go_simp; exact Left.mk0 _ (by first | rfl | simp [updF, *]) HJ.out rfl
    · have HC := hid (hcc W HJ.out); refine wpOp_want rfl (by simp [Region.wanted, yielded, *]) ?_; go_simp; refine HC.out.mono ?_; rintro e w2 ⟨rfl, hb⟩; exact Left.mk _ (by first | rfl | simp [updF, *]) hb HJ.out rfl
    · refine wpOp_want rfl (by simp [Region.wanted, yielded, *]) ?_; go_simp; exact Left.mk0 _ (by first | rfl | simp [updF, *]) HJ.out rfl
    · refine wpOp_plain rfl rfl ?_; go_simp; exact Left.mk0 _ (by first | rfl | simp [updF, *]) HJ.out rfl
    · refine wpOp_plain rfl rfl ?_; go_simp; exact Left.mk0 _ (by first | rfl | simp [updF, *]) HJ.out rfl
    · refine wpOp_plain rfl rfl ?_; go_simp; exact Left.mk0 _ (by first | rfl | simp [updF, *]) HJ.out rfl
  · intro σ w' hb hg
    exact hQ.out σ w' hb (hg 14 (by decide)) (hg 15 (by decide))
set_option maxRecDepth 100000 in
set_option maxHeartbeats 4000000 in
theorem srchR8n {y1 y3 y5 y10 y11 y12 y13 y14 y15 y16 y17 y18 y19 y20 y21 y22 y23 y24 y25 y26 y27 y28 y29 y30 y31 y32 y33 y34 z6 z7 z35 z36 z37 z38 z39 z40 z41 z42 z43 z44 z45 z46 z47 z48 : Value} {gt k n : Nat} {sv : Value} {w : World}  (hge : ¬ (k : Int) < (n : Int)) (Q : Exit → Act → World → Prop)
    (hQ : Hid (∀ (σ : Nat → Value) (w' : World), Below w.heap.size w w' → σ 14 = .int .i64 (k : Int) → σ 15 = .bool false → Q .normal ⟨#[sv, y1, .func (.func 69) #[] #[], y3, .pointer (some ⟨gt, 0, none⟩), y5, σ 14, σ 15, .int .i64 (n : Int), .int .i64 (k : Int), y10, y11, y12, y13, y14, y15, y16, y17, y18, y19, y20, y21, y22, y23, y24, y25, y26, y27, y28, y29, y30, y31, y32, y33, y34, σ 0, σ 1, σ 2, σ 3, σ 4, σ 5, σ 6, σ 7, σ 8, σ 9, σ 10, σ 11, σ 12, σ 13], []⟩ w')) :
    Code.wp Tryz.prog (.region 8 ((Tryz.f130.body.bind (regOf 8)).getD #[]) true) Q ⟨#[sv, y1, .func (.func 69) #[] #[], y3, .pointer (some ⟨gt, 0, none⟩), y5, z6, z7, .int .i64 (n : Int), .int .i64 (k : Int), y10, y11, y12, y13, y14, y15, y16, y17, y18, y19, y20, y21, y22, y23, y24, y25, y26, y27, y28, y29, y30, y31, y32, y33, y34, z35, z36, z37, z38, z39, z40, z41, z42, z43, z44, z45, z46, z47, z48], []⟩ w := by
  conv => arg 2; arg 2; whnf
  conv => arg 4; dsimp only
  refine region_grows (by kernel_rfl) (fun σ => #[sv, y1, .func (.func 69) #[] #[], y3, .pointer (some ⟨gt, 0, none⟩), y5, σ 14, σ 15, .int .i64 (n : Int), .int .i64 (k : Int), y10, y11, y12, y13, y14, y15, y16, y17, y18, y19, y20, y21, y22, y23, y24, y25, y26, y27, y28, y29, y30, y31, y32, y33, y34, σ 0, σ 1, σ 2, σ 3, σ 4, σ 5, σ 6, σ 7, σ 8, σ 9, σ 10, σ 11, σ 12, σ 13]) (fun i => ([z35, z36, z37, z38, z39, z40, z41, z42, z43, z44, z45, z46, z47, z48, z6, z7] : List Value).getD i undef) rfl (fun i X W => match i with
    | 0 => X = .int .i64 (k : Int)
    | 1 => X = .int .i64 (k : Int)
    | 2 => X = .int .i64 (n : Int)
    | 3 => X = .bool false
    | 4 => X = .bool false
    | 5 => X = undef
    | 6 => X = undef
    | 7 => X = undef
    | 8 => X = undef
    | 9 => X = undef
    | 10 => X = undef
    | 11 => X = undef
    | 12 => X = undef
    | 13 => X = .bool false
    | 14 => X = .int .i64 (k : Int)
    | 15 => X = .bool false
    | _ => True) ?_ (by kernel_rfl) ?_ ?_
  · intro i X W W' HB H
    iterate 16 (obtain _ | i := i; first | exact H)
    exact H
  · refine ⟨?_, ?_, ?_, ?_, ?_, ?_, ?_, ?_, ?_, ?_, ?_, ?_, ?_, ?_, ?_, ?_, trivial⟩
    all_goals (intro σ W HJ hdep; simp [Region.binds] at hdep; have HJ := hid HJ)
    · refine wpOp_plain rfl rfl ?_; go_simp; exact Left.mk0 _ (by first | rfl | simp [updF, *]) HJ.out rfl
    · refine wpOp_plain rfl rfl ?_; go_simp; exact Left.mk0 _ (by first | rfl | simp [updF, *]) HJ.out rfl
    · refine wpOp_plain rfl rfl ?_; go_simp; exact Left.mk0 _ (by first | rfl | simp [updF, *]) HJ.out rfl
    · refine wpOp_plain rfl rfl ?_; go_simp; exact Left.mk0 _ (by first | rfl | simp [updF, *]) HJ.out rfl
    · refine wpOp_plain rfl rfl ?_; go_simp; exact Left.mk0 _ (by first | rfl | simp [updF, *]) HJ.out rfl
    · refine wpOp_skip rfl (by simp [Region.wanted, yielded, *]) ?_; exact Left.mk0 undef (by first | rfl | simp [updF, *]) HJ.out rfl
    · refine wpOp_skip rfl (by simp [Region.wanted, yielded, *]) ?_; exact Left.mk0 undef (by first | rfl | simp [updF, *]) HJ.out rfl
    · refine wpOp_skip rfl (by simp [Region.wanted, yielded, *]) ?_; exact Left.mk0 undef (by first | rfl | simp [updF, *]) HJ.out rfl
    · refine wpOp_skip rfl (by simp [Region.wanted, yielded, *]) ?_; exact Left.mk0 undef (by first | rfl | simp [updF, *]) HJ.out rfl
    · refine wpOp_skip rfl (by simp [Region.wanted, yielded, *]) ?_; exact Left.mk0 undef (by first | rfl | simp [updF, *]) HJ.out rfl
    · refine wpOp_skip rfl (by simp [Region.wanted, yielded, *]) ?_; exact Left.mk0 undef (by first | rfl | simp [updF, *]) HJ.out rfl
    · refine wpOp_skip rfl (by simp [Region.wanted, yielded, *]) ?_; exact Left.mk0 undef (by first | rfl | simp [updF, *]) HJ.out rfl
    · refine wpOp_skip rfl (by simp [Region.wanted, yielded, *]) ?_; exact Left.mk0 undef (by first | rfl | simp [updF, *]) HJ.out rfl
    · refine wpOp_plain rfl rfl ?_; go_simp; exact Left.mk0 _ (by first | rfl | simp [updF, *]) HJ.out rfl
    · refine wpOp_plain rfl rfl ?_; go_simp; exact Left.mk0 _ (by first | rfl | simp [updF, *]) HJ.out rfl
    · refine wpOp_plain rfl rfl ?_; go_simp; exact Left.mk0 _ (by first | rfl | simp [updF, *]) HJ.out rfl
  · intro σ w' hb hg
    exact hQ.out σ w' hb (hg 14 (by decide)) (hg 15 (by decide))
set_option maxRecDepth 100000 in
set_option maxHeartbeats 4000000 in
theorem msearch_any (l : List Mk) (ch seq : Int) (sv : Value) (N : Nat) (w : World) (lb : Array Value) (hlb : lb = #[]) (hN : N ≤ w.heap.size) (hl : Many MkR 3 w N sv l) (hs : SortM l) (hlen : l.length ≤ 1000000) :
    Calls Tryz.prog 130 #[sv, .agg #[.int .i64 ch, .int .i64 seq, .slice none 0 0], .func (.func 69) #[] lb] w fun e w' => Below w.heap.size w w' ∧ ∃ i fd, AtM l ch seq i fd ∧ e = .returned (.tuple #[.int .i64 (i : Nat), .bool fd]) := by
  subst hlb
  obtain ⟨oa, ca, rfl, hca⟩ := hl.shape
  have HL := hid hl
  have HS := hid hs
  clear hl hs
  generalize hn : l.length = n at *
  have HN := hid hn
  clear hn
  have HCMP := hid (show ∀ (wr : World) (b o j : Nat) (p : Mk), oa = some ⟨b, o, none⟩ → Below w.heap.size w wr → l[j]? = some p → ∃ od cd, wr.cell? ⟨b, o + j * 3, none⟩ = some (.int .i64 p.chan) ∧ wr.cell? ⟨b, o + j * 3 + 1, none⟩ = some (.int .i64 p.seq) ∧ wr.cell? ⟨b, o + j * 3 + 2, none⟩ = some (.slice od p.dig.length cd) ∧ b < wr.heap.size ∧
      ∀ W, Below wr.heap.size wr W → Calls Tryz.prog 69 #[.agg #[.int .i64 p.chan, .int .i64 p.seq, .slice od p.dig.length cd], .agg #[.int .i64 ch, .int .i64 seq, .slice none 0 0]] W (fun e w' => e = .returned (.int .i64 (cmpM p ch seq)) ∧ Below W.heap.size W w') from by
    intro wr b o j p hoa hb hp
    obtain ⟨b', o', he, hcells⟩ := HL.out.spot (by have := (List.getElem?_eq_some_iff.1 hp).1; rw [HN.out] at this; omega)
    rw [hoa] at he
    obtain ⟨rfl, rfl⟩ : b = b' ∧ o = o' := by simpa using he
    obtain ⟨hbN, r, ⟨dv, rfl, hdv⟩, hc⟩ := hcells j p hp
    obtain ⟨od, cd, rfl, -⟩ := hdv.shape
    have c0 := hc 0 _ rfl
    have c1 := hc 1 _ rfl
    have c2 := hc 2 _ rfl
    rw [Nat.add_zero] at c0
    refine ⟨od, cd, (hb.cell (p := ⟨b, o + j * 3, none⟩) (by show b < _; omega)).trans c0, (hb.cell (p := ⟨b, o + j * 3 + 1, none⟩) (by show b < _; omega)).trans c1, (hb.cell (p := ⟨b, o + j * 3 + 2, none⟩) (by show b < _; omega)).trans c2, by have := hb.size; omega, fun W _ => ?_⟩
    refine (compareMarks_any p ⟨ch, seq, []⟩ od none cd 0 W).mono ?_
    rintro e w' ⟨rfl, hb'⟩
    exact ⟨rfl, hb'⟩)
  go_enter Tryz.func130, Tryz.ntmps130
  go_upto_region 1 with fail
  refine fbox1 ?_
  intro w0 F0 hs0
  have HB0 := hid F0.b
  have HR0 := hid F0.r0
  clear hs0 F0
  go_wp2_with fail
  go_loopw [9, 10] (fun s9 s10 wr => ∃ lo hi : Nat, s9 = .int .i64 lo ∧ s10 = .int .i64 hi ∧ lo ≤ hi ∧ hi ≤ n ∧ Hid (Below w0.heap.size w0 wr) ∧ Hid ((∀ t p, t < lo → l[t]? = some p → lessMk p ⟨ch, seq, []⟩ = true) ∧ (∀ t p, hi ≤ t → l[t]? = some p → lessMk p ⟨ch, seq, []⟩ = false))) (fun s9 s10 _ => (intOf s10).toNat - (intOf s9).toNat)
  case atStart => exact ⟨0, n, rfl, rfl, Nat.zero_le _, Nat.le_refl _, Below.refl _ _, fun t p ht => absurd ht (Nat.not_lt_zero _), fun t p h1 h2 => by have := (List.getElem?_eq_some_iff.1 h2).1; rw [HN.out] at this; omega⟩
  case round =>
    obtain ⟨lo, hi, rfl, rfl, hlh, hin, HB, HI⟩ := hrel
    have HBW := hid (HB0.out.trans (HB.out.mono HB0.out.size))
    by_cases hlt : lo < hi
    · have hml : (lo + hi) / 2 < n := by omega
      obtain ⟨p, hp⟩ : ∃ p, l[(lo + hi) / 2]? = some p := ⟨l[(lo + hi) / 2]'(by rw [HN.out]; exact hml), List.getElem?_eq_getElem _⟩
      obtain ⟨b, o, rfl, _⟩ := HL.out.spot (by omega)
      obtain ⟨od, cd, d0, d1, d2, hbl, hc⟩ := HCMP.out wr b o _ p rfl HBW.out hp
      have HCC := hid hc
      have HP := hid hp
      clear hc hp
      obtain ⟨h, hh⟩ : ∃ h, (lo + hi) / 2 = h := ⟨_, rfl⟩
      rw [hh] at d0 d1 d2 HP hml
      have hln : (h : Int) < (n : Int) := by omega
      have hh1 : ((lo : Int) + (hi : Int)) / 2 = (h : Int) := by omega
      have hlt' : (lo : Int) < (hi : Int) := by omega
      have HH := hid hh
      clear hh
      by_cases hyx : cmpM p ch seq < 0
      · have HLT := hid ((cmpM_neg _ _ _).1 hyx)
        have hyx' : decide (cmpM p ch seq < 0) = true := by simpa using hyx
        generalize cmpM p ch seq = cc at *
        go_upto_region 5 with fail
        refine srchR5 (hid (HR0.out.below HB.out HR0.out.lt)) hln hbl (hid ⟨d0, d1, d2⟩) HCC.out _ (hid ?_)
        intro σ w2 hb2 e7
        have HB2 := hid (HB.out.trans (hb2.mono HB.out.size))
        rw [e7]
        clear e7 hb2
        go_wp2_with fail
        have hx := HH.out
        refine ⟨⟨h + 1, hi, by go_num, rfl, by omega, hin, HB2.out, ?_, HI.out.2⟩, by simp [intOf]; omega⟩
        intro t q ht hq
        by_cases e : t = h
        · subst e
          rw [HP.out] at hq
          obtain rfl : p = q := by simpa using hq
          exact HLT.out
        · exact lessMk_trans (sortM_lt HS.out (show t < h by omega) hq HP.out) HLT.out
      · have HLT := hid (fun h => hyx ((cmpM_neg p ch seq).2 h))
        have hyx' : decide (cmpM p ch seq < 0) = false := by simpa using hyx
        generalize cmpM p ch seq = cc at *
        go_upto_region 5 with fail
        refine srchR5 (hid (HR0.out.below HB.out HR0.out.lt)) hln hbl (hid ⟨d0, d1, d2⟩) HCC.out _ (hid ?_)
        intro σ w2 hb2 e7
        have HB2 := hid (HB.out.trans (hb2.mono HB.out.size))
        rw [e7]
        clear e7 hb2
        go_wp2_with fail
        have hx := HH.out
        refine ⟨⟨lo, h, rfl, by go_num, by omega, by omega, HB2.out, HI.out.1, ?_⟩, by simp [intOf]; omega⟩
        intro t q ht hq
        have hph : lessMk p ⟨ch, seq, []⟩ = false := by simpa using HLT.out
        by_cases e : t = h
        · subst e
          rw [HP.out] at hq
          obtain rfl : p = q := by simpa using hq
          exact hph
        · cases hqq : lessMk q ⟨ch, seq, []⟩ with
          | false => rfl
          | true =>
            have := lessMk_trans (sortM_lt HS.out (show h < t by omega) HP.out hq) hqq
            rw [hph] at this
            cases this
    · obtain rfl : hi = lo := by omega
      have hge : decide ((hi : Int) < (hi : Int)) = false := by simp
      by_cases hn : hi < n
      · obtain ⟨p, hp⟩ : ∃ p, l[hi]? = some p := ⟨l[hi]'(by rw [HN.out]; exact hn), List.getElem?_eq_getElem _⟩
        obtain ⟨b, o, rfl, _⟩ := HL.out.spot (by omega)
        obtain ⟨od, cd, d0, d1, d2, hbl, hc⟩ := HCMP.out wr b o _ p rfl HBW.out hp
        have HCC := hid hc
        have hlt' : (hi : Int) < (n : Int) := by omega
        have hln := hlt'
        have hlt2 : decide ((hi : Int) < (n : Int)) = true := by simpa using hlt'
        obtain ⟨fd, hfd⟩ : ∃ fd, (cmpM p ch seq == 0) = fd := ⟨_, rfl⟩
        have HAT := hid (show AtM l ch seq hi fd from ⟨by rw [HN.out]; exact hin, HI.out.1, HI.out.2, by
          rw [← hfd, beq_iff_eq, cmpM_zero]
          constructor
          · intro h
            exact ⟨p, hp, h⟩
          · rintro ⟨q, hq, h⟩
            rw [hp] at hq
            obtain rfl : p = q := by simpa using hq
            exact h⟩)
        clear hc hp
        generalize cmpM p ch seq = cc at *
        go_upto_region 8 with fail
        refine srchR8 (hid (HR0.out.below HB.out HR0.out.lt)) hln hbl (hid ⟨d0, d1, d2⟩) HCC.out _ (hid ?_)
        intro σ w2 hb2 e14 e15
        have HB2 := hid (HBW.out.trans (hb2.mono HBW.out.size))
        rw [e14, e15]
        clear e14 e15 hb2
        go_wp2
        go_ret2
        exact ⟨HB2.out, hi, fd, HAT.out, by rw [← hfd]; rfl⟩
      · have hlt2 : decide ((hi : Int) < (n : Int)) = false := by simp; omega
        have HAT := hid (show AtM l ch seq hi false from ⟨by rw [HN.out]; exact hin, HI.out.1, HI.out.2, by
          constructor
          · intro h
            cases h
          · rintro ⟨q, hq, h⟩
            have := (List.getElem?_eq_some_iff.1 hq).1
            rw [HN.out] at this
            omega⟩)
        go_upto_region 8 with fail
        refine srchR8n (by omega) _ (hid ?_)
        intro σ w2 hb2 e14 e15
        have HB2 := hid (HBW.out.trans (hb2.mono HBW.out.size))
        rw [e14, e15]
        clear e14 e15 hb2
        go_wp2
        go_ret2
        exact ⟨HB2.out, hi, false, HAT.out, rfl⟩
set_option maxRecDepth 100000 in
set_option maxHeartbeats 4000000 in
theorem mfind_any (l : List Mk) (ch seq : Int) (sv : Value) (N : Nat) (w : World) (hN : N ≤ w.heap.size) (hl : Many MkR 3 w N sv l) (hs : SortM l) (hlen : l.length ≤ 1000000) :
    Calls Tryz.prog 90 #[sv, .int .i64 ch, .int .i64 seq] w fun e w' => e = .returned (.tuple #[.int .i64 (placeM l ch seq : Nat), .bool (hasM l ch seq).isSome]) ∧ Below w.heap.size w w' := by
  obtain ⟨oa, ca, rfl, hca⟩ := hl.shape
  have HC := hid (msearch_any l ch seq _ N w #[] rfl hN hl hs hlen)
  have HS := hid hs
  clear hl hs
  go_enter Tryz.func90, Tryz.ntmps90
  go_wp2_with fail
  refine HC.out.mono ?_
  rintro e w2 ⟨hb, i, fd, hat, rfl⟩
  obtain ⟨rfl, rfl⟩ := hat.place HS.out
  have HB := hid hb
  clear hb hat
  go_wp2
  go_ret2
  exact ⟨rfl, HB.out⟩
end Go.Proofs.YtclhcjiblfokaaaGreatDoor
namespace Go.Proofs.YtclhcjiblfokaaaGreatDoor
open Go.RowKit

set_option maxRecDepth 100000 in
set_option maxHeartbeats 4000000 in
theorem with_any (l : List Mk) (x : Mk) (od : Option Addr) (nd cd : Nat) (v : Value) (base : Nat) (w : World) (rs : List (List Value)) (hrow : RowT 59 3 w base v rs) (hE : MkE w rs l) (hs : SortM l) (hl : l.length ≤ 1000) (hb : base ≤ w.heap.size) :
    Calls Tryz.prog 36 #[v, .agg #[.int .i64 x.chan, .int .i64 x.seq, .slice od nd cd]] w fun e w' => w.grownBy w' v.ownBlock ∧ ∃ v' rs', e = .returned v' ∧ RowT 59 3 w' base v' rs' ∧ (∀ b, v'.ownBlock = some b → v.ownBlock = some b ∨ w.heap.size ≤ b) ∧ ∀ w2, MkE w2 rs l → Bytes w2 w2.heap.size (.slice od nd cd) x.dig → MkE w2 rs' (withM l x) := by
  have HFI := hid (fun wx (hx : Below w.heap.size w wx) => mfind_any l x.chan x.seq v wx.heap.size wx (Nat.le_refl _) (mkE_many (hrow.below hx) ⟨hE.1, fun i r y hr hy => MkR.stays.mono (MkR.stays.below (hE.2 i r y hr hy) hx) hx.size⟩) hs (by omega))
  have HLEN := hid hE.1
  obtain ⟨oa, ca, rfl, hca⟩ := hrow.shape
  have HR := hid hrow
  have HS := hid hs
  clear hrow hE hs
  have hp := place_le l x.chan x.seq
  have hpl : (placeM l x.chan x.seq : Int) ≤ 1000 := by omega
  go_enter Tryz.func36, Tryz.ntmps36
  go_upto_region 1 with fail
  refine fbox1 ?_
  intro w0 F hs0
  obtain ⟨k0, k1, k2⟩ := F.r0.k3
  go_wp2_with fail
  refine (HFI.out w0 F.b).mono ?_
  rintro e w1 ⟨rfl, hb1⟩
  have F1 := F.go hb1
  clear k0 k1 k2 hs0 F hb1 HFI
  have HF1 := hid F1.b
  obtain ⟨k0, k1, k2⟩ := F1.r0.k3
  cases hm : hasM l x.chan x.seq with
  | some m =>
    obtain ⟨h1, h2, -⟩ := place_at HS.out hm
    have hlen := HLEN.out
    have hlt : placeM l x.chan x.seq < l.length := (List.getElem?_eq_some_iff.1 h1).1
    obtain ⟨r, hr⟩ : ∃ r, rs[placeM l x.chan x.seq]? = some r := ⟨_, List.getElem?_eq_getElem (by omega)⟩
    obtain ⟨g, rfl, hgb, hgl, hcc, hfz⟩ := RowT.at (HR.out.below F1.b) hr
    have hrl := (HR.out.1 r (List.mem_of_getElem? hr)).1
    obtain ⟨r0, r1, r2, rfl⟩ : ∃ r0 r1 r2, r = [r0, r1, r2] := by
      match r, hrl with
      | [a, b, c], _ => exact ⟨a, b, c, rfl⟩
    have f0 := hcc 0 _ rfl
    have f1 := hcc 1 _ rfl
    have f2 := hcc 2 _ rfl
    simp only [Nat.add_zero] at f0
    generalize hpk : placeM l x.chan x.seq = k at *
    have z0 := hfz (k * 3)
    have z1 := hfz (k * 3 + 1)
    have z2 := hfz (k * 3 + 2)
    have hlt' : (k : Int) < (rs.length : Int) := by omega
    have hput := RowT.put (HR.out.below F1.b) (i := k) (r := [.int .i64 x.chan, .int .i64 x.seq, .slice od nd cd]) (by omega) ⟨rfl, fun y hy => by simp at hy; rcases hy with rfl | rfl | rfl <;> rfl⟩
    have HG := hid (show w.grownBy (w1.setCells g (k * 3) [.int .i64 x.chan, .int .i64 x.seq, .slice od nd cd]) (some g) from grown_trans (grown_of F1.b _) (grown_putCells w1 g (k * 3) _))
    have HP := hid hput
    have HW := hid h2
    have HK := hid hpk
    clear hput h1 h2 hcc hfz hr hpk hm HS hrl hlen HLEN
    generalize rs.length = n at *
    obtain ⟨w4, hw4⟩ : ∃ w4, w1.setCells g (k * 3) [.int .i64 x.chan, .int .i64 x.seq, .slice od nd cd] = w4 := ⟨_, rfl⟩
    rw [hw4] at HG HP
    have HW4 := hid hw4
    clear hw4
    have hne : w.heap.size ≠ g := by
      have := F1.own _ (.head _)
      have h2 := HR.out.own g rfl
      omega
    clear F1
    go_upto_region 4 with fail
    refine at_world HW4.out ?_
    clear k0 k1 k2 f0 f1 f2 z0 z1 z2
    go_wp2
    go_ret
    exact ⟨HG.out, _, _, rfl, HP.out, fun b e => .inl e, fun w2 g1 g2 => by rw [← HW.out]; exact g1.set ⟨_, rfl, g2⟩⟩
  | none =>
    have hlen := HLEN.out
    obtain ⟨h1, -⟩ := place_no HS.out hm
    have HW := hid h1
    have HR1 := hid (HR.out.below F1.b)
    have hsz1 := F1.b.size
    generalize hpk : placeM l x.chan x.seq = k at *
    have HOB := hid HR.out.own
    have HINS := hid (fun wx vb (hx : Below w1.heap.size w1 wx) (hv : Row wx vb 59 [.int .i64 x.chan, .int .i64 x.seq, .slice od nd cd]) (hne : ∀ g, (Value.slice oa rs.length ca).ownBlock = some g → vb ≠ g) => minsert_any rs k (.int .i64 x.chan) (.int .i64 x.seq) (.slice od nd cd) base vb (.slice oa rs.length ca) wx (HR1.out.below hx) (Nat.le_trans hb (Nat.le_trans hsz1 hx.size)) hv ⟨rfl, rfl, rfl⟩ hne (by omega) (by omega))
    have HPK := hid hpk
    clear hm h1 hpk HS hlen
    generalize hn : rs.length = n at *
    have HN := hid hn
    clear hn
    have HF := hid F1
    go_wp2_with fail
    refine boxC ?_
    intro w2 hr2 hb2
    refine (HINS.out w2 _ hb2 hr2 (fun g e => by have := HOB.out g e; omega)).mono ?_
    rintro e w3 ⟨hg3, v', rfl, hrow3, hn3⟩
    have HG := hid (show w.grownBy w3 (Value.slice oa n ca).ownBlock from grown_trans (grown_of (HF.out.b.trans (hb2.mono HF.out.b.size)) _) hg3)
    have HR3 := hid hrow3
    have HN3 := hid (show ∀ b, v'.ownBlock = some b → (Value.slice oa n ca).ownBlock = some b ∨ w.heap.size ≤ b from fun b e => (hn3 b e).imp id (fun h => by have := hb2.size; omega))
    clear hg3 hrow3 hn3 hr2 hb2 k0 k1 k2 F1
    go_wp2
    go_ret
    rw [← HN.out] at HG HN3
    exact ⟨HG.out, _, _, rfl, HR3.out, HN3.out, fun w2 g1 g2 => by rw [← HW.out]; exact g1.ins hp ⟨_, rfl, g2⟩⟩
end Go.Proofs.YtclhcjiblfokaaaGreatDoor
