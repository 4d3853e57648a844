/-
  The document's purses: Put, Mint, Burn and Move.
-/
import Derived.Test.YtnoaohlajllngaaDoortlBkRef1
import Derived.Test.YtnoaohlajllngaaDoortlBkMint
namespace Go.Proofs.YtnoaohlajllngaaDoor
open Go.RowKit

def putGo (o d : ByteArray) (n : Nat) : Bool → List Pu → List Pu
  | dn, [] => if dn = true then [] else [⟨o, d, n⟩]
  | dn, p :: r => if isU o d p = true then putGo o d n dn r else if (!dn && lessPu ⟨o, d, 0⟩ p) = true then ⟨o, d, n⟩ :: p :: putGo o d n true r else p :: putGo o d n dn r
theorem putGo_true (o d : ByteArray) (n : Nat) : ∀ l : List Pu, putGo o d n true l = l.filter (fun p => !isU o d p)
  | [] => rfl
  | p :: r => by
    unfold putGo
    rw [putGo_true o d n r]
    cases h : isU o d p <;> simp [h]
theorem is_more {o d : ByteArray} {p : Pu} (h : lessPu ⟨o, d, 0⟩ p = true) : isU o d p = false := decide_eq_false fun e => less_ne h ⟨e.1.symm, e.2.symm⟩
theorem is_less {o d : ByteArray} {p : Pu} (h : lessPu p ⟨o, d, 0⟩ = true) : isU o d p = false := decide_eq_false fun e => less_ne h e
theorem all_not {o d : ByteArray} {l : List Pu} (h : ∀ p ∈ l, lessPu ⟨o, d, 0⟩ p = true) : l.filter (fun p => !isU o d p) = l := List.filter_eq_self.2 fun p hp => by
  rw [is_more (h p hp)]
  rfl
theorem putGo_more {o d : ByteArray} {n : Nat} : ∀ {l : List Pu}, (∀ p ∈ l, lessPu ⟨o, d, 0⟩ p = true) → putGo o d n false l = ⟨o, d, n⟩ :: l
  | [], _ => rfl
  | p :: r, h => by
    have hp := h p (.head _)
    have hn := is_more hp
    unfold putGo
    rw [if_neg (by simp [hn]), if_pos (by simp [hp]), putGo_true, all_not fun q hq => h q (.tail _ hq)]
theorem putGo_eq {o d : ByteArray} {n : Nat} : ∀ {l : List Pu}, SortU l → putGo o d n (decide (n = 0)) l = putU l o d n := by
  intro l hs
  by_cases h0 : n = 0
  · rw [decide_eq_true h0, putGo_true]
    have e := (split_same l o d hs).1
    have h1 : (aheadU l o d).filter (fun p => !isU o d p) = aheadU l o d := List.filter_eq_self.2 fun p hp => by
      rw [is_less (List.mem_filter.1 hp).2]
      rfl
    have h2 : (behindU l o d).filter (fun p => !isU o d p) = behindU l o d := all_not fun p hp => (List.mem_filter.1 hp).2
    have h3 : (l.filter (isU o d)).filter (fun p => !isU o d p) = [] := List.filter_eq_nil_iff.2 fun p hp => by
      have := (List.mem_filter.1 hp).2
      simp [this]
    have := congrArg (List.filter (fun p => !isU o d p)) e
    rw [List.filter_append, List.filter_append, h1, h2, h3] at this
    rw [this]
    unfold putU oneU
    rw [if_pos h0]
  · rw [decide_eq_false h0]
    induction l with
    | nil => unfold putGo putU aheadU behindU oneU; simp [h0]
    | cons p r ih =>
      obtain ⟨g1, g2⟩ := List.pairwise_cons.1 hs
      have ihr := ih g2
      rcases lessPu_tri p ⟨o, d, 0⟩ with hp | ⟨e1, e2⟩ | hp
      · have n1 := is_less hp
        have n2 : lessPu ⟨o, d, 0⟩ p = false := less_not hp
        unfold putGo
        rw [if_neg (by simp [n1]), if_neg (by simp [n2]), ihr]
        unfold putU aheadU behindU
        simp only [List.filter_cons, hp, n2, if_true, Bool.false_eq_true, if_false, List.cons_append]
      · have n1 : isU o d p = true := by simp only [isU, decide_eq_true_eq]; exact ⟨e1, e2⟩
        have hl : ∀ q ∈ r, lessPu ⟨o, d, 0⟩ q = true := fun q hq => by
          have := g1 q hq
          unfold lessPu at *
          simp only at e1 e2 ⊢
          rw [← e1, ← e2]
          exact this
        unfold putGo
        rw [if_pos n1, putGo_more hl]
        unfold putU aheadU behindU oneU
        rw [if_neg h0, List.filter_eq_nil_iff.2, List.filter_cons, if_neg (by rw [lessPu_irr _ _ e1.symm e2.symm]; simp), List.filter_eq_self.2 hl]
        · rfl
        · intro q hq hh
          rcases List.mem_cons.1 hq with rfl | hq
          · rw [lessPu_irr _ _ e1 e2] at hh; cases hh
          · exact absurd ⟨rfl, rfl⟩ (less_ne (lessPu_trans (hl q hq) hh))
      · have hl : ∀ q ∈ p :: r, lessPu ⟨o, d, 0⟩ q = true := fun q hq => by
          rcases List.mem_cons.1 hq with rfl | hq
          · exact hp
          · exact lessPu_trans hp (g1 q hq)
        rw [putGo_more hl]
        unfold putU aheadU behindU oneU
        rw [if_neg h0, List.filter_eq_nil_iff.2, List.filter_eq_self.2 hl]
        · rfl
        · intro q hq hh
          exact absurd ⟨rfl, rfl⟩ (less_ne (lessPu_trans (hl q hq) hh))
theorem bless_flip {a b : ByteArray} (h : a ≠ b) : Op.bytesLess a.toList b.toList = !Op.bytesLess b.toList a.toList := by
  rcases bless_tri a.toList b.toList with g | g | g
  · have : Op.bytesLess b.toList a.toList = false := by
      cases e : Op.bytesLess b.toList a.toList with
      | false => rfl
      | true => exact absurd (bless_trans _ _ _ g e) (by rw [bless_irr]; simp)
    rw [g, this]; rfl
  · exact absurd (toList_inj g) h
  · have : Op.bytesLess a.toList b.toList = false := by
      cases e : Op.bytesLess a.toList b.toList with
      | false => rfl
      | true => exact absurd (bless_trans _ _ _ g e) (by rw [bless_irr]; simp)
    rw [g, this]; rfl
theorem one_pu {W : World} {g : Nat} {t : TypeId} {p : Pu} (h : Row W g t (puCells p)) : Recs W W.heap.size (.slice (some ⟨g, 0, none⟩) 1 1) 3 [puCells p] := .inr (.inr ⟨g, 0, 1, rfl, Nat.le_refl _, fun i r hi => by
  match i, hi with
  | 0, hi =>
    obtain rfl := Option.some.inj hi
    refine ⟨h.lt, fun j y hy => ?_⟩
    have := h.cell j
    simp only [Nat.zero_mul, Nat.zero_add]
    rw [this]
    exact hy⟩)
theorem one_ok (p : Pu) : ∀ r ∈ [puCells p], r.length = 3 ∧ ∀ x ∈ r, x.oneCell' = true := rowsU_ok [p]
theorem putGo_at {o d : ByteArray} {n : Nat} {dn : Bool} {l : List Pu} {k : Nat} {p : Pu} (h : l[k]? = some p) : putGo o d n dn (l.drop k) = if isU o d p = true then putGo o d n dn (l.drop (k + 1)) else if (!dn && lessPu ⟨o, d, 0⟩ p) = true then ⟨o, d, n⟩ :: p :: putGo o d n true (l.drop (k + 1)) else p :: putGo o d n dn (l.drop (k + 1)) := by
  obtain ⟨hlt, e⟩ := List.getElem?_eq_some_iff.1 h
  rw [List.drop_eq_getElem_cons hlt, e]
  rfl
set_option maxRecDepth 100000 in
set_option maxHeartbeats 4000000 in
theorem rput_any (l : List Pu) (o d : ByteArray) (n : Nat) (sv : Value) (N : Nat) (w : World) (hN : N ≤ w.heap.size) (hl : Many PuR 3 w N sv l) (hs : SortU l) (hlen : l.length ≤ 1000) :
    Calls Tryd.prog 57 #[sv, .agg #[.string o, .string d, .int .u64 (n : Int)]] w fun e w' => Below w.heap.size w w' ∧ ∃ v, e = .returned v ∧ Many PuR 3 w' w'.heap.size v (putU l o d n) := by
  have HPG := hid (putGo_eq (o := o) (d := d) (n := n) hs)
  obtain ⟨oa, ca, rfl, -⟩ := hl.shape
  have HL := hid hl
  clear hl hs
  generalize hm : l.length = m at *
  have HM := hid hm
  clear hm
  go_enter Tryd.func57, Tryd.ntmps57
  go_upto_region 1 with fail
  refine fbox1 ?_
  intro w0 F0 hs0
  have HF := hid (fun W (hb : Below w0.heap.size w0 W) => F0.go hb)
  have HZ := hid hs0
  obtain ⟨k0, k1, k2⟩ := F0.r0.k3
  clear hs0 F0
  obtain ⟨dn0, hdn⟩ : ∃ dn0, decide (n = 0) = dn0 := ⟨_, rfl⟩
  have q0 : ((n : Int) == 0) = dn0 := by rw [← hdn, Bool.eq_iff_iff]; simp
  have q0' : (n == 0) = dn0 := by rw [← hdn, Bool.eq_iff_iff]; simp
  rw [hdn] at HPG
  have HDN := hid hdn
  clear hdn
  go_wp2_with fail
  go_loopw [5, 6, 14] (fun s5 s6 s14 wr => ∃ (k : Nat) (dn : Bool) (out : List Pu), k ≤ m ∧ s14 = .int .i64 k ∧ s6 = .bool dn ∧ Hid (out.length ≤ 2 * k) ∧ Hid (RowT 71 3 wr w0.heap.size s5 (rowsU out)) ∧ Hid (putU l o d n = out ++ putGo o d n dn (l.drop k)) ∧ Hid (Below w0.heap.size w0 wr)) (fun _ _ s14 _ => m - (intOf s14).toNat)
  case atStart => exact ⟨0, dn0, [], Nat.zero_le _, rfl, rfl, Nat.le_refl _, ⟨fun _ h => (by cases h), World.ownsRow_nil _ _ _ _⟩, by rw [← HPG.out]; rfl, Below.refl _ _⟩
  case round =>
    obtain ⟨k, dn, out, hk, rfl, rfl, HOL, HRW, HUP, HBW⟩ := hrel
    obtain ⟨ow, cw, rfl, -⟩ := HRW.out.shape
    generalize hrl : (rowsU out).length = rl at *
    have HRL := hid hrl
    clear hrl
    by_cases hlt : k < m
    · obtain ⟨p, hp⟩ : ∃ p, l[k]? = some p := ⟨l[k]'(by rw [HM.out]; exact hlt), List.getElem?_eq_getElem _⟩
      obtain ⟨b, f, rfl, hbN, c0, c1, c2⟩ := HL.out.purse (by omega) hp ((HF.out wr HBW.out).b.mono hN)
      have HGA := hid (putGo_at (o := o) (d := d) (n := n) (dn := dn) hp)
      rw [HGA.out] at HUP
      have hlt' : (k : Int) < (m : Int) := by omega
      have hsz := HBW.out.size
      have hbs : b < wr.heap.size := by have := HZ.out; omega
      clear hp HGA
      go_upto_region 6 with fail
      refine boxK ?_
      intro w1 hr1 hb1
      have HBZ := hid (HBW.out.trans (hb1.mono hsz))
      have HRZ := hid (HRW.out.below hb1)
      obtain ⟨k0, k1, k2⟩ := hr1.k3
      obtain ⟨j0, j1, j2⟩ := (HF.out w1 HBZ.out).r0.k3
      have HR1 := hid hr1
      have HOW := hid (fun g hg => (HRW.out.own g hg).2)
      clear c0 c1 c2 hr1 hb1 hbs HBW HRW
      have HPK := hid (show ∀ wq wz, Below w1.heap.size w1 wq → wq.grownBy wz (Value.slice ow rl cw).ownBlock → Row wz wr.heap.size 71 [.string p.owner, .string p.denom, .int .u64 (p.amount : Int)] from fun wq wz h1 h2 => by
        have := HR1.out.below h1 HR1.out.lt
        refine (h2.block _ this.lt (fun e => ?_)).trans this
        have := HOW.out _ e.symm
        omega)
      clear HR1
      by_cases hsame : isU o d p = true
      · rw [if_pos hsame] at HUP
        obtain ⟨rfl, rfl⟩ : p.owner = o ∧ p.denom = d := by simpa [isU] using hsame
        go_wp2_with fail
        exact ⟨⟨k + 1, dn, out, by omega, by go_num, rfl, hid (by have := HOL.out; omega), HRZ, HUP, HBZ⟩, by simp [intOf]; omega⟩
      · rw [if_neg hsame] at HUP
        have HLS := hid (show lessPu ⟨o, d, 0⟩ p = (Op.bytesLess o.toList p.owner.toList || (decide (o = p.owner) && Op.bytesLess d.toList p.denom.toList)) from rfl)
        have hns : ¬ (p.owner = o ∧ p.denom = d) := by simpa [isU] using hsame
        clear hsame
        cases dn with
        | true =>
          rw [if_neg (by simp)] at HUP
          by_cases h1 : p.owner = o
          · have h2 := str_ne10 (fun e => hns ⟨h1, e⟩)
            subst h1
            clear hns
            go_wp2_with (at_builtin; refine Hid.out ?_)
            refine hid ?_
            refine boxL ?_
            intro wqa hrq hbq
            refine wpList_appendT recFPu rfl _ _ rfl w0.heap.size _ _ rfl (HRZ.out.below hbq) _ [puCells p] rfl (one_pu hrq) (one_ok _) (by simp [rowsU]; have := HOL.out; omega) (Nat.le_trans HBZ.out.size hbq.size) ?_
            intro va wza hrz hbz hgz
            have HR2 := hid hrz
            have HB2 := hid ((HBZ.out.trans (hbq.mono HBZ.out.size)).trans hbz)
            clear hrz hbz hgz hrq hbq
            go_wp2
            go_roundw
            case rel => exact ⟨k + 1, true, out ++ [p], by omega, by go_num, rfl, hid (by have := HOL.out; simp; omega), hid (by unfold rowsU; rw [List.map_append]; exact HR2.out), hid (by rw [HUP.out, List.append_assoc]; rfl), HB2⟩
            case measure => simp [intOf]; omega
          · have h1' := str_ne10 h1
            clear hns h1
            go_wp2_with (at_builtin; refine Hid.out ?_)
            refine hid ?_
            refine boxL ?_
            intro wqa hrq hbq
            refine wpList_appendT recFPu rfl _ _ rfl w0.heap.size _ _ rfl (HRZ.out.below hbq) _ [puCells p] rfl (one_pu hrq) (one_ok _) (by simp [rowsU]; have := HOL.out; omega) (Nat.le_trans HBZ.out.size hbq.size) ?_
            intro va wza hrz hbz hgz
            have HR2 := hid hrz
            have HB2 := hid ((HBZ.out.trans (hbq.mono HBZ.out.size)).trans hbz)
            clear hrz hbz hgz hrq hbq
            go_wp2
            go_roundw
            case rel => exact ⟨k + 1, true, out ++ [p], by omega, by go_num, rfl, hid (by have := HOL.out; simp; omega), hid (by unfold rowsU; rw [List.map_append]; exact HR2.out), hid (by rw [HUP.out, List.append_assoc]; rfl), HB2⟩
            case measure => simp [intOf]; omega
        | false =>
          by_cases h1 : p.owner = o
          · have h2 := str_ne10 (fun e => hns ⟨h1, e⟩)
            subst h1
            rw [decide_eq_true rfl, Bool.true_and, bless_irr, Bool.false_or] at HLS
            have h3 := bless_irr p.owner.toList
            have h4 := bless_flip (fun e => hns ⟨rfl, e⟩)
            clear hns
            by_cases g3 : Op.bytesLess d.toList p.denom.toList = true
            · rw [g3] at h4
              rw [if_pos (by rw [HLS.out, g3]; rfl)] at HUP
              go_wp2_with (at_builtin; refine Hid.out ?_)
              refine hid ?_
              refine boxL ?_
              intro wqa hrq hbq
              refine wpList_appendT recFPu rfl _ _ rfl w0.heap.size _ _ rfl (HRZ.out.below hbq) _ [puCells ⟨p.owner, d, n⟩] rfl (one_pu hrq) (one_ok _) (by simp [rowsU]; have := HOL.out; omega) (Nat.le_trans HBZ.out.size hbq.size) ?_
              intro va wza hrz hbz hgz
              have HR2 := hid (show RowT 71 3 wza w0.heap.size va (rowsU (out ++ [⟨p.owner, d, n⟩])) by unfold rowsU; rw [List.map_append]; exact hrz)
              have HB2 := hid ((HBZ.out.trans (hbq.mono HBZ.out.size)).trans hbz)
              obtain ⟨k0, k1, k2⟩ := (HPK.out wqa wza hbq hgz).k3
              clear hrz hbz hgz hrq hbq
              obtain ⟨oy, cy, rfl, -⟩ := HR2.out.shape
              generalize (rowsU (out ++ [⟨p.owner, d, n⟩])).length = ry at *
              go_wp2_with (at_builtin; refine Hid.out ?_)
              refine hid ?_
              refine boxL ?_
              intro wqb hrq hbq
              refine wpList_appendT recFPu rfl _ _ rfl w0.heap.size _ _ rfl (HR2.out.below hbq) _ [puCells p] rfl (one_pu hrq) (one_ok _) (by simp [rowsU]; have := HOL.out; omega) (Nat.le_trans HB2.out.size hbq.size) ?_
              intro vb wzb hrz hbz hgz
              have HR3 := hid hrz
              have HB3 := hid ((HB2.out.trans (hbq.mono HB2.out.size)).trans hbz)
              clear hrz hbz hgz hrq hbq
              go_wp2
              go_roundw
              case rel => exact ⟨k + 1, true, out ++ [⟨p.owner, d, n⟩] ++ [p], by omega, by go_num, rfl, hid (by have := HOL.out; simp; omega), hid (by unfold rowsU at *; rw [List.map_append]; exact HR3.out), hid (by rw [HUP.out]; simp), HB3⟩
              case measure => simp [intOf]; omega
            · have g3' : Op.bytesLess d.toList p.denom.toList = false := by simpa using g3
              rw [g3'] at h4
              rw [if_neg (by rw [HLS.out, g3']; simp)] at HUP
              clear g3
              go_wp2_with (at_builtin; refine Hid.out ?_)
              refine hid ?_
              refine boxL ?_
              intro wqa hrq hbq
              refine wpList_appendT recFPu rfl _ _ rfl w0.heap.size _ _ rfl (HRZ.out.below hbq) _ [puCells p] rfl (one_pu hrq) (one_ok _) (by simp [rowsU]; have := HOL.out; omega) (Nat.le_trans HBZ.out.size hbq.size) ?_
              intro va wza hrz hbz hgz
              have HR2 := hid hrz
              have HB2 := hid ((HBZ.out.trans (hbq.mono HBZ.out.size)).trans hbz)
              clear hrz hbz hgz hrq hbq
              go_wp2
              go_roundw
              case rel => exact ⟨k + 1, false, out ++ [p], by omega, by go_num, rfl, hid (by have := HOL.out; simp; omega), hid (by unfold rowsU; rw [List.map_append]; exact HR2.out), hid (by rw [HUP.out, List.append_assoc]; rfl), HB2⟩
              case measure => simp [intOf]; omega
          · have h1' := str_ne10 h1
            rw [decide_eq_false (fun e => h1 e.symm), Bool.false_and, Bool.or_false] at HLS
            have h4 := bless_flip h1
            clear hns h1
            by_cases g1 : Op.bytesLess o.toList p.owner.toList = true
            · rw [g1] at h4
              rw [if_pos (by rw [HLS.out, g1]; rfl)] at HUP
              go_wp2_with (at_builtin; refine Hid.out ?_)
              refine hid ?_
              refine boxL ?_
              intro wqa hrq hbq
              refine wpList_appendT recFPu rfl _ _ rfl w0.heap.size _ _ rfl (HRZ.out.below hbq) _ [puCells ⟨o, d, n⟩] rfl (one_pu hrq) (one_ok _) (by simp [rowsU]; have := HOL.out; omega) (Nat.le_trans HBZ.out.size hbq.size) ?_
              intro va wza hrz hbz hgz
              have HR2 := hid (show RowT 71 3 wza w0.heap.size va (rowsU (out ++ [⟨o, d, n⟩])) by unfold rowsU; rw [List.map_append]; exact hrz)
              have HB2 := hid ((HBZ.out.trans (hbq.mono HBZ.out.size)).trans hbz)
              obtain ⟨k0, k1, k2⟩ := (HPK.out wqa wza hbq hgz).k3
              clear hrz hbz hgz hrq hbq
              obtain ⟨oy, cy, rfl, -⟩ := HR2.out.shape
              generalize (rowsU (out ++ [⟨o, d, n⟩])).length = ry at *
              go_wp2_with (at_builtin; refine Hid.out ?_)
              refine hid ?_
              refine boxL ?_
              intro wqb hrq hbq
              refine wpList_appendT recFPu rfl _ _ rfl w0.heap.size _ _ rfl (HR2.out.below hbq) _ [puCells p] rfl (one_pu hrq) (one_ok _) (by simp [rowsU]; have := HOL.out; omega) (Nat.le_trans HB2.out.size hbq.size) ?_
              intro vb wzb hrz hbz hgz
              have HR3 := hid hrz
              have HB3 := hid ((HB2.out.trans (hbq.mono HB2.out.size)).trans hbz)
              clear hrz hbz hgz hrq hbq
              go_wp2
              go_roundw
              case rel => exact ⟨k + 1, true, out ++ [⟨o, d, n⟩] ++ [p], by omega, by go_num, rfl, hid (by have := HOL.out; simp; omega), hid (by unfold rowsU at *; rw [List.map_append]; exact HR3.out), hid (by rw [HUP.out]; simp), HB3⟩
              case measure => simp [intOf]; omega
            · have g1' : Op.bytesLess o.toList p.owner.toList = false := by simpa using g1
              rw [g1'] at h4
              rw [if_neg (by rw [HLS.out, g1']; simp)] at HUP
              clear g1
              go_wp2_with (at_builtin; refine Hid.out ?_)
              refine hid ?_
              refine boxL ?_
              intro wqa hrq hbq
              refine wpList_appendT recFPu rfl _ _ rfl w0.heap.size _ _ rfl (HRZ.out.below hbq) _ [puCells p] rfl (one_pu hrq) (one_ok _) (by simp [rowsU]; have := HOL.out; omega) (Nat.le_trans HBZ.out.size hbq.size) ?_
              intro va wza hrz hbz hgz
              have HR2 := hid hrz
              have HB2 := hid ((HBZ.out.trans (hbq.mono HBZ.out.size)).trans hbz)
              clear hrz hbz hgz hrq hbq
              go_wp2
              go_roundw
              case rel => exact ⟨k + 1, false, out ++ [p], by omega, by go_num, rfl, hid (by have := HOL.out; simp; omega), hid (by unfold rowsU; rw [List.map_append]; exact HR2.out), hid (by rw [HUP.out, List.append_assoc]; rfl), HB2⟩
              case measure => simp [intOf]; omega
    · obtain rfl : k = m := by omega
      have hlt' : decide ((k : Int) < (k : Int)) = false := by simp
      rw [List.drop_eq_nil_of_le (by rw [HM.out]; exact Nat.le_refl _)] at HUP
      have HBZ := hid HBW.out
      have HRZ := hid HRW.out
      cases dn with
      | true =>
        have HUQ := hid (HUP.out.trans (List.append_nil _))
        have HBB := hid (HF.out wr HBW.out).b
        go_wp2
        go_ret
        exact ⟨HBB.out, _, rfl, by rw [HUQ.out]; exact manyU HRZ.out.recs⟩
      | false =>
        obtain ⟨j0, j1, j2⟩ := (HF.out wr HBW.out).r0.k3
        go_wp2_with (at_builtin; refine Hid.out ?_)
        refine hid ?_
        refine boxL ?_
        intro wqa hrq hbq
        refine wpList_appendT recFPu rfl _ _ rfl w0.heap.size _ _ rfl (HRZ.out.below hbq) _ [puCells ⟨o, d, n⟩] rfl (one_pu hrq) (one_ok _) (by simp [rowsU]; have := HOL.out; omega) (Nat.le_trans HBZ.out.size hbq.size) ?_
        intro va wza hrz hbz hgz
        have HR2 := hid hrz
        have HB2 := hid (HF.out wza ((HBZ.out.trans (hbq.mono HBZ.out.size)).trans hbz)).b
        clear hrz hbz hgz hrq hbq
        go_wp2
        go_ret
        refine ⟨HB2.out, _, rfl, ?_⟩
        rw [HUP.out]
        exact manyU (by unfold rowsU; rw [List.map_append]; exact HR2.out.recs)
end Go.Proofs.YtnoaohlajllngaaDoor
