/-
  What cmp.Compare and cmp.Or answer of numbers, strings.Compare of texts; what package state's compareMarks and comparePurses answer.
-/
import Derived.Test.YtbjlfhabnjpdmaaGreatDoorlaStMem
import Derived.Test.YtbjlfhabnjpdmaaGreatDoorlaRegions
import Derived.Test.YtbjlfhabnjpdmaaGreatDoorlaStShelf
import Derived.Deep.RegionHeld3
import Derived.Deep.RegionWith
namespace Go.Proofs.YtbjlfhabnjpdmaaGreatDoor
open Go.RowKit

def cmpN (a b : Int) : Int := if a < b then -1 else if b < a then 1 else 0
theorem isNaNI_any (a : Int) (w : World) : Calls Tryz.prog 161 #[.int .i64 a] w fun e w' => e = .returned (.bool false) ∧ w' = w := by
  have e1 : (a != a) = false := by simp
  go_enter Tryz.func161, Tryz.ntmps161
  go_wp2
  go_ret
  exact ⟨by simp; first | done | rfl, rfl⟩
theorem compareI_any (a b : Int) (w : World) : Calls Tryz.prog 97 #[.int .i64 a, .int .i64 b] w fun e w' => e = .returned (.int .i64 (cmpN a b)) ∧ w' = w := by
  by_cases h1 : a < b
  · have e1 : decide (a < b) = true := decide_eq_true h1
    have HC := hid (show cmpN a b = -1 by unfold cmpN; rw [if_pos h1])
    clear h1
    go_enter Tryz.func97, Tryz.ntmps97
    go_wp2_with (go_at_call 161; refine (isNaNI_any _ _).mono ?_; rintro e w' ⟨rfl, hw⟩; obtain rfl := hw.symm)
    go_ret
    exact ⟨by rw [HC.out]; first | done | rfl, rfl⟩
  · have e1 : decide (a < b) = false := decide_eq_false h1
    by_cases h2 : b < a
    · have e2 : decide (b < a) = true := decide_eq_true h2
      have HC := hid (show cmpN a b = 1 by unfold cmpN; rw [if_neg h1, if_pos h2])
      clear h1 h2
      go_enter Tryz.func97, Tryz.ntmps97
      go_wp2_with (go_at_call 161; refine (isNaNI_any _ _).mono ?_; rintro e w' ⟨rfl, hw⟩; obtain rfl := hw.symm)
      go_ret
      exact ⟨by rw [HC.out]; first | done | rfl, rfl⟩
    · have e2 : decide (b < a) = false := decide_eq_false h2
      have HC := hid (show cmpN a b = 0 by unfold cmpN; rw [if_neg h1, if_neg h2])
      clear h1 h2
      go_enter Tryz.func97, Tryz.ntmps97
      go_wp2_with (go_at_call 161; refine (isNaNI_any _ _).mono ?_; rintro e w' ⟨rfl, hw⟩; obtain rfl := hw.symm)
      go_ret
      exact ⟨by rw [HC.out]; first | done | rfl, rfl⟩
theorem orN_at (l : List Int) (k : Nat) (x : Int) (h : l[k]? = some x) : orN (l.drop k) = if x ≠ 0 then x else orN (l.drop (k + 1)) := by
  have hk := (List.getElem?_eq_some_iff.1 h).1
  have e : l.drop k = x :: l.drop (k + 1) := by
    rw [List.drop_eq_getElem_cons hk]
    congr 1
    exact (List.getElem?_eq_some_iff.1 h).2
  rw [e, orN]
set_option maxHeartbeats 2000000 in
theorem orI_any (l : List Int) (g n : Nat) (T : TypeId) (w : World) (hr : Row w g T (l.map (Value.int .i64))) (hn : n = l.length) (hl : n ≤ 100) :
    Calls Tryz.prog 96 #[.slice (some ⟨g, 0, none⟩) n n] w fun e w' => e = .returned (.int .i64 (orN l)) ∧ w' = w := by
  have HR := hid hr
  have HL := hid hn
  clear hr hn
  go_enter Tryz.func96, Tryz.ntmps96
  go_wp2
  go_loop [5, 8] (fun _ i => ∃ k : Nat, k ≤ n ∧ i = .int .i64 (k : Int) ∧ Hid (orN l = orN (l.drop k))) (fun _ i => n - (intOf i).toNat)
  case atStart => exact ⟨0, by omega, rfl, hid rfl⟩
  case round =>
    obtain ⟨k, hk, rfl, HT⟩ := hrel
    by_cases hlt : k < n
    · have hlt' : (k : Int) < (n : Int) := by omega
      obtain ⟨x, hx⟩ : ∃ x, l[k]? = some x := ⟨l[k]'(by rw [← HL.out]; exact hlt), List.getElem?_eq_getElem _⟩
      have c0 : w.cell? ⟨g, k, none⟩ = some (.int .i64 x) := by rw [HR.out.cell, List.getElem?_map, hx]; rfl
      have HST := hid (orN_at l k x hx)
      have HX := hid hx
      clear hx
      by_cases hz : x = 0
      · subst hz
        have HS2 := hid (show orN l = orN (l.drop (k + 1)) by rw [HT.out, HST.out, if_neg (by simp)])
        have e0 : ((0 : Int) != 0) = false := by simp
        clear HST HX
        go_wp2
        go_round
        case rel => exact ⟨k + 1, by omega, by go_num, HS2⟩
        case measure => simp [intOf]; omega
      · have e0 : (x != 0) = true := by simpa using hz
        have HS2 := hid (show orN l = x by rw [HT.out, HST.out, if_pos hz])
        clear hz HST HX
        go_wp2
        go_ret
        exact ⟨by rw [HS2.out]; first | done | rfl, rfl⟩
    · have hge : decide ((k : Int) < (n : Int)) = false := by simp; omega
      have HE := hid (show orN l = 0 by rw [HT.out, List.drop_eq_nil_of_le (by rw [← HL.out]; omega)]; rfl)
      go_wp2
      go_ret
      exact ⟨by rw [HE.out]; first | done | rfl, rfl⟩
set_option maxHeartbeats 2000000 in
theorem orE_any (l : List Int) (g n : Nat) (T : TypeId) (w : World) (hr : Row w g T (l.map (Value.int .i64))) (hn : n = l.length) (hl : n ≤ 100) :
    Calls Tryz.prog 29 #[.slice (some ⟨g, 0, none⟩) n n] w fun e w' => e = .returned (.int .i64 (orN l)) ∧ w' = w := by
  have HR := hid hr
  have HL := hid hn
  clear hr hn
  go_enter Tryz.func29, Tryz.ntmps29
  go_wp2
  go_loop [5, 8] (fun _ i => ∃ k : Nat, k ≤ n ∧ i = .int .i64 (k : Int) ∧ Hid (orN l = orN (l.drop k))) (fun _ i => n - (intOf i).toNat)
  case atStart => exact ⟨0, by omega, rfl, hid rfl⟩
  case round =>
    obtain ⟨k, hk, rfl, HT⟩ := hrel
    by_cases hlt : k < n
    · have hlt' : (k : Int) < (n : Int) := by omega
      obtain ⟨x, hx⟩ : ∃ x, l[k]? = some x := ⟨l[k]'(by rw [← HL.out]; exact hlt), List.getElem?_eq_getElem _⟩
      have c0 : w.cell? ⟨g, k, none⟩ = some (.int .i64 x) := by rw [HR.out.cell, List.getElem?_map, hx]; rfl
      have HST := hid (orN_at l k x hx)
      have HX := hid hx
      clear hx
      by_cases hz : x = 0
      · subst hz
        have HS2 := hid (show orN l = orN (l.drop (k + 1)) by rw [HT.out, HST.out, if_neg (by simp)])
        have e0 : ((0 : Int) != 0) = false := by simp
        clear HST HX
        go_wp2
        go_round
        case rel => exact ⟨k + 1, by omega, by go_num, HS2⟩
        case measure => simp [intOf]; omega
      · have e0 : (x != 0) = true := by simpa using hz
        have HS2 := hid (show orN l = x by rw [HT.out, HST.out, if_pos hz])
        clear hz HST HX
        go_wp2
        go_ret
        exact ⟨by rw [HS2.out]; first | done | rfl, rfl⟩
    · have hge : decide ((k : Int) < (n : Int)) = false := by simp; omega
      have HE := hid (show orN l = 0 by rw [HT.out, List.drop_eq_nil_of_le (by rw [← HL.out]; omega)]; rfl)
      go_wp2
      go_ret
      exact ⟨by rw [HE.out]; first | done | rfl, rfl⟩

def cmpS (a b : ByteArray) : Int := Lib.compareBytes a.data.toList b.data.toList
theorem compareS_any (a b : ByteArray) (w : World) : Calls Tryz.prog 100 #[.string a, .string b] w fun e w' => e = .returned (.int .i64 (cmpS a b)) ∧ w' = w := Go.Proofs.Any.strings_Compare Tryz.laysStr106 a b w
set_option maxRecDepth 100000 in
set_option maxHeartbeats 4000000 in
theorem cmpMkRegion {y0 y1 z4 z5 z6 z7 z8 z9 z10 z11 z12 z13 z14 z15 z16 : Value} {ga gb : Nat} (a b : Mk) (oa ob : Option Addr) (ca cb : Nat) {w : World} (hra : Hid (Row w ga 99 [.int .i64 a.chan, .int .i64 a.seq, .slice oa a.dig.length ca])) (hrb : Hid (Row w gb 99 [.int .i64 b.chan, .int .i64 b.seq, .slice ob b.dig.length cb])) (Q : Exit → Act → World → Prop)
    (hQ : Hid (∀ (σ : Nat → Value) (w' : World), Below w.heap.size w w' → /-12-/ σ 12 = .int .i64 (orN [cmpN a.chan b.chan, cmpN a.seq b.seq]) → Q .normal ⟨#[y0, y1, .pointer (some ⟨ga, 0, none⟩), .pointer (some ⟨gb, 0, none⟩), σ 12, σ 0, σ 1, σ 2, σ 3, σ 4, σ 5, σ 6, σ 7, σ 8, σ 9, σ 10, σ 11], []⟩ w')) :
    Code.wp Tryz.prog (.region 1 ((Tryz.f39.body.bind (regOf 1)).getD #[]) true) Q ⟨#[y0, y1, .pointer (some ⟨ga, 0, none⟩), .pointer (some ⟨gb, 0, none⟩), z4, z5, z6, z7, z8, z9, z10, z11, z12, z13, z14, z15, z16], []⟩ w := by
  conv => arg 2; arg 2; whnf
  conv => arg 4; dsimp only
  refine region_grows (by kernel_rfl) (fun σ => #[y0, y1, .pointer (some ⟨ga, 0, none⟩), .pointer (some ⟨gb, 0, none⟩), σ 12, σ 0, σ 1, σ 2, σ 3, σ 4, σ 5, σ 6, σ 7, σ 8, σ 9, σ 10, σ 11]) (fun i => ([z5, z6, z7, z8, z9, z10, z11, z12, z13, z14, z15, z16, z4] : List Value).getD i undef) rfl (fun i X W => match i with
    | 0 => X = .pointer (some ⟨ga, 0, none⟩)
    | 1 => X = .int .i64 a.chan
    | 2 => X = .pointer (some ⟨gb, 0, none⟩)
    | 3 => X = .int .i64 b.chan
    | 4 => X = .int .i64 (cmpN a.chan b.chan)
    | 5 => X = .pointer (some ⟨ga, 1, none⟩)
    | 6 => X = .int .i64 a.seq
    | 7 => X = .pointer (some ⟨gb, 1, none⟩)
    | 8 => X = .int .i64 b.seq
    | 9 => X = .int .i64 (cmpN a.seq b.seq)
    | 10 => ∃ k, X = .slice (some ⟨k, 0, none⟩) 2 2 ∧ Row W k 3 [.int .i64 (cmpN a.chan b.chan), .int .i64 (cmpN a.seq b.seq)]
    | 11 => X = .int .i64 (orN [cmpN a.chan b.chan, cmpN a.seq b.seq])
    | 12 => X = .int .i64 (orN [cmpN a.chan b.chan, cmpN a.seq b.seq])
    | _ => True) ?_ (by kernel_rfl) ?_ ?_
  · intro i X W W' HB H
    match i, H with
    | 0, H => exact H
    | 1, H => exact H
    | 2, H => exact H
    | 3, H => exact H
    | 4, H => exact H
    | 5, H => exact H
    | 6, H => exact H
    | 7, H => exact H
    | 8, H => exact H
    | 9, H => exact H
    | 10, H => exact (by obtain ⟨k, e, hr⟩ := H; exact ⟨k, e, hr.below HB hr.lt⟩)
    | 11, H => exact H
    | 12, H => exact H
    | _ + 13, _ => exact trivial
  · refine ⟨?_, ?_, ?_, ?_, ?_, ?_, ?_, ?_, ?_, ?_, ?_, ?_, ?_, trivial⟩
    · -- 0: Op.fieldAddr 67 t2 0
      intro σ W HJ hdep
      simp [Region.binds] at hdep
      have HJ := hid HJ
      refine wpOp_plain rfl rfl ?_
      go_simp
      exact Left.mk0 (.pointer (some ⟨ga, 0, none⟩)) (by first | rfl | simp [updF, *]) HJ.out rfl
    · -- 1: Op.load 3 t5
      intro σ W HJ hdep
      simp [Region.binds] at hdep
      have HJ := hid HJ
      have kc := (hra.out.below HJ.out hra.out.lt).cell 0
      simp at kc
      refine wpOp_plain rfl rfl ?_
      go_simp
      exact Left.mk0 (.int .i64 a.chan) (by first | rfl | simp [updF, *]) HJ.out rfl
    · -- 2: Op.fieldAddr 67 t3 0
      intro σ W HJ hdep
      simp [Region.binds] at hdep
      have HJ := hid HJ
      refine wpOp_plain rfl rfl ?_
      go_simp
      exact Left.mk0 (.pointer (some ⟨gb, 0, none⟩)) (by first | rfl | simp [updF, *]) HJ.out rfl
    · -- 3: Op.load 3 t7
      intro σ W HJ hdep
      simp [Region.binds] at hdep
      have HJ := hid HJ
      have kc := (hrb.out.below HJ.out hrb.out.lt).cell 0
      simp at kc
      refine wpOp_plain rfl rfl ?_
      go_simp
      exact Left.mk0 (.int .i64 b.chan) (by first | rfl | simp [updF, *]) HJ.out rfl
    · -- 4: Op.call { value (Operand.func 48), args := #[t6, t8], argTyp
      intro σ W HJ hdep
      simp [Region.binds] at hdep
      have HJ := hid HJ
      refine wpOp_plain rfl rfl ?_
      go_simp
      refine (compareI_any a.chan b.chan W).mono ?_
      rintro e w2 ⟨rfl, hw2⟩
      obtain rfl := hw2.symm
      exact Left.mk0 (.int .i64 (cmpN a.chan b.chan)) (by first | rfl | simp [updF, *]) HJ.out rfl
    · -- 5: Op.fieldAddr 67 t2 1
      intro σ W HJ hdep
      simp [Region.binds] at hdep
      have HJ := hid HJ
      refine wpOp_plain rfl rfl ?_
      go_simp
      exact Left.mk0 (.pointer (some ⟨ga, 1, none⟩)) (by first | rfl | simp [updF, *]) HJ.out rfl
    · -- 6: Op.load 3 t10
      intro σ W HJ hdep
      simp [Region.binds] at hdep
      have HJ := hid HJ
      have kc := (hra.out.below HJ.out hra.out.lt).cell 1
      simp at kc
      refine wpOp_plain rfl rfl ?_
      go_simp
      exact Left.mk0 (.int .i64 a.seq) (by first | rfl | simp [updF, *]) HJ.out rfl
    · -- 7: Op.fieldAddr 67 t3 1
      intro σ W HJ hdep
      simp [Region.binds] at hdep
      have HJ := hid HJ
      refine wpOp_plain rfl rfl ?_
      go_simp
      exact Left.mk0 (.pointer (some ⟨gb, 1, none⟩)) (by first | rfl | simp [updF, *]) HJ.out rfl
    · -- 8: Op.load 3 t12
      intro σ W HJ hdep
      simp [Region.binds] at hdep
      have HJ := hid HJ
      have kc := (hrb.out.below HJ.out hrb.out.lt).cell 1
      simp at kc
      refine wpOp_plain rfl rfl ?_
      go_simp
      exact Left.mk0 (.int .i64 b.seq) (by first | rfl | simp [updF, *]) HJ.out rfl
    · -- 9: Op.call { value (Operand.func 48), args := #[t11, t13], argT
      intro σ W HJ hdep
      simp [Region.binds] at hdep
      have HJ := hid HJ
      refine wpOp_plain rfl rfl ?_
      go_simp
      refine (compareI_any a.seq b.seq W).mono ?_
      rintro e w2 ⟨rfl, hw2⟩
      obtain rfl := hw2.symm
      exact Left.mk0 (.int .i64 (cmpN a.seq b.seq)) (by first | rfl | simp [updF, *]) HJ.out rfl
    · -- 10: Op.buildSlice 104 2 #[(0, t9), (1, t14)]
      intro σ W HJ hdep
      simp [Region.binds] at hdep
      have HJ := hid HJ
      obtain ⟨e1, e2⟩ := hdep
      refine wpOp_plain rfl rfl ?_
      go_simp
      exact Left.mk (.slice (some ⟨W.heap.size, 0, none⟩) 2 2) (by first | rfl | simp [updF, *]) ((Below.refl _ _).alloc (Nat.le_refl _) _) HJ.out ⟨W.heap.size, rfl, Row.new _ _ _⟩
    · -- 11: Op.call { value (Operand.func 47), args := #[t15], argTypes 
      intro σ W HJ hdep
      simp [Region.binds] at hdep
      have HJ := hid HJ
      obtain ⟨k, e10, hrow⟩ : ∃ k, σ 10 = .slice (some ⟨k, 0, none⟩) 2 2 ∧ Row W k 3 [.int .i64 (cmpN a.chan b.chan), .int .i64 (cmpN a.seq b.seq)] := by first | exact hdep | exact hdep.1
      have HC := hid (orI_any [cmpN a.chan b.chan, cmpN a.seq b.seq] k 2 3 W hrow rfl (by decide))
      clear hdep hrow
      refine wpOp_plain rfl rfl ?_
      go_simp
      refine (HC.out).mono ?_
      rintro e w2 ⟨rfl, hw2⟩
      obtain rfl := hw2.symm
      exact Left.mk0 (.int .i64 (orN [cmpN a.chan b.chan, cmpN a.seq b.seq])) (by first | rfl | simp [updF, *]) HJ.out rfl
    · -- 12: Op.assign t16
      intro σ W HJ hdep
      simp [Region.binds] at hdep
      have HJ := hid HJ
      refine wpOp_plain rfl rfl ?_
      go_simp
      exact Left.mk0 (.int .i64 (orN [cmpN a.chan b.chan, cmpN a.seq b.seq])) (by first | rfl | simp [updF, *]) HJ.out rfl
  · intro σ w' hb hg
    exact hQ.out σ w' hb (by first | exact ⟨hg 12 (by decide)⟩ | exact hg 12 (by decide))
set_option maxRecDepth 100000 in
set_option maxHeartbeats 4000000 in
theorem cmpPuRegion {y0 y1 z4 z5 z6 z7 z8 z9 z10 z11 z12 z13 z14 z15 z16 : Value} {ga gb : Nat} (a b : Pu)  {w : World} (hra : Hid (Row w ga 85 [.string a.owner, .string a.denom, .int .u64 (a.amount : Int)])) (hrb : Hid (Row w gb 85 [.string b.owner, .string b.denom, .int .u64 (b.amount : Int)])) (Q : Exit → Act → World → Prop)
    (hQ : Hid (∀ (σ : Nat → Value) (w' : World), Below w.heap.size w w' → /-12-/ σ 12 = .int .i64 (orN [cmpS a.owner b.owner, cmpS a.denom b.denom]) → Q .normal ⟨#[y0, y1, .pointer (some ⟨ga, 0, none⟩), .pointer (some ⟨gb, 0, none⟩), σ 12, σ 0, σ 1, σ 2, σ 3, σ 4, σ 5, σ 6, σ 7, σ 8, σ 9, σ 10, σ 11], []⟩ w')) :
    Code.wp Tryz.prog (.region 1 ((Tryz.f43.body.bind (regOf 1)).getD #[]) true) Q ⟨#[y0, y1, .pointer (some ⟨ga, 0, none⟩), .pointer (some ⟨gb, 0, none⟩), z4, z5, z6, z7, z8, z9, z10, z11, z12, z13, z14, z15, z16], []⟩ w := by
  conv => arg 2; arg 2; whnf
  conv => arg 4; dsimp only
  refine region_grows (by kernel_rfl) (fun σ => #[y0, y1, .pointer (some ⟨ga, 0, none⟩), .pointer (some ⟨gb, 0, none⟩), σ 12, σ 0, σ 1, σ 2, σ 3, σ 4, σ 5, σ 6, σ 7, σ 8, σ 9, σ 10, σ 11]) (fun i => ([z5, z6, z7, z8, z9, z10, z11, z12, z13, z14, z15, z16, z4] : List Value).getD i undef) rfl (fun i X W => match i with
    | 0 => X = .pointer (some ⟨ga, 0, none⟩)
    | 1 => X = .string a.owner
    | 2 => X = .pointer (some ⟨gb, 0, none⟩)
    | 3 => X = .string b.owner
    | 4 => X = .int .i64 (cmpS a.owner b.owner)
    | 5 => X = .pointer (some ⟨ga, 1, none⟩)
    | 6 => X = .string a.denom
    | 7 => X = .pointer (some ⟨gb, 1, none⟩)
    | 8 => X = .string b.denom
    | 9 => X = .int .i64 (cmpS a.denom b.denom)
    | 10 => ∃ k, X = .slice (some ⟨k, 0, none⟩) 2 2 ∧ Row W k 3 [.int .i64 (cmpS a.owner b.owner), .int .i64 (cmpS a.denom b.denom)]
    | 11 => X = .int .i64 (orN [cmpS a.owner b.owner, cmpS a.denom b.denom])
    | 12 => X = .int .i64 (orN [cmpS a.owner b.owner, cmpS a.denom b.denom])
    | _ => True) ?_ (by kernel_rfl) ?_ ?_
  · intro i X W W' HB H
    match i, H with
    | 0, H => exact H
    | 1, H => exact H
    | 2, H => exact H
    | 3, H => exact H
    | 4, H => exact H
    | 5, H => exact H
    | 6, H => exact H
    | 7, H => exact H
    | 8, H => exact H
    | 9, H => exact H
    | 10, H => exact (by obtain ⟨k, e, hr⟩ := H; exact ⟨k, e, hr.below HB hr.lt⟩)
    | 11, H => exact H
    | 12, H => exact H
    | _ + 13, _ => exact trivial
  · refine ⟨?_, ?_, ?_, ?_, ?_, ?_, ?_, ?_, ?_, ?_, ?_, ?_, ?_, trivial⟩
    · -- 0: Op.fieldAddr 74 t2 0
      intro σ W HJ hdep
      simp [Region.binds] at hdep
      have HJ := hid HJ
      refine wpOp_plain rfl rfl ?_
      go_simp
      exact Left.mk0 (.pointer (some ⟨ga, 0, none⟩)) (by first | rfl | simp [updF, *]) HJ.out rfl
    · -- 1: Op.load 9 t5
      intro σ W HJ hdep
      simp [Region.binds] at hdep
      have HJ := hid HJ
      have kc := (hra.out.below HJ.out hra.out.lt).cell 0
      simp at kc
      refine wpOp_plain rfl rfl ?_
      go_simp
      exact Left.mk0 (.string a.owner) (by first | rfl | simp [updF, *]) HJ.out rfl
    · -- 2: Op.fieldAddr 74 t3 0
      intro σ W HJ hdep
      simp [Region.binds] at hdep
      have HJ := hid HJ
      refine wpOp_plain rfl rfl ?_
      go_simp
      exact Left.mk0 (.pointer (some ⟨gb, 0, none⟩)) (by first | rfl | simp [updF, *]) HJ.out rfl
    · -- 3: Op.load 9 t7
      intro σ W HJ hdep
      simp [Region.binds] at hdep
      have HJ := hid HJ
      have kc := (hrb.out.below HJ.out hrb.out.lt).cell 0
      simp at kc
      refine wpOp_plain rfl rfl ?_
      go_simp
      exact Left.mk0 (.string b.owner) (by first | rfl | simp [updF, *]) HJ.out rfl
    · -- 4: Op.call { value (Operand.func 51), args := #[t6, t8], argTyp
      intro σ W HJ hdep
      simp [Region.binds] at hdep
      have HJ := hid HJ
      refine wpOp_plain rfl rfl ?_
      go_simp
      refine (compareS_any a.owner b.owner W).mono ?_
      rintro e w2 ⟨rfl, hw2⟩
      obtain rfl := hw2.symm
      exact Left.mk0 (.int .i64 (cmpS a.owner b.owner)) (by first | rfl | simp [updF, *]) HJ.out rfl
    · -- 5: Op.fieldAddr 74 t2 1
      intro σ W HJ hdep
      simp [Region.binds] at hdep
      have HJ := hid HJ
      refine wpOp_plain rfl rfl ?_
      go_simp
      exact Left.mk0 (.pointer (some ⟨ga, 1, none⟩)) (by first | rfl | simp [updF, *]) HJ.out rfl
    · -- 6: Op.load 9 t10
      intro σ W HJ hdep
      simp [Region.binds] at hdep
      have HJ := hid HJ
      have kc := (hra.out.below HJ.out hra.out.lt).cell 1
      simp at kc
      refine wpOp_plain rfl rfl ?_
      go_simp
      exact Left.mk0 (.string a.denom) (by first | rfl | simp [updF, *]) HJ.out rfl
    · -- 7: Op.fieldAddr 74 t3 1
      intro σ W HJ hdep
      simp [Region.binds] at hdep
      have HJ := hid HJ
      refine wpOp_plain rfl rfl ?_
      go_simp
      exact Left.mk0 (.pointer (some ⟨gb, 1, none⟩)) (by first | rfl | simp [updF, *]) HJ.out rfl
    · -- 8: Op.load 9 t12
      intro σ W HJ hdep
      simp [Region.binds] at hdep
      have HJ := hid HJ
      have kc := (hrb.out.below HJ.out hrb.out.lt).cell 1
      simp at kc
      refine wpOp_plain rfl rfl ?_
      go_simp
      exact Left.mk0 (.string b.denom) (by first | rfl | simp [updF, *]) HJ.out rfl
    · -- 9: Op.call { value (Operand.func 51), args := #[t11, t13], argT
      intro σ W HJ hdep
      simp [Region.binds] at hdep
      have HJ := hid HJ
      refine wpOp_plain rfl rfl ?_
      go_simp
      refine (compareS_any a.denom b.denom W).mono ?_
      rintro e w2 ⟨rfl, hw2⟩
      obtain rfl := hw2.symm
      exact Left.mk0 (.int .i64 (cmpS a.denom b.denom)) (by first | rfl | simp [updF, *]) HJ.out rfl
    · -- 10: Op.buildSlice 104 2 #[(0, t9), (1, t14)]
      intro σ W HJ hdep
      simp [Region.binds] at hdep
      have HJ := hid HJ
      obtain ⟨e1, e2⟩ := hdep
      refine wpOp_plain rfl rfl ?_
      go_simp
      exact Left.mk (.slice (some ⟨W.heap.size, 0, none⟩) 2 2) (by first | rfl | simp [updF, *]) ((Below.refl _ _).alloc (Nat.le_refl _) _) HJ.out ⟨W.heap.size, rfl, Row.new _ _ _⟩
    · -- 11: Op.call { value (Operand.func 47), args := #[t15], argTypes 
      intro σ W HJ hdep
      simp [Region.binds] at hdep
      have HJ := hid HJ
      obtain ⟨k, e10, hrow⟩ : ∃ k, σ 10 = .slice (some ⟨k, 0, none⟩) 2 2 ∧ Row W k 3 [.int .i64 (cmpS a.owner b.owner), .int .i64 (cmpS a.denom b.denom)] := by first | exact hdep | exact hdep.1
      have HC := hid (orI_any [cmpS a.owner b.owner, cmpS a.denom b.denom] k 2 3 W hrow rfl (by decide))
      clear hdep hrow
      refine wpOp_plain rfl rfl ?_
      go_simp
      refine (HC.out).mono ?_
      rintro e w2 ⟨rfl, hw2⟩
      obtain rfl := hw2.symm
      exact Left.mk0 (.int .i64 (orN [cmpS a.owner b.owner, cmpS a.denom b.denom])) (by first | rfl | simp [updF, *]) HJ.out rfl
    · -- 12: Op.assign t16
      intro σ W HJ hdep
      simp [Region.binds] at hdep
      have HJ := hid HJ
      refine wpOp_plain rfl rfl ?_
      go_simp
      exact Left.mk0 (.int .i64 (orN [cmpS a.owner b.owner, cmpS a.denom b.denom])) (by first | rfl | simp [updF, *]) HJ.out rfl
  · intro σ w' hb hg
    exact hQ.out σ w' hb (by first | exact ⟨hg 12 (by decide)⟩ | exact hg 12 (by decide))
set_option maxHeartbeats 2000000 in
theorem compareMarks_any (a b : Mk) (oa ob : Option Addr) (ca cb : Nat) (w : World) : Calls Tryz.prog 39 #[.agg #[.int .i64 a.chan, .int .i64 a.seq, .slice oa a.dig.length ca], .agg #[.int .i64 b.chan, .int .i64 b.seq, .slice ob b.dig.length cb]] w fun e w' => e = .returned (.int .i64 (orN [cmpN a.chan b.chan, cmpN a.seq b.seq])) ∧ Below w.heap.size w w' := by
  obtain ⟨w0, hw0⟩ : ∃ w0, (w.alloc (.cells #[.int .i64 a.chan, .int .i64 a.seq, .slice oa a.dig.length ca] 99)).alloc (.cells #[.int .i64 b.chan, .int .i64 b.seq, .slice ob b.dig.length cb] 99) = w0 := ⟨_, rfl⟩
  have HB0 := hid (show Below w.heap.size w w0 by rw [← hw0]; exact ((Below.refl _ _).alloc (Nat.le_refl _) _).alloc (by simp) _)
  have HRA := hid (show Row w0 w.heap.size 99 [.int .i64 a.chan, .int .i64 a.seq, .slice oa a.dig.length ca] by rw [← hw0]; exact (Row.new _ _ _).alloc _)
  have HRB := hid (show Row w0 (w.heap.size + 1) 99 [.int .i64 b.chan, .int .i64 b.seq, .slice ob b.dig.length cb] by rw [← hw0]; exact Row.newAt _ _ _ _ (by simp))
  have HW0 := hid hw0
  clear hw0
  go_enter Tryz.func39, Tryz.ntmps39
  go_wp2_with fail
  rw [HW0.out]
  refine cmpMkRegion a b oa ob ca cb HRA HRB _ (hid ?_)
  intro σ1 w2 hb2 h12
  have HB2 := hid (HB0.out.trans (hb2.mono HB0.out.size))
  rw [h12]
  clear hb2 h12
  go_wp2
  go_ret
  exact ⟨by first | done | rfl, HB2.out⟩
set_option maxHeartbeats 2000000 in
theorem comparePurses_any (a b : Pu)  (w : World) : Calls Tryz.prog 43 #[.agg #[.string a.owner, .string a.denom, .int .u64 (a.amount : Int)], .agg #[.string b.owner, .string b.denom, .int .u64 (b.amount : Int)]] w fun e w' => e = .returned (.int .i64 (orN [cmpS a.owner b.owner, cmpS a.denom b.denom])) ∧ Below w.heap.size w w' := by
  obtain ⟨w0, hw0⟩ : ∃ w0, (w.alloc (.cells #[.string a.owner, .string a.denom, .int .u64 (a.amount : Int)] 85)).alloc (.cells #[.string b.owner, .string b.denom, .int .u64 (b.amount : Int)] 85) = w0 := ⟨_, rfl⟩
  have HB0 := hid (show Below w.heap.size w w0 by rw [← hw0]; exact ((Below.refl _ _).alloc (Nat.le_refl _) _).alloc (by simp) _)
  have HRA := hid (show Row w0 w.heap.size 85 [.string a.owner, .string a.denom, .int .u64 (a.amount : Int)] by rw [← hw0]; exact (Row.new _ _ _).alloc _)
  have HRB := hid (show Row w0 (w.heap.size + 1) 85 [.string b.owner, .string b.denom, .int .u64 (b.amount : Int)] by rw [← hw0]; exact Row.newAt _ _ _ _ (by simp))
  have HW0 := hid hw0
  clear hw0
  go_enter Tryz.func43, Tryz.ntmps43
  go_wp2_with fail
  rw [HW0.out]
  refine cmpPuRegion a b  HRA HRB _ (hid ?_)
  intro σ1 w2 hb2 h12
  have HB2 := hid (HB0.out.trans (hb2.mono HB0.out.size))
  rw [h12]
  clear hb2 h12
  go_wp2
  go_ret
  exact ⟨by first | done | rfl, HB2.out⟩
theorem lessMk_cmp (a b : Mk) : lessMk a b = decide (orN [cmpN a.chan b.chan, cmpN a.seq b.seq] < 0) := by
  unfold lessMk orN cmpN
  by_cases h1 : a.chan < b.chan
  · simp [h1]
  · by_cases h2 : b.chan < a.chan
    · have : ¬ a.chan = b.chan := by omega
      simp [h1, h2, this]
    · have e : a.chan = b.chan := by omega
      by_cases h3 : a.seq < b.seq
      · simp [orN, e, h3]
      · by_cases h4 : b.seq < a.seq <;> simp [orN, e, h3, h4]
theorem bytesLess_cmp : ∀ (a b : List UInt8), Op.bytesLess a b = decide (Lib.compareBytes a b < 0) ∧ (Lib.compareBytes a b = 0 ↔ a = b)
  | [], [] => ⟨rfl, by simp [Lib.compareBytes]⟩
  | [], y :: b => ⟨rfl, by simp [Lib.compareBytes]⟩
  | x :: a, [] => ⟨rfl, by simp [Lib.compareBytes]⟩
  | x :: a, y :: b => by
    obtain ⟨h1, h2⟩ := bytesLess_cmp a b
    unfold Op.bytesLess Lib.compareBytes
    by_cases g1 : x < y
    · have : x ≠ y := fun e => by subst e; exact absurd g1 (UInt8.lt_irrefl x)
      simp [g1, this]
    · by_cases g2 : y < x
      · have : x ≠ y := fun e => by subst e; exact absurd g2 (UInt8.lt_irrefl x)
        simp [g1, g2, this]
      · have e : x = y := by
          have a1 : ¬ x.toNat < y.toNat := g1
          have a2 : ¬ y.toNat < x.toNat := g2
          exact UInt8.toNat_inj.1 (by omega)
        subst e
        simp [g1, h1, h2]
theorem lessPu_cmp (a b : Pu) : lessPu a b = decide (orN [cmpS a.owner b.owner, cmpS a.denom b.denom] < 0) := by
  have e : ∀ x : ByteArray, x.toList = x.data.toList := fun x => by rw [ByteArray.toList_eq]
  obtain ⟨h1, h2⟩ := bytesLess_cmp a.owner.data.toList b.owner.data.toList
  obtain ⟨h3, h4⟩ := bytesLess_cmp a.denom.data.toList b.denom.data.toList
  have h5 : a.owner = b.owner ↔ a.owner.data.toList = b.owner.data.toList := by
    constructor
    · intro h; rw [h]
    · intro h; exact ByteArray.ext (Array.toList_inj.1 h)
  unfold lessPu lessS cmpS
  rw [e, e, e, e, h1, h3]
  by_cases z : Lib.compareBytes a.owner.data.toList b.owner.data.toList = 0
  · have := h5.2 (h2.1 z)
    rw [decide_eq_true this]
    by_cases z2 : Lib.compareBytes a.denom.data.toList b.denom.data.toList = 0 <;> simp [orN, z, z2]
  · have : ¬ a.owner = b.owner := fun h => z (h2.2 (h5.1 h))
    rw [decide_eq_false this]
    simp [orN, z]
end Go.Proofs.YtbjlfhabnjpdmaaGreatDoor
